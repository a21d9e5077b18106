/-
  Ti: my texts of that device in one, in a namespace of its own. Made by wip/tools/merge.py.
-/
import Derived.Test.YtkodoldkfeopdaaGreatVRow
/- T -/
namespace Go.Proofs.YtkodoldkfeopdaaGreat.Ti
open Go.RowKit
set_option linter.unusedVariables false
set_option maxRecDepth 100000
structure Tm where
  a : Nat
  b : Nat
  c : Nat
def tc (t : Tm) : List Value := [.int .u16 (t.a : Int), .int .u16 (t.b : Int), .int .u16 (t.c : Int)]
def tv (t : Tm) : Value := .agg #[.int .u16 (t.a : Int), .int .u16 (t.b : Int), .int .u16 (t.c : Int)]
theorem tc_one (t : Tm) : ∀ u ∈ tc t, u.oneCell' = true := by
  intro u hu
  simp only [tc, List.mem_cons, List.not_mem_nil, or_false] at hu
  rcases hu with rfl | rfl | rfl <;> rfl
/-- Its numbers are of 16 bits. -/
structure Tm.ok (t : Tm) : Prop where
  a : t.a < 65536
  b : t.b < 65536
  c : t.c < 65536
theorem tv_eq (t : Tm) : tv t = .agg (tc t).toArray := rfl
def TRow (w : World) (g : Nat) (ty : TypeId) (t : Tm) : Prop := VRow w g ty (tc t)
section
variable {w w' : World} {B g : Nat} {ty : TypeId} {t u : Tm}
theorem TRow.below (h : TRow w g ty t) (hb : Below B w w') (hg : g < B) : TRow w' g ty t := VRow.below h hb hg
theorem TRow.lt (h : TRow w g ty t) : g < w.heap.size := VRow.lt h
theorem TRow.c0 (h : TRow w g ty t) : w.cell? ⟨g, 0, none⟩ = some (.int .u16 (t.a : Int)) := VRow.cell h 0 _ rfl
theorem TRow.c1 (h : TRow w g ty t) : w.cell? ⟨g, 1, none⟩ = some (.int .u16 (t.b : Int)) := VRow.cell h 1 _ rfl
theorem TRow.c2 (h : TRow w g ty t) : w.cell? ⟨g, 2, none⟩ = some (.int .u16 (t.c : Int)) := VRow.cell h 2 _ rfl
theorem TRow.other (h : TRow w g ty t) {r : Nat} (ho : ∀ j, j ≠ r → w'.heap[j]? = w.heap[j]?) (hr : g ≠ r) : TRow w' g ty t := (ho g hr).trans h
end
section
variable {P : Program} {w : World} {t u : Tm}
theorem wpList_load_t {ops : Array Oper} {rest : List Oper} {o : Oper} {a : Act} {Q : Exit → Act → World → Prop} (hw : Region.wanted o (yielded ops a.tmps) = true) (ty : TypeId) (x : Operand) (ho : o.op = .load ty x) (g : Nat) (hx : a.eval x = .pointer (some ⟨g, 0, none⟩))
    (fs : Array Field) (hu : P.underlying ty = some (.struct fs)) (hi : (P.info? ty).map (·.size) = some 3) (tt : TypeId) (hr : TRow w g tt t) (h : wpList P ops Q rest (a.put o.dst (tv t)) w) : wpList P ops Q (o :: rest) a w :=
  wpList_load_v hw ty x ho g hx fs hu tt (tc t) hr hi h
theorem wpList_store_t {ops : Array Oper} {rest : List Oper} {o : Oper} {a : Act} {Q : Exit → Act → World → Prop} (hgd : o.guard = none) (ty : TypeId) (x v : Operand) (ho : o.op = .store ty x v) (g : Nat) (hx : a.eval x = .pointer (some ⟨g, 0, none⟩))
    (hv : a.eval v = tv u) (hi : (P.info? ty).map (·.size) = some 3) (tt : TypeId) (hr : TRow w g tt t)
    (h : ∀ W, Hid (TRow W g tt u) → Hid (∀ k, k ≠ g → W.heap[k]? = w.heap[k]?) → Hid (Below g w W) → wpList P ops Q rest (a.put o.dst undef) W) : wpList P ops Q (o :: rest) a w :=
  wpList_store_v hgd ty x v ho g hx (tc u) hv hi (tc_one u) tt (tc t) hr rfl h
theorem wp_store_t {o : Oper} {a : Act} {K : Act → World → Prop} {Q : Exit → Act → World → Prop} (ty : TypeId) (x v : Operand) (ho : o.op = .store ty x v) (g : Nat) (hx : a.eval x = .pointer (some ⟨g, 0, none⟩))
    (hv : a.eval v = tv u) (hi : (P.info? ty).map (·.size) = some 3) (tt : TypeId) (hr : TRow w g tt t)
    (h : ∀ W, Hid (TRow W g tt u) → Hid (∀ k, k ≠ g → W.heap[k]? = w.heap[k]?) → Hid (Below g w W) → K (a.put o.dst undef) W) : o.wp P a w K Q :=
  wp_store_v ty x v ho g hx (tc u) hv hi (tc_one u) tt (tc t) hr rfl h
theorem run_loadVar_t (w : World) (g : Nat) (ty : TypeId) (fs : Array Field) (hu : P.underlying ty = some (.struct fs)) (hi : (P.info? ty).map (·.size) = some 3) (tt : TypeId) (hr : TRow w g tt t) : (loadVar ty ⟨g, 0, none⟩).run P w = .ok (tv t) w := run_loadVar_v w g ty fs hu tt (tc t) hr hi
theorem run_load_t {a : Act} (w : World) (ty : TypeId) (x : Operand) (g : Nat) (hx : a.eval x = .pointer (some ⟨g, 0, none⟩)) (fs : Array Field) (hu : P.underlying ty = some (.struct fs)) (hi : (P.info? ty).map (·.size) = some 3) (tt : TypeId) (hr : TRow w g tt t)
    (dst : Option Tmp) (type : TypeId) (pos : String) (after : Array Edge) (guard : Option (Nat × Bool)) : (execOp a.eval ⟨dst, .load ty x, type, pos, after, guard⟩).run P w = .ok (.value (tv t)) w := run_load_v w ty x g hx fs hu tt (tc t) hr hi dst type pos after guard
end
/-! ### plain words -/
/-- The lowest 16 bits. -/
def low16 (v : Int) : Nat := (v % 65536).toNat
theorem low16_cast (v : Int) : ((low16 v : Nat) : Int) = v % 65536 := by unfold low16; omega
theorem low16_lt (v : Int) : low16 v < 65536 := by unfold low16; omega
def peekT (t : Tm) (r : Int) : Int := if r = 0 then (t.a : Int) else if r = 1 then (t.b : Int) else if r = 2 then (t.c : Int) else 0
def writeT (t : Tm) (r v : Int) : Tm := if r = 0 then ⟨low16 v, t.b, t.c⟩ else if r = 1 then ⟨t.a, low16 v, t.c⟩ else if r = 2 then ⟨t.a, t.b, low16 v⟩ else t
/-- Does the next tick ask? -/
def asksT (t : Tm) : Bool := decide (t.c % 2 = 1) && decide ((t.a + 1) % 65536 = t.b)
def tickT (t : Tm) : Tm := if t.c % 2 = 0 then t else if (t.a + 1) % 65536 = t.b then ⟨0, t.b, if t.c / 2 % 2 = 0 then t.c - 1 else t.c⟩ else ⟨(t.a + 1) % 65536, t.b, t.c⟩
def ticksT (t : Tm) : Nat → Tm
  | 0 => t
  | n + 1 => tickT (ticksT t n)
def countT (t : Tm) : Nat → Nat
  | 0 => 0
  | n + 1 => countT t n + (if asksT (ticksT t n) = true then 1 else 0)
def nextT (t : Tm) : Nat := if t.c % 2 = 0 then 0 else (t.b + 65535 - t.a) % 65536 + 1
theorem tickT_ok {t : Tm} (h : t.ok) : (tickT t).ok := by
  have h1 := h.a
  have h2 := h.b
  have h3 := h.c
  unfold tickT
  split
  · exact h
  · split
    · exact ⟨Nat.zero_lt_succ _, h2, by show (if t.c / 2 % 2 = 0 then t.c - 1 else t.c) < 65536; split <;> omega⟩
    · exact ⟨by show (t.a + 1) % 65536 < 65536; omega, h2, h3⟩
theorem ticksT_ok {t : Tm} (h : t.ok) : ∀ n, (ticksT t n).ok
  | 0 => h
  | n + 1 => tickT_ok (ticksT_ok h n)
theorem writeT_ok {t : Tm} (h : t.ok) (r v : Int) : (writeT t r v).ok := by
  have := low16_lt v
  unfold writeT
  split
  · exact ⟨this, h.b, h.c⟩
  · split
    · exact ⟨h.a, this, h.c⟩
    · split
      · exact ⟨h.a, h.b, this⟩
      · exact h
theorem countT_le (t : Tm) : ∀ n, countT t n ≤ n
  | 0 => Nat.le_refl _
  | n + 1 => by
    have := countT_le t n
    unfold countT
    split <;> omega
theorem ticksT_add (t : Tm) (m : Nat) : ∀ n, ticksT t (m + n) = ticksT (ticksT t m) n
  | 0 => rfl
  | n + 1 => by rw [show m + (n + 1) = (m + n) + 1 from rfl, ticksT, ticksT_add t m n, ticksT]
theorem countT_add (t : Tm) (m : Nat) : ∀ n, countT t (m + n) = countT t m + countT (ticksT t m) n
  | 0 => rfl
  | n + 1 => by rw [show m + (n + 1) = (m + n) + 1 from rfl, countT, countT_add t m n, countT, ticksT_add, Nat.add_assoc]
/-- A function over one timer: what was handed in, and what is answered. -/
structure Tw (w W : World) (g r : Nat) (ty : TypeId) (t : Tm) : Prop where
  q : TRow W g ty t
  z : TRow W r ty ⟨0, 0, 0⟩
  b : Below w.heap.size w W
  lg : w.heap.size ≤ g
  lr : w.heap.size ≤ r
  gr : g ≠ r
section
variable {w W W' : World} {g r : Nat} {ty : TypeId} {t u : Tm}
theorem Tw.under (h : Tw w W g r ty t) (hb : Below W.heap.size W W') : Tw w W' g r ty t := ⟨h.q.below hb h.q.lt, h.z.below hb h.z.lt, h.b.trans (hb.mono h.b.size), h.lg, h.lr, h.gr⟩
theorem Tw.setG (h : Tw w W g r ty t) (hn : TRow W' g ty u) (ho : ∀ j, j ≠ g → W'.heap[j]? = W.heap[j]?) (hb : Below g W W') : Tw w W' g r ty u := ⟨hn, h.z.other ho h.gr.symm, h.b.trans (hb.mono h.lg), h.lg, h.lr, h.gr⟩
theorem Tw.new (ty : TypeId) (hq : W.heap[w.heap.size]? = some (.cells (tc t).toArray ty)) (hz : W.heap[w.heap.size + 1]? = some (.cells (tc ⟨0, 0, 0⟩).toArray ty)) (hB : Below w.heap.size w W) : Tw w W w.heap.size (w.heap.size + 1) ty t :=
  ⟨hq, hz, hB, Nat.le_refl _, by omega, by omega⟩
end
/-! ### what is asked of each function -/
def PeekC (f : Nat) : Prop := ∀ (t : Tm) (r : Int) (w : World), t.ok → -9223372036854775808 ≤ r → r ≤ 9223372036854775807 → Calls Tryz.prog f #[tv t, .int .i64 r] w fun x w' => x = .returned (.int .i32 (peekT t r)) ∧ Below w.heap.size w w'
def WriteC (f : Nat) : Prop := ∀ (t : Tm) (r v : Int) (w : World), t.ok → -9223372036854775808 ≤ r → r ≤ 9223372036854775807 → -2147483648 ≤ v → v ≤ 2147483647 → Calls Tryz.prog f #[tv t, .int .i64 r, .int .i32 v] w fun x w' => x = .returned (tv (writeT t r v)) ∧ Below w.heap.size w w'
def TickC (f : Nat) : Prop := ∀ (t : Tm) (w : World), t.ok → Calls Tryz.prog f #[tv t] w fun x w' => x = .returned (.tuple #[tv (tickT t), .bool (asksT t)]) ∧ Below w.heap.size w w'
def TicksC (f : Nat) : Prop := ∀ (t : Tm) (n : Int) (w : World), t.ok → -9223372036854775808 ≤ n → n ≤ 9223372036854775807 → Calls Tryz.prog f #[tv t, .int .i64 n] w fun x w' => x = .returned (.tuple #[tv (ticksT t n.toNat), .int .i64 (countT t n.toNat : Nat)]) ∧ Below w.heap.size w w'
def NextC (f : Nat) : Prop := ∀ (t : Tm) (w : World), t.ok → Calls Tryz.prog f #[tv t] w fun x w' => x = .returned (.int .i64 (nextT t : Nat)) ∧ Below w.heap.size w w'
/-- The program's functions. -/
structure TimerOk : Prop where
  peek : PeekC 80
  write : WriteC 120
  tick : TickC 34
end Go.Proofs.YtkodoldkfeopdaaGreat.Ti
/- Rlow -/
namespace Go.Proofs.YtkodoldkfeopdaaGreat.Ti
open Go.RowKit
set_option linter.unusedVariables false
set_option maxRecDepth 100000
theorem low_eq (v : Int) : IntKind.u16.wrap ((wrap64 (v.tmod 65536 + 65536)).tmod 65536) = ((low16 v : Nat) : Int) := by
  have h1 := tmod_lt2 v 65536 (by decide)
  have h2 : v.tmod 65536 % 65536 = v % 65536 := by
    have := Int.tmod_add_mul_tdiv v 65536
    omega
  rw [low16_cast]
  generalize v.tmod 65536 = x at *
  have e1 : wrap64 (x + 65536) = x + 65536 := by
    unfold wrap64
    omega
  rw [e1, Int.tmod_eq_emod_of_nonneg (by omega)]
  simp [IntKind.wrap, IntKind.bits, IntKind.signed]
  omega
theorem rLow_any (v : Int) (w : World) (h0 : -2147483648 ≤ v) (h1 : v ≤ 2147483647) : Calls Tryz.prog 42 #[.int .i32 v] w fun x w' => x = .returned (.int .u16 (low16 v : Nat)) ∧ w' = w := by
  have HE := Lib.hid (low_eq v)
  go_enter Tryz.func42, Tryz.ntmps42
  go_wp2
  go_ret
  exact ⟨by rw [← HE.out]; rfl, rfl⟩
end Go.Proofs.YtkodoldkfeopdaaGreat.Ti
/- Rpeek -/
namespace Go.Proofs.YtkodoldkfeopdaaGreat.Ti
open Go.RowKit
set_option linter.unusedVariables false
set_option maxRecDepth 100000
set_option maxRecDepth 100000 in
theorem rPeekT_any : PeekC 46 := by
  intro t rg w h hg0 hg1
  have ha := h.a
  have hb := h.b
  have hc := h.c
  unfold tv
  by_cases h0 : rg = 0
  · subst h0
    have HE : Hid (peekT t 0 = (t.a : Int)) := Lib.hid (if_pos rfl)
    go_enter Tryz.func46, Tryz.ntmps46
    go_wp2
    go_ret
    exact ⟨by rw [HE.out]; rfl, (Below.refl _ _).alloc (Nat.le_refl _) _⟩
  by_cases h1 : rg = 1
  · subst h1
    have HE : Hid (peekT t 1 = (t.b : Int)) := Lib.hid ((if_neg (by decide)).trans (if_pos rfl))
    go_enter Tryz.func46, Tryz.ntmps46
    go_wp2
    go_ret
    exact ⟨by rw [HE.out]; rfl, (Below.refl _ _).alloc (Nat.le_refl _) _⟩
  by_cases h2 : rg = 2
  · subst h2
    have HE : Hid (peekT t 2 = (t.c : Int)) := Lib.hid ((if_neg (by decide)).trans ((if_neg (by decide)).trans (if_pos rfl)))
    go_enter Tryz.func46, Tryz.ntmps46
    go_wp2
    go_ret
    exact ⟨by rw [HE.out]; rfl, (Below.refl _ _).alloc (Nat.le_refl _) _⟩
  · have HE : Hid (peekT t rg = 0) := Lib.hid ((if_neg h0).trans ((if_neg h1).trans (if_neg h2)))
    go_enter Tryz.func46, Tryz.ntmps46
    go_wp2
    go_ret
    exact ⟨by rw [HE.out]; rfl, (Below.refl _ _).alloc (Nat.le_refl _) _⟩
set_option maxHeartbeats 400000 in
set_option maxRecDepth 100000 in
theorem rWriteT_any : WriteC 24 := by
  intro t rg v w h hg0 hg1 hv0 hv1
  have HL := Lib.hid (fun W => rLow_any v W hv0 hv1)
  unfold tv
  go_enter Tryz.func24, Tryz.ntmps24
  go_upto_region 1 with (fail)
  refine name_two (Q := fun X => Code.wp _ _ _ _ X) ?_
  intro W0 hq1 hq2 hB0
  have T0 := Lib.hid (Tw.new (t := t) 42 hq1 hq2 hB0)
  clear hq1 hq2 hB0
  obtain ⟨g, hg⟩ : ∃ g, w.heap.size = g := ⟨_, rfl⟩
  obtain ⟨r, hr⟩ : ∃ r, w.heap.size + 1 = r := ⟨_, rfl⟩
  rw [hr, hg] at T0 ⊢
  clear hr hg
  by_cases h0 : rg = 0
  · subst h0
    have HE : Hid (writeT t 0 v = ⟨low16 v, t.b, t.c⟩) := Lib.hid (if_pos rfl)
    go_wp2_with (first
      | ((with_reducible show wpList _ _ _ (⟨none, .store 42 (.tmp 6) (.tmp 23), _, _, _, _⟩ :: _) _ _); refine wpList_store_t rfl 42 _ _ rfl r (by exact rfl) (by exact rfl) (by kernel_rfl) 42 T1.out.z ?_; intro WZ HN HO HB
         have HZ := HN
         have BZ := Lib.hid (T1.out.b.trans (HB.out.mono T1.out.lr))
         clear HN HO HB)
      | ((with_reducible show wpList _ _ _ (⟨some 23, .load 42 (.tmp 3), _, _, _, _⟩ :: _) _ _); refine wpList_load_t (by rfl) 42 _ rfl g (by exact rfl) _ Tryz.underlying42 (by kernel_rfl) 42 T1.out.q ?_)
      | ((with_reducible show wpList _ _ _ (⟨none, .store 30 (.tmp 12) (.tmp 11), _, _, _, _⟩ :: _) _ _); refine wpList_store_c rfl 30 _ _ rfl g 0 (by exact rfl) (.int .u16 ((low16 v : Nat) : Int)) (by exact rfl) rfl (by kernel_rfl) 42 _ T0.out.q (show 0 < 3 by decide) ?_; intro WT1 HN HO HB
         have T1 : Hid (Tw w WT1 g r 42 ⟨low16 v, t.b, t.c⟩) := Lib.hid (T0.out.setG HN.out HO.out HB.out)
         clear HN HO HB)
      | (go_at_call 42; refine (HL.out _).mono ?_; rintro e W9 ⟨rfl, rfl⟩))
    exact bodyPost_ret (v := tv (⟨low16 v, t.b, t.c⟩)) (results_c Tryz.results24 _ _ _ _ _ rfl (run_loadVar_t WZ r 42 _ Tryz.underlying42 (by kernel_rfl) 42 HZ.out)) rfl ⟨by first | (rw [HE.out]; done) | (rw [HE.out]; rfl), BZ.out⟩
  by_cases h1 : rg = 1
  · subst h1
    have HE : Hid (writeT t 1 v = ⟨t.a, low16 v, t.c⟩) := Lib.hid ((if_neg (by decide)).trans (if_pos rfl))
    go_wp2_with (first
      | ((with_reducible show wpList _ _ _ (⟨none, .store 42 (.tmp 6) (.tmp 23), _, _, _, _⟩ :: _) _ _); refine wpList_store_t rfl 42 _ _ rfl r (by exact rfl) (by exact rfl) (by kernel_rfl) 42 T1.out.z ?_; intro WZ HN HO HB
         have HZ := HN
         have BZ := Lib.hid (T1.out.b.trans (HB.out.mono T1.out.lr))
         clear HN HO HB)
      | ((with_reducible show wpList _ _ _ (⟨some 23, .load 42 (.tmp 3), _, _, _, _⟩ :: _) _ _); refine wpList_load_t (by rfl) 42 _ rfl g (by exact rfl) _ Tryz.underlying42 (by kernel_rfl) 42 T1.out.q ?_)
      | ((with_reducible show wpList _ _ _ (⟨none, .store 30 (.tmp 17) (.tmp 16), _, _, _, _⟩ :: _) _ _); refine wpList_store_c rfl 30 _ _ rfl g 1 (by exact rfl) (.int .u16 ((low16 v : Nat) : Int)) (by exact rfl) rfl (by kernel_rfl) 42 _ T0.out.q (show 1 < 3 by decide) ?_; intro WT1 HN HO HB
         have T1 : Hid (Tw w WT1 g r 42 ⟨t.a, low16 v, t.c⟩) := Lib.hid (T0.out.setG HN.out HO.out HB.out)
         clear HN HO HB)
      | (go_at_call 42; refine (HL.out _).mono ?_; rintro e W9 ⟨rfl, rfl⟩))
    exact bodyPost_ret (v := tv (⟨t.a, low16 v, t.c⟩)) (results_c Tryz.results24 _ _ _ _ _ rfl (run_loadVar_t WZ r 42 _ Tryz.underlying42 (by kernel_rfl) 42 HZ.out)) rfl ⟨by first | (rw [HE.out]; done) | (rw [HE.out]; rfl), BZ.out⟩
  by_cases h2 : rg = 2
  · subst h2
    have HE : Hid (writeT t 2 v = ⟨t.a, t.b, low16 v⟩) := Lib.hid ((if_neg (by decide)).trans ((if_neg (by decide)).trans (if_pos rfl)))
    go_wp2_with (first
      | ((with_reducible show wpList _ _ _ (⟨none, .store 42 (.tmp 6) (.tmp 23), _, _, _, _⟩ :: _) _ _); refine wpList_store_t rfl 42 _ _ rfl r (by exact rfl) (by exact rfl) (by kernel_rfl) 42 T1.out.z ?_; intro WZ HN HO HB
         have HZ := HN
         have BZ := Lib.hid (T1.out.b.trans (HB.out.mono T1.out.lr))
         clear HN HO HB)
      | ((with_reducible show wpList _ _ _ (⟨some 23, .load 42 (.tmp 3), _, _, _, _⟩ :: _) _ _); refine wpList_load_t (by rfl) 42 _ rfl g (by exact rfl) _ Tryz.underlying42 (by kernel_rfl) 42 T1.out.q ?_)
      | ((with_reducible show wpList _ _ _ (⟨none, .store 30 (.tmp 22) (.tmp 21), _, _, _, _⟩ :: _) _ _); refine wpList_store_c rfl 30 _ _ rfl g 2 (by exact rfl) (.int .u16 ((low16 v : Nat) : Int)) (by exact rfl) rfl (by kernel_rfl) 42 _ T0.out.q (show 2 < 3 by decide) ?_; intro WT1 HN HO HB
         have T1 : Hid (Tw w WT1 g r 42 ⟨t.a, t.b, low16 v⟩) := Lib.hid (T0.out.setG HN.out HO.out HB.out)
         clear HN HO HB)
      | (go_at_call 42; refine (HL.out _).mono ?_; rintro e W9 ⟨rfl, rfl⟩))
    exact bodyPost_ret (v := tv (⟨t.a, t.b, low16 v⟩)) (results_c Tryz.results24 _ _ _ _ _ rfl (run_loadVar_t WZ r 42 _ Tryz.underlying42 (by kernel_rfl) 42 HZ.out)) rfl ⟨by first | (rw [HE.out]; done) | (rw [HE.out]; rfl), BZ.out⟩
  · have HE : Hid (writeT t rg v = t) := Lib.hid ((if_neg h0).trans ((if_neg h1).trans (if_neg h2)))
    go_wp2_with (first
      | ((with_reducible show wpList _ _ _ (⟨none, .store 42 (.tmp 6) (.tmp 23), _, _, _, _⟩ :: _) _ _); refine wpList_store_t rfl 42 _ _ rfl r (by exact rfl) (by exact rfl) (by kernel_rfl) 42 T0.out.z ?_; intro WZ HN HO HB
         have HZ := HN
         have BZ := Lib.hid (T0.out.b.trans (HB.out.mono T0.out.lr))
         clear HN HO HB)
      | ((with_reducible show wpList _ _ _ (⟨some 23, .load 42 (.tmp 3), _, _, _, _⟩ :: _) _ _); refine wpList_load_t (by rfl) 42 _ rfl g (by exact rfl) _ Tryz.underlying42 (by kernel_rfl) 42 T0.out.q ?_))
    exact bodyPost_ret (v := tv (t)) (results_c Tryz.results24 _ _ _ _ _ rfl (run_loadVar_t WZ r 42 _ Tryz.underlying42 (by kernel_rfl) 42 HZ.out)) rfl ⟨by first | (rw [HE.out]; done) | (rw [HE.out]; rfl), BZ.out⟩
end Go.Proofs.YtkodoldkfeopdaaGreat.Ti
/- Rtick -/
namespace Go.Proofs.YtkodoldkfeopdaaGreat.Ti
open Go.RowKit
set_option linter.unusedVariables false
set_option maxRecDepth 100000
set_option maxHeartbeats 400000 in
set_option maxRecDepth 100000 in
theorem rTickT_any : TickC 36 := by
  intro t w h
  have ha := h.a
  have hb := h.b
  have hc := h.c
  unfold tv
  go_enter Tryz.func36, Tryz.ntmps36
  go_upto_region 1 with (fail)
  refine name_two (Q := fun X => Code.wp _ _ _ _ X) ?_
  intro W0 hq1 hq2 hB0
  have T0 := Lib.hid (Tw.new (t := t) 42 hq1 hq2 hB0)
  clear hq1 hq2 hB0
  obtain ⟨g, hg⟩ : ∃ g, w.heap.size = g := ⟨_, rfl⟩
  obtain ⟨r, hr⟩ : ∃ r, w.heap.size + 1 = r := ⟨_, rfl⟩
  rw [hr, hg] at T0 ⊢
  clear hr hg
  have c2 := T0.out.q.c2
  have c0 := T0.out.q.c0
  by_cases hr : t.c % 2 = 0
  · have HE : Hid (tickT t = t) := Lib.hid (if_pos hr)
    have HA : Hid (asksT t = false) := Lib.hid (by unfold asksT; rw [decide_eq_false (by omega)]; rfl)
    have d1 : (t.c : Int) % 2 = 0 := by omega
    clear hr
    go_wp2_with (first
      | ((with_reducible show wpList _ _ _ (⟨none, .store 42 (.tmp 2) (.tmp 8), _, _, _, _⟩ :: _) _ _); refine wpList_store_t rfl 42 _ _ rfl r (by exact rfl) (by exact rfl) (by kernel_rfl) 42 T0.out.z ?_; intro WZ HN HO HB
         have HZ := HN
         have BZ := Lib.hid (T0.out.b.trans (HB.out.mono T0.out.lr))
         clear HN HO HB)
      | ((with_reducible show wpList _ _ _ (⟨some 8, .load 42 (.tmp 1), _, _, _, _⟩ :: _) _ _); refine wpList_load_t (by rfl) 42 _ rfl g (by exact rfl) _ Tryz.underlying42 (by kernel_rfl) 42 T0.out.q ?_))
    exact bodyPost_ret (v := .tuple #[tv (t), .bool false]) (results_ct Tryz.results36 _ _ _ _ _ _ rfl (run_loadVar_t WZ r 42 _ Tryz.underlying42 (by kernel_rfl) 42 HZ.out) rfl) rfl ⟨by first | (rw [HE.out, HA.out]; done) | (rw [HE.out, HA.out]; rfl), BZ.out⟩
  have d1 : (t.c : Int) % 2 = 1 := by omega
  have HV : Hid (((t.a : Int) + 1) % 65536 = (((t.a + 1) % 65536 : Nat) : Int)) := Lib.hid (by omega)
  have HV2 : Hid (IntKind.u16.wrap (((t.a : Int) + 1) % 65536) = (((t.a + 1) % 65536 : Nat) : Int)) := Lib.hid (by simp [IntKind.wrap, IntKind.bits, IntKind.signed])
  obtain ⟨n, hn⟩ : ∃ n, (t.a + 1) % 65536 = n := ⟨_, rfl⟩
  rw [hn] at HV HV2
  by_cases hq : n = t.b
  · have hne : ((n : Int) != (t.b : Int)) = false := by simp [hq]
    have HA : Hid (asksT t = true) := Lib.hid (by unfold asksT; rw [decide_eq_true (by omega), decide_eq_true (by omega)]; rfl)
    by_cases hag : t.c / 2 % 2 = 0
    · have HE : Hid (tickT t = ⟨0, t.b, t.c - 1⟩) := Lib.hid ((if_neg hr).trans ((if_pos (hn.trans hq)).trans (by rw [if_pos hag])))
      have d2 : ((t.c : Int) / 2) % 2 = 0 := by omega
      have HC : Hid ((t.c : Int) - 1 = ((t.c - 1 : Nat) : Int)) := Lib.hid (by omega)
      have hc1 : 1 ≤ t.c := by omega
      clear hag hq hr hn
      go_wp2_with (first
      | ((with_reducible show wpList _ _ _ (⟨none, .store 42 (.tmp 2) (.tmp 32), _, _, _, _⟩ :: _) _ _); refine wpList_store_t rfl 42 _ _ rfl r (by exact rfl) (by exact rfl) (by kernel_rfl) 42 T3.out.z ?_; intro WZ HN HO HB
         have HZ := HN
         have BZ := Lib.hid (T3.out.b.trans (HB.out.mono T3.out.lr))
         clear HN HO HB)
      | ((with_reducible show wpList _ _ _ (⟨some 32, .load 42 (.tmp 1), _, _, _, _⟩ :: _) _ _); refine wpList_load_t (by rfl) 42 _ rfl g (by exact rfl) _ Tryz.underlying42 (by kernel_rfl) 42 T3.out.q ?_)
      | ((with_reducible show wpList _ _ _ (⟨none, .store 30 (.tmp 31) (.tmp 30), _, _, _, _⟩ :: _) _ _); refine wpList_store_c rfl 30 _ _ rfl g 2 (by exact rfl) (.int .u16 ((t.c - 1 : Nat) : Int)) (by first | exact rfl | (rw [← HC.out]; exact rfl)) rfl (by kernel_rfl) 42 _ T2.out.q (show 2 < 3 by decide) ?_; intro WT3 HN HO HB
         have T3 : Hid (Tw w WT3 g r 42 ⟨0, t.b, t.c - 1⟩) := Lib.hid (T2.out.setG HN.out HO.out HB.out)
         clear HN HO HB)
      | ((with_reducible show wpList _ _ _ (⟨none, .store 30 (.tmp 22) _, _, _, _, _⟩ :: _) _ _); refine wpList_store_c rfl 30 _ _ rfl g 0 (by exact rfl) (.int .u16 ((0 : Nat) : Int)) (by exact rfl) rfl (by kernel_rfl) 42 _ T1.out.q (show 0 < 3 by decide) ?_; intro WT2 HN HO HB
         have T2 : Hid (Tw w WT2 g r 42 ⟨0, t.b, t.c⟩) := Lib.hid (T1.out.setG HN.out HO.out HB.out)
         have e2 := T2.out.q.c2
         clear HN HO HB)
      | ((with_reducible show wpList _ _ _ (⟨none, .store 30 (.tmp 15) (.tmp 14), _, _, _, _⟩ :: _) _ _); refine wpList_store_c rfl 30 _ _ rfl g 0 (by exact rfl) (.int .u16 (n : Int)) (by first | exact rfl | (rw [← HV.out]; exact rfl) | (rw [← HV2.out]; exact rfl)) rfl (by kernel_rfl) 42 _ T0.out.q (show 0 < 3 by decide) ?_; intro WT1 HN HO HB
         have T1 : Hid (Tw w WT1 g r 42 ⟨n, t.b, t.c⟩) := Lib.hid (T0.out.setG HN.out HO.out HB.out)
         have e0 := T1.out.q.c0
         have e1 := T1.out.q.c1
         clear HN HO HB))
      exact bodyPost_ret (v := .tuple #[tv (⟨0, t.b, t.c - 1⟩), .bool true]) (results_ct Tryz.results36 _ _ _ _ _ _ rfl (run_loadVar_t WZ r 42 _ Tryz.underlying42 (by kernel_rfl) 42 HZ.out) rfl) rfl ⟨by first | (rw [HE.out, HA.out]; done) | (rw [HE.out, HA.out]; rfl), BZ.out⟩
    · have HE : Hid (tickT t = ⟨0, t.b, t.c⟩) := Lib.hid ((if_neg hr).trans ((if_pos (hn.trans hq)).trans (by rw [if_neg hag])))
      have d2 : ((t.c : Int) / 2) % 2 = 1 := by omega
      clear hag hq hr hn
      go_wp2_with (first
      | ((with_reducible show wpList _ _ _ (⟨none, .store 42 (.tmp 2) (.tmp 32), _, _, _, _⟩ :: _) _ _); refine wpList_store_t rfl 42 _ _ rfl r (by exact rfl) (by exact rfl) (by kernel_rfl) 42 T2.out.z ?_; intro WZ HN HO HB
         have HZ := HN
         have BZ := Lib.hid (T2.out.b.trans (HB.out.mono T2.out.lr))
         clear HN HO HB)
      | ((with_reducible show wpList _ _ _ (⟨some 32, .load 42 (.tmp 1), _, _, _, _⟩ :: _) _ _); refine wpList_load_t (by rfl) 42 _ rfl g (by exact rfl) _ Tryz.underlying42 (by kernel_rfl) 42 T2.out.q ?_)
      | ((with_reducible show wpList _ _ _ (⟨none, .store 30 (.tmp 22) _, _, _, _, _⟩ :: _) _ _); refine wpList_store_c rfl 30 _ _ rfl g 0 (by exact rfl) (.int .u16 ((0 : Nat) : Int)) (by exact rfl) rfl (by kernel_rfl) 42 _ T1.out.q (show 0 < 3 by decide) ?_; intro WT2 HN HO HB
         have T2 : Hid (Tw w WT2 g r 42 ⟨0, t.b, t.c⟩) := Lib.hid (T1.out.setG HN.out HO.out HB.out)
         have e2 := T2.out.q.c2
         clear HN HO HB)
      | ((with_reducible show wpList _ _ _ (⟨none, .store 30 (.tmp 15) (.tmp 14), _, _, _, _⟩ :: _) _ _); refine wpList_store_c rfl 30 _ _ rfl g 0 (by exact rfl) (.int .u16 (n : Int)) (by first | exact rfl | (rw [← HV.out]; exact rfl) | (rw [← HV2.out]; exact rfl)) rfl (by kernel_rfl) 42 _ T0.out.q (show 0 < 3 by decide) ?_; intro WT1 HN HO HB
         have T1 : Hid (Tw w WT1 g r 42 ⟨n, t.b, t.c⟩) := Lib.hid (T0.out.setG HN.out HO.out HB.out)
         have e0 := T1.out.q.c0
         have e1 := T1.out.q.c1
         clear HN HO HB))
      exact bodyPost_ret (v := .tuple #[tv (⟨0, t.b, t.c⟩), .bool true]) (results_ct Tryz.results36 _ _ _ _ _ _ rfl (run_loadVar_t WZ r 42 _ Tryz.underlying42 (by kernel_rfl) 42 HZ.out) rfl) rfl ⟨by first | (rw [HE.out, HA.out]; done) | (rw [HE.out, HA.out]; rfl), BZ.out⟩
  · have hne : ((n : Int) != (t.b : Int)) = true := by simp; omega
    have HA : Hid (asksT t = false) := Lib.hid (by unfold asksT; rw [decide_eq_true (by omega), decide_eq_false (by omega)]; rfl)
    have HE : Hid (tickT t = ⟨n, t.b, t.c⟩) := Lib.hid ((if_neg hr).trans ((if_neg (by rw [hn]; exact hq)).trans (by rw [hn])))
    clear hq hr hn
    go_wp2_with (first
      | ((with_reducible show wpList _ _ _ (⟨none, .store 42 (.tmp 2) (.tmp 21), _, _, _, _⟩ :: _) _ _); refine wpList_store_t rfl 42 _ _ rfl r (by exact rfl) (by exact rfl) (by kernel_rfl) 42 T1.out.z ?_; intro WZ HN HO HB
         have HZ := HN
         have BZ := Lib.hid (T1.out.b.trans (HB.out.mono T1.out.lr))
         clear HN HO HB)
      | ((with_reducible show wpList _ _ _ (⟨some 21, .load 42 (.tmp 1), _, _, _, _⟩ :: _) _ _); refine wpList_load_t (by rfl) 42 _ rfl g (by exact rfl) _ Tryz.underlying42 (by kernel_rfl) 42 T1.out.q ?_)
      | ((with_reducible show wpList _ _ _ (⟨none, .store 30 (.tmp 15) (.tmp 14), _, _, _, _⟩ :: _) _ _); refine wpList_store_c rfl 30 _ _ rfl g 0 (by exact rfl) (.int .u16 (n : Int)) (by first | exact rfl | (rw [← HV.out]; exact rfl) | (rw [← HV2.out]; exact rfl)) rfl (by kernel_rfl) 42 _ T0.out.q (show 0 < 3 by decide) ?_; intro WT1 HN HO HB
         have T1 : Hid (Tw w WT1 g r 42 ⟨n, t.b, t.c⟩) := Lib.hid (T0.out.setG HN.out HO.out HB.out)
         have e0 := T1.out.q.c0
         have e1 := T1.out.q.c1
         clear HN HO HB))
    exact bodyPost_ret (v := .tuple #[tv (⟨n, t.b, t.c⟩), .bool false]) (results_ct Tryz.results36 _ _ _ _ _ _ rfl (run_loadVar_t WZ r 42 _ Tryz.underlying42 (by kernel_rfl) 42 HZ.out) rfl) rfl ⟨by first | (rw [HE.out, HA.out]; done) | (rw [HE.out, HA.out]; rfl), BZ.out⟩
end Go.Proofs.YtkodoldkfeopdaaGreat.Ti
