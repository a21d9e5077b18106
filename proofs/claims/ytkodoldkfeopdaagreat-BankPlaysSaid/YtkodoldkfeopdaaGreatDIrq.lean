/-
  Iq: my texts of that device in one, in a namespace of its own. Made by wip/tools/merge.py.
-/
import Derived.Test.YtkodoldkfeopdaaGreatVRow
import Derived.Laws.BitsAllLaws
import Derived.IntWalk
/- I -/
namespace Go.Proofs.YtkodoldkfeopdaaGreat.Iq
open Go.RowKit
set_option linter.unusedVariables false
set_option maxRecDepth 100000
structure Ic where
  m : Nat
  p : Nat
/-- Its numbers are bytes. -/
structure Ic.ok (c : Ic) : Prop where
  m : c.m < 256
  p : c.p < 256
def icc (c : Ic) : List Value := [.int .u8 (c.m : Int), .int .u8 (c.p : Int)]
def cv (c : Ic) : Value := .agg #[.int .u8 (c.m : Int), .int .u8 (c.p : Int)]
theorem cv_eq (c : Ic) : cv c = .agg (icc c).toArray := rfl
theorem icc_one (c : Ic) : ∀ u ∈ icc c, u.oneCell' = true := by
  intro u hu
  simp only [icc, List.mem_cons, List.not_mem_nil, or_false] at hu
  rcases hu with rfl | rfl <;> rfl
def CRow (w : World) (g : Nat) (ty : TypeId) (c : Ic) : Prop := VRow w g ty (icc c)
/-- Priorities. -/
structure PsOk (ps : List Int) : Prop where
  len : ps.length = 8
  lo : ∀ x ∈ ps, -9223372036854775808 ≤ x
  hi : ∀ x ∈ ps, x ≤ 9223372036854775807
def psc (ps : List Int) : List Value := ps.map fun x => .int .i64 x
def pv (ps : List Int) : Value := .agg (psc ps).toArray
theorem psc_length (ps : List Int) : (psc ps).length = ps.length := by simp [psc]
theorem psc_one (ps : List Int) : ∀ u ∈ psc ps, u.oneCell' = true := by
  intro u hu
  obtain ⟨x, -, rfl⟩ := List.mem_map.1 hu
  rfl
def prio (ps : List Int) (v : Nat) : Int := ps.getD v 0
section
variable {w w' : World} {B g : Nat} {ty : TypeId} {c d : Ic} {ps : List Int}
theorem CRow.below (h : CRow w g ty c) (hb : Below B w w') (hg : g < B) : CRow w' g ty c := VRow.below h hb hg
theorem CRow.lt (h : CRow w g ty c) : g < w.heap.size := VRow.lt h
theorem CRow.c0 (h : CRow w g ty c) : w.cell? ⟨g, 0, none⟩ = some (.int .u8 (c.m : Int)) := VRow.cell h 0 _ rfl
theorem CRow.c1 (h : CRow w g ty c) : w.cell? ⟨g, 1, none⟩ = some (.int .u8 (c.p : Int)) := VRow.cell h 1 _ rfl
theorem CRow.other (h : CRow w g ty c) {r : Nat} (ho : ∀ j, j ≠ r → w'.heap[j]? = w.heap[j]?) (hr : g ≠ r) : CRow w' g ty c := (ho g hr).trans h
theorem PsOk.prio (h : PsOk ps) (v : Nat) : -9223372036854775808 ≤ prio ps v ∧ prio ps v ≤ 9223372036854775807 := by
  unfold Go.Proofs.YtkodoldkfeopdaaGreat.Iq.prio
  rw [List.getD_eq_getElem?_getD]
  rcases hq : ps[v]? with _ | x
  · simp
  · have := List.mem_of_getElem? hq
    exact ⟨h.lo x this, h.hi x this⟩
end
section
variable {P : Program} {w : World} {c d : Ic} {ps qs : List Int}
theorem wpList_load_c {ops : Array Oper} {rest : List Oper} {o : Oper} {a : Act} {Q : Exit → Act → World → Prop} (hw : Region.wanted o (yielded ops a.tmps) = true) (ty : TypeId) (x : Operand) (ho : o.op = .load ty x) (g : Nat) (hx : a.eval x = .pointer (some ⟨g, 0, none⟩))
    (fs : Array Field) (hu : P.underlying ty = some (.struct fs)) (hi : (P.info? ty).map (·.size) = some 2) (tt : TypeId) (hr : CRow w g tt c) (h : wpList P ops Q rest (a.put o.dst (cv c)) w) : wpList P ops Q (o :: rest) a w :=
  wpList_load_v hw ty x ho g hx fs hu tt (icc c) hr hi h
theorem wpList_store_c2 {ops : Array Oper} {rest : List Oper} {o : Oper} {a : Act} {Q : Exit → Act → World → Prop} (hgd : o.guard = none) (ty : TypeId) (x v : Operand) (ho : o.op = .store ty x v) (g : Nat) (hx : a.eval x = .pointer (some ⟨g, 0, none⟩))
    (hv : a.eval v = cv d) (hi : (P.info? ty).map (·.size) = some 2) (tt : TypeId) (hr : CRow w g tt c)
    (h : ∀ W, Hid (CRow W g tt d) → Hid (∀ k, k ≠ g → W.heap[k]? = w.heap[k]?) → Hid (Below g w W) → wpList P ops Q rest (a.put o.dst undef) W) : wpList P ops Q (o :: rest) a w :=
  wpList_store_v hgd ty x v ho g hx (icc d) hv hi (icc_one d) tt (icc c) hr rfl h
theorem wp_store_c2 {o : Oper} {a : Act} {K : Act → World → Prop} {Q : Exit → Act → World → Prop} (ty : TypeId) (x v : Operand) (ho : o.op = .store ty x v) (g : Nat) (hx : a.eval x = .pointer (some ⟨g, 0, none⟩))
    (hv : a.eval v = cv d) (hi : (P.info? ty).map (·.size) = some 2) (tt : TypeId) (hr : CRow w g tt c)
    (h : ∀ W, Hid (CRow W g tt d) → Hid (∀ k, k ≠ g → W.heap[k]? = w.heap[k]?) → Hid (Below g w W) → K (a.put o.dst undef) W) : o.wp P a w K Q :=
  wp_store_v ty x v ho g hx (icc d) hv hi (icc_one d) tt (icc c) hr rfl h
theorem run_loadVar_c (w : World) (g : Nat) (ty : TypeId) (fs : Array Field) (hu : P.underlying ty = some (.struct fs)) (hi : (P.info? ty).map (·.size) = some 2) (tt : TypeId) (hr : CRow w g tt c) : (loadVar ty ⟨g, 0, none⟩).run P w = .ok (cv c) w := run_loadVar_v w g ty fs hu tt (icc c) hr hi
theorem run_load_c {a : Act} (w : World) (ty : TypeId) (x : Operand) (g : Nat) (hx : a.eval x = .pointer (some ⟨g, 0, none⟩)) (fs : Array Field) (hu : P.underlying ty = some (.struct fs)) (hi : (P.info? ty).map (·.size) = some 2) (tt : TypeId) (hr : CRow w g tt c)
    (dst : Option Tmp) (type : TypeId) (pos : String) (after : Array Edge) (guard : Option (Nat × Bool)) : (execOp a.eval ⟨dst, .load ty x, type, pos, after, guard⟩).run P w = .ok (.value (cv c)) w := run_load_v w ty x g hx fs hu tt (icc c) hr hi dst type pos after guard
end
/-! ### plain words -/
def lowN (v : Int) : Nat := (v % 256).toNat
theorem lowN_cast (v : Int) : ((lowN v : Nat) : Int) = v % 256 := by unfold lowN; omega
theorem lowN_lt (v : Int) : lowN v < 256 := by unfold lowN; omega
def peekI (c : Ic) (r : Int) : Int := if r = 12 then (c.m : Int) else if r = 13 then (c.p : Int) else 0
def requestI (c : Ic) (b : Nat) : Ic := ⟨c.m, c.p ||| b⟩
def clearI (c : Ic) (b : Nat) : Ic := ⟨c.m, c.p &&& (255 - b)⟩
def writeI (c : Ic) (r v : Int) : Ic := if r = 12 then ⟨lowN v, c.p⟩ else if r = 13 then requestI c (lowN v) else if r = 14 then clearI c (lowN v) else c
def takenI (c : Ic) (v : Int) : Ic := if 0 ≤ v ∧ v < 8 then clearI c (2 ^ v.toNat) else c
def mayI (c : Ic) (ps : List Int) (lev : Int) (mk v : Nat) : Bool := c.p.testBit v && c.m.testBit v && !mk.testBit v && decide (0 < prio ps v) && decide (lev < prio ps v)
/-- Is v better than what was best so far? -/
def beats (ps : List Int) (v : Nat) (b : Int) : Bool := decide (b < 0) || decide (prio ps b.toNat < prio ps v)
def bestK (c : Ic) (ps : List Int) (lev : Int) (mk : Nat) : Nat → Int
  | 0 => -1
  | v + 1 => if (mayI c ps lev mk v && beats ps v (bestK c ps lev mk v)) = true then (v : Int) else bestK c ps lev mk v
def chooseI (c : Ic) (ps : List Int) (lev cr : Int) (mk : Nat) : Int := if 0 < cr then -1 else bestK c ps lev mk 8
theorem bestK_range (c : Ic) (ps : List Int) (lev : Int) (mk : Nat) : ∀ k, -1 ≤ bestK c ps lev mk k ∧ bestK c ps lev mk k < (k : Int)
  | 0 => by unfold bestK; decide
  | k + 1 => by
    have := bestK_range c ps lev mk k
    unfold bestK
    split <;> omega
theorem chooseI_range (c : Ic) (ps : List Int) (lev cr : Int) (mk : Nat) : -1 ≤ chooseI c ps lev cr mk ∧ chooseI c ps lev cr mk < 8 := by
  unfold chooseI
  split
  · decide
  · exact bestK_range c ps lev mk 8
section
variable {c : Ic}
theorem and_lt256 (x y : Nat) (h : x < 256) : x &&& y < 256 := Nat.lt_of_le_of_lt Nat.and_le_left h
theorem or_lt256 (x y : Nat) (h : x < 256) (h2 : y < 256) : x ||| y < 256 := Nat.or_lt_two_pow (n := 8) h h2
theorem requestI_ok (h : c.ok) {b : Nat} (hb : b < 256) : (requestI c b).ok := ⟨h.m, or_lt256 _ _ h.p hb⟩
theorem clearI_ok (h : c.ok) (b : Nat) : (clearI c b).ok := ⟨h.m, and_lt256 _ _ h.p⟩
theorem writeI_ok (h : c.ok) (r v : Int) : (writeI c r v).ok := by
  have hl := lowN_lt v
  unfold writeI
  split
  · exact ⟨hl, h.p⟩
  · split
    · exact requestI_ok h hl
    · split
      · exact clearI_ok h _
      · exact h
theorem takenI_ok (h : c.ok) (v : Int) : (takenI c v).ok := by
  unfold takenI
  split
  · exact clearI_ok h _
  · exact h
end
/-! ### what is asked of each function -/
def PeekC (f : Nat) : Prop := ∀ (c : Ic) (r : Int) (w : World), c.ok → -9223372036854775808 ≤ r → r ≤ 9223372036854775807 → Calls Tryz.prog f #[cv c, .int .i64 r] w fun x w' => x = .returned (.int .i32 (peekI c r)) ∧ Below w.heap.size w w'
def WriteC (f : Nat) : Prop := ∀ (c : Ic) (r v : Int) (w : World), c.ok → -9223372036854775808 ≤ r → r ≤ 9223372036854775807 → -2147483648 ≤ v → v ≤ 2147483647 → Calls Tryz.prog f #[cv c, .int .i64 r, .int .i32 v] w fun x w' => x = .returned (cv (writeI c r v)) ∧ Below w.heap.size w w'
def RequestC (f : Nat) : Prop := ∀ (c : Ic) (b : Nat) (w : World), c.ok → b < 256 → Calls Tryz.prog f #[cv c, .int .u8 (b : Int)] w fun x w' => x = .returned (cv (requestI c b)) ∧ Below w.heap.size w w'
def ChooseC (f : Nat) : Prop := ∀ (c : Ic) (ps : List Int) (lev cr : Int) (mk : Nat) (w : World), c.ok → PsOk ps → -9223372036854775808 ≤ lev → lev ≤ 9223372036854775807 → -9223372036854775808 ≤ cr → cr ≤ 9223372036854775807 → mk < 256 →
  Calls Tryz.prog f #[cv c, pv ps, .int .i64 lev, .int .i64 cr, .int .u8 (mk : Int)] w fun x w' => x = .returned (.tuple #[.int .i64 (chooseI c ps lev cr mk), .bool (decide (0 ≤ chooseI c ps lev cr mk))]) ∧ Below w.heap.size w w'
def TakenC (f : Nat) : Prop := ∀ (c : Ic) (v : Int) (w : World), c.ok → -9223372036854775808 ≤ v → v ≤ 9223372036854775807 → Calls Tryz.prog f #[cv c, .int .i64 v] w fun x w' => x = .returned (cv (takenI c v)) ∧ Below w.heap.size w w'
/-- The program's functions. -/
structure IrqOk : Prop where
  peek : PeekC 76
  write : WriteC 118
  request : RequestC 50
/-- A function over one controller: what was handed in, and what is answered. -/
structure Tw (w W : World) (g r : Nat) (ty : TypeId) (c : Ic) : Prop where
  q : CRow W g ty c
  z : CRow W r ty ⟨0, 0⟩
  b : Below w.heap.size w W
  lg : w.heap.size ≤ g
  lr : w.heap.size ≤ r
  gr : g ≠ r
section
variable {w W W' : World} {g r : Nat} {ty : TypeId} {c d : Ic}
theorem Tw.under (h : Tw w W g r ty c) (hb : Below W.heap.size W W') : Tw w W' g r ty c := ⟨h.q.below hb h.q.lt, h.z.below hb h.z.lt, h.b.trans (hb.mono h.b.size), h.lg, h.lr, h.gr⟩
theorem Tw.setG (h : Tw w W g r ty c) (hn : CRow W' g ty d) (ho : ∀ j, j ≠ g → W'.heap[j]? = W.heap[j]?) (hb : Below g W W') : Tw w W' g r ty d := ⟨hn, h.z.other ho h.gr.symm, h.b.trans (hb.mono h.lg), h.lg, h.lr, h.gr⟩
theorem Tw.new (ty : TypeId) (hq : W.heap[w.heap.size]? = some (.cells (icc c).toArray ty)) (hz : W.heap[w.heap.size + 1]? = some (.cells (icc ⟨0, 0⟩).toArray ty)) (hB : Below w.heap.size w W) : Tw w W w.heap.size (w.heap.size + 1) ty c :=
  ⟨hq, hz, hB, Nat.le_refl _, by omega, by omega⟩
end
end Go.Proofs.YtkodoldkfeopdaaGreat.Iq
/- Ref -/
namespace Go.Proofs.YtkodoldkfeopdaaGreat.Iq
open Go.RowKit
set_option linter.unusedVariables false
set_option maxRecDepth 100000
theorem shl_one (n : Nat) (h : n < 8) : IntKind.u8.wrap ((2 : Int) ^ n) = (2 : Int) ^ n := by
  have hp : 2 ^ n < 256 := Nat.pow_lt_pow_of_lt (a := 2) (n := n) (m := 8) (by decide) h
  have h1 : ((2 : Int) ^ n) = ((2 ^ n : Nat) : Int) := by simp
  rw [h1]
  generalize 2 ^ n = x at *
  simp [IntKind.wrap, IntKind.bits, IntKind.signed]
  omega
set_option maxRecDepth 100000 in
theorem rRequest_any : RequestC 43 := by
  intro c b w h hb
  have HO := Lib.hid (u8_or_nat c.p b h.p hb)
  unfold cv
  go_enter Tryz.func43, Tryz.ntmps43
  go_upto_region 1 with (fail)
  refine name_two (Q := fun X => Code.wp _ _ _ _ X) ?_
  intro W0 hq1 hq2 hB0
  have T0 := Lib.hid (Tw.new 44 hq1 hq2 hB0)
  clear hq1 hq2 hB0
  obtain ⟨g, hg⟩ : ∃ g, w.heap.size = g := ⟨_, rfl⟩
  obtain ⟨r, hr⟩ : ∃ r, w.heap.size + 1 = r := ⟨_, rfl⟩
  rw [hr, hg] at T0 ⊢
  clear hr hg
  have z1 := T0.out.q.c1
  go_wp2_with (first
      | ((with_reducible show wpList _ _ _ (⟨none, .store 44 (.tmp 4) (.tmp 10), _, _, _, _⟩ :: _) _ _); refine wpList_store_c2 rfl 44 _ _ rfl r (by exact rfl) (by exact rfl) (by kernel_rfl) 44 T1.out.z ?_; intro WZ HN HO HB
         have HZ := HN
         have BZ := Lib.hid (T1.out.b.trans (HB.out.mono T1.out.lr))
         clear HN HO HB)
      | ((with_reducible show wpList _ _ _ (⟨some 10, .load 44 (.tmp 2), _, _, _, _⟩ :: _) _ _); refine wpList_load_c (by rfl) 44 _ rfl g (by exact rfl) _ Tryz.underlying44 (by kernel_rfl) 44 T1.out.q ?_)
      | ((with_reducible show wpList _ _ _ (⟨none, .store 5 (.tmp 9) (.tmp 8), _, _, _, _⟩ :: _) _ _); refine wpList_store_c rfl 5 _ _ rfl g 1 (by exact rfl) (.int .u8 (((c.p ||| b : Nat) : Int))) (by rw [← HO.out]; exact rfl) rfl (by kernel_rfl) 44 _ T0.out.q (show 1 < 2 by decide) ?_; intro WT1 HN HO HB
         have T1 : Hid (Tw w WT1 g r 44 (requestI c b)) := Lib.hid (T0.out.setG HN.out HO.out HB.out)
         clear HN HO HB T0))
  exact bodyPost_ret (v := cv (requestI c b)) (results_c Tryz.results43 _ _ _ _ _ rfl (run_loadVar_c WZ r 44 _ Tryz.underlying44 (by kernel_rfl) 44 HZ.out)) rfl ⟨rfl, BZ.out⟩
set_option maxRecDepth 100000 in
theorem rPeek_any : PeekC 47 := by
  intro c r w h h0 h1
  have hwm : wrap32 (c.m : Int) = (c.m : Int) := by have := h.m; unfold wrap32; omega
  have hwp : wrap32 (c.p : Int) = (c.p : Int) := by have := h.p; unfold wrap32; omega
  have HM := Lib.hid hwm
  have HP := Lib.hid hwp
  clear hwm hwp
  unfold cv
  by_cases e0 : r = 12
  · subst e0
    rw [show peekI c 12 = (c.m : Int) from if_pos rfl]
    go_enter Tryz.func47, Tryz.ntmps47
    go_upto_region 1 with (fail)
    refine name_one (Q := fun X => Code.wp _ _ _ _ X) ?_
    intro W0 hq1 hB0 hz
    have T0 : CRow W0 w.heap.size 44 c := hq1
    have z0 := T0.c0
    go_wp2
    go_ret
    exact ⟨by rw [HM.out]; rfl, hB0⟩
  by_cases e1 : r = 13
  · subst e1
    rw [show peekI c 13 = (c.p : Int) from (if_neg (by decide)).trans (if_pos rfl)]
    go_enter Tryz.func47, Tryz.ntmps47
    go_upto_region 1 with (fail)
    refine name_one (Q := fun X => Code.wp _ _ _ _ X) ?_
    intro W0 hq1 hB0 hz
    have T0 : CRow W0 w.heap.size 44 c := hq1
    have z1 := T0.c1
    go_wp2
    go_ret
    exact ⟨by rw [HP.out]; rfl, hB0⟩
  · rw [show peekI c r = 0 from (if_neg e0).trans (if_neg e1)]
    go_enter Tryz.func47, Tryz.ntmps47
    go_upto_region 1 with (fail)
    refine name_one (Q := fun X => Code.wp _ _ _ _ X) ?_
    intro W0 hq1 hB0 hz
    go_wp2
    go_ret
    exact ⟨rfl, hB0⟩
set_option maxRecDepth 100000 in
theorem rWrite_any : WriteC 25 := by
  intro c reg v w h h0 h1 h2 h3
  have hl := lowN_lt v
  have HQ := Lib.hid (fun W => rRequest_any c (lowN v) W h hl)
  have HN := Lib.hid (u8_andNot_nat c.p (lowN v) h.p hl)
  have HW : Hid (v % 256 = ((lowN v : Nat) : Int)) := Lib.hid (lowN_cast v).symm
  by_cases e0 : reg = 12
  · subst e0
    rw [show writeI c 12 v = ⟨lowN v, c.p⟩ from if_pos rfl]
    unfold cv
    go_enter Tryz.func25, Tryz.ntmps25
    go_upto_region 1 with (fail)
    refine name_two (Q := fun X => Code.wp _ _ _ _ X) ?_
    intro W0 hq1 hq2 hB0
    have T0 := Lib.hid (Tw.new 44 hq1 hq2 hB0)
    clear hq1 hq2 hB0
    obtain ⟨g, hg⟩ : ∃ g, w.heap.size = g := ⟨_, rfl⟩
    obtain ⟨r, hr⟩ : ∃ r, w.heap.size + 1 = r := ⟨_, rfl⟩
    rw [hr, hg] at T0 ⊢
    clear hr hg
    have z0 := T0.out.q.c0
    have z1 := T0.out.q.c1
    go_wp2_with (first
      | ((with_reducible show wpList _ _ _ (⟨none, .store 44 (.tmp 6) (.tmp 27), _, _, _, _⟩ :: _) _ _); refine wpList_store_c2 rfl 44 _ _ rfl r (by exact rfl) (by exact rfl) (by kernel_rfl) 44 T1.out.z ?_; intro WZ HN HO HB
         have HZ := HN
         have BZ := Lib.hid (T1.out.b.trans (HB.out.mono T1.out.lr))
         clear HN HO HB)
      | ((with_reducible show wpList _ _ _ (⟨some 27, .load 44 (.tmp 3), _, _, _, _⟩ :: _) _ _); refine wpList_load_c (by rfl) 44 _ rfl g (by exact rfl) _ Tryz.underlying44 (by kernel_rfl) 44 T1.out.q ?_)
      | ((with_reducible show wpList _ _ _ (⟨none, .store 5 (.tmp 12) (.tmp 11), _, _, _, _⟩ :: _) _ _); refine wpList_store_c rfl 5 _ _ rfl g 0 (by exact rfl) (.int .u8 (((lowN v : Nat) : Int))) (by rw [← HW.out]; exact rfl) rfl (by kernel_rfl) 44 _ T0.out.q (show 0 < 2 by decide) ?_; intro WT1 HN HO HB
         have T1 : Hid (Tw w WT1 g r 44 (⟨lowN v, c.p⟩)) := Lib.hid (T0.out.setG HN.out HO.out HB.out)
         clear HN HO HB T0))
    exact bodyPost_ret (v := cv (⟨lowN v, c.p⟩)) (results_c Tryz.results25 _ _ _ _ _ rfl (run_loadVar_c WZ r 44 _ Tryz.underlying44 (by kernel_rfl) 44 HZ.out)) rfl ⟨rfl, BZ.out⟩
  by_cases e1 : reg = 13
  · subst e1
    rw [show writeI c 13 v = requestI c (lowN v) from (if_neg (by decide)).trans (if_pos rfl)]
    unfold cv
    go_enter Tryz.func25, Tryz.ntmps25
    go_upto_region 1 with (fail)
    refine name_two (Q := fun X => Code.wp _ _ _ _ X) ?_
    intro W0 hq1 hq2 hB0
    have T0 := Lib.hid (Tw.new 44 hq1 hq2 hB0)
    clear hq1 hq2 hB0
    obtain ⟨g, hg⟩ : ∃ g, w.heap.size = g := ⟨_, rfl⟩
    obtain ⟨r, hr⟩ : ∃ r, w.heap.size + 1 = r := ⟨_, rfl⟩
    rw [hr, hg] at T0 ⊢
    clear hr hg
    have z0 := T0.out.q.c0
    have z1 := T0.out.q.c1
    go_wp2_with (first
      | ((with_reducible show wpList _ _ _ (⟨none, .store 44 (.tmp 6) (.tmp 27), _, _, _, _⟩ :: _) _ _); refine wpList_store_c2 rfl 44 _ _ rfl r (by exact rfl) (by exact rfl) (by kernel_rfl) 44 T2.out.z ?_; intro WZ HN HO HB
         have HZ := HN
         have BZ := Lib.hid (T2.out.b.trans (HB.out.mono T2.out.lr))
         clear HN HO HB)
      | ((with_reducible show wpList _ _ _ (⟨some 27, .load 44 (.tmp 3), _, _, _, _⟩ :: _) _ _); refine wpList_load_c (by rfl) 44 _ rfl g (by exact rfl) _ Tryz.underlying44 (by kernel_rfl) 44 T2.out.q ?_)
      | ((with_reducible show wpList _ _ _ (⟨none, .store 44 (.tmp 3) (.tmp 18), _, _, _, _⟩ :: _) _ _); refine wpList_store_c2 rfl 44 _ _ rfl g (by exact rfl) (by exact rfl) (by kernel_rfl) 44 T1.out.q ?_; intro WT2 HN HO HB
         have T2 := Lib.hid (T1.out.setG HN.out HO.out HB.out)
         clear HN HO HB T1)
      | (go_at_call 43; rw [HW.out]; refine (HQ.out _).mono ?_; rintro e WT1 ⟨rfl, hB⟩
         have T1 := Lib.hid (T0.out.under hB)
         clear hB T0)
      | ((with_reducible show wpList _ _ _ (⟨some 15, .load 44 (.tmp 3), _, _, _, _⟩ :: _) _ _); refine wpList_load_c (by rfl) 44 _ rfl g (by exact rfl) _ Tryz.underlying44 (by kernel_rfl) 44 T0.out.q ?_))
    exact bodyPost_ret (v := cv (requestI c (lowN v))) (results_c Tryz.results25 _ _ _ _ _ rfl (run_loadVar_c WZ r 44 _ Tryz.underlying44 (by kernel_rfl) 44 HZ.out)) rfl ⟨rfl, BZ.out⟩
  by_cases e2 : reg = 14
  · subst e2
    rw [show writeI c 14 v = clearI c (lowN v) from (if_neg (by decide)).trans ((if_neg (by decide)).trans (if_pos rfl))]
    unfold cv
    go_enter Tryz.func25, Tryz.ntmps25
    go_upto_region 1 with (fail)
    refine name_two (Q := fun X => Code.wp _ _ _ _ X) ?_
    intro W0 hq1 hq2 hB0
    have T0 := Lib.hid (Tw.new 44 hq1 hq2 hB0)
    clear hq1 hq2 hB0
    obtain ⟨g, hg⟩ : ∃ g, w.heap.size = g := ⟨_, rfl⟩
    obtain ⟨r, hr⟩ : ∃ r, w.heap.size + 1 = r := ⟨_, rfl⟩
    rw [hr, hg] at T0 ⊢
    clear hr hg
    have z0 := T0.out.q.c0
    have z1 := T0.out.q.c1
    go_wp2_with (first
      | ((with_reducible show wpList _ _ _ (⟨none, .store 44 (.tmp 6) (.tmp 27), _, _, _, _⟩ :: _) _ _); refine wpList_store_c2 rfl 44 _ _ rfl r (by exact rfl) (by exact rfl) (by kernel_rfl) 44 T1.out.z ?_; intro WZ HN HO HB
         have HZ := HN
         have BZ := Lib.hid (T1.out.b.trans (HB.out.mono T1.out.lr))
         clear HN HO HB)
      | ((with_reducible show wpList _ _ _ (⟨some 27, .load 44 (.tmp 3), _, _, _, _⟩ :: _) _ _); refine wpList_load_c (by rfl) 44 _ rfl g (by exact rfl) _ Tryz.underlying44 (by kernel_rfl) 44 T1.out.q ?_)
      | ((with_reducible show wpList _ _ _ (⟨none, .store 5 (.tmp 26) (.tmp 25), _, _, _, _⟩ :: _) _ _); refine wpList_store_c rfl 5 _ _ rfl g 1 (by exact rfl) (.int .u8 (((c.p &&& (255 - lowN v) : Nat) : Int))) (by rw [← HN.out, ← HW.out]; exact rfl) rfl (by kernel_rfl) 44 _ T0.out.q (show 1 < 2 by decide) ?_; intro WT1 HN HO HB
         have T1 : Hid (Tw w WT1 g r 44 (clearI c (lowN v))) := Lib.hid (T0.out.setG HN.out HO.out HB.out)
         clear HN HO HB T0))
    exact bodyPost_ret (v := cv (clearI c (lowN v))) (results_c Tryz.results25 _ _ _ _ _ rfl (run_loadVar_c WZ r 44 _ Tryz.underlying44 (by kernel_rfl) 44 HZ.out)) rfl ⟨rfl, BZ.out⟩
  · rw [show writeI c reg v = c from (if_neg e0).trans ((if_neg e1).trans (if_neg e2))]
    unfold cv
    go_enter Tryz.func25, Tryz.ntmps25
    go_upto_region 1 with (fail)
    refine name_two (Q := fun X => Code.wp _ _ _ _ X) ?_
    intro W0 hq1 hq2 hB0
    have T0 := Lib.hid (Tw.new 44 hq1 hq2 hB0)
    clear hq1 hq2 hB0
    obtain ⟨g, hg⟩ : ∃ g, w.heap.size = g := ⟨_, rfl⟩
    obtain ⟨r, hr⟩ : ∃ r, w.heap.size + 1 = r := ⟨_, rfl⟩
    rw [hr, hg] at T0 ⊢
    clear hr hg
    go_wp2_with (first
      | ((with_reducible show wpList _ _ _ (⟨none, .store 44 (.tmp 6) (.tmp 27), _, _, _, _⟩ :: _) _ _); refine wpList_store_c2 rfl 44 _ _ rfl r (by exact rfl) (by exact rfl) (by kernel_rfl) 44 T0.out.z ?_; intro WZ HN HO HB
         have HZ := HN
         have BZ := Lib.hid (T0.out.b.trans (HB.out.mono T0.out.lr))
         clear HN HO HB)
      | ((with_reducible show wpList _ _ _ (⟨some 27, .load 44 (.tmp 3), _, _, _, _⟩ :: _) _ _); refine wpList_load_c (by rfl) 44 _ rfl g (by exact rfl) _ Tryz.underlying44 (by kernel_rfl) 44 T0.out.q ?_))
    exact bodyPost_ret (v := cv (c)) (results_c Tryz.results25 _ _ _ _ _ rfl (run_loadVar_c WZ r 44 _ Tryz.underlying44 (by kernel_rfl) 44 HZ.out)) rfl ⟨rfl, BZ.out⟩
end Go.Proofs.YtkodoldkfeopdaaGreat.Iq
