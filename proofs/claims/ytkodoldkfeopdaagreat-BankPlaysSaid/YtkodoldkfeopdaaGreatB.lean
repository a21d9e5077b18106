/-
  Banks as they lie in memory: thirty-two cells; loads and stores of the devices; and what is said of banks in plain words.
-/
import Derived.Test.YtkodoldkfeopdaaGreatDGpio
import Derived.Test.YtkodoldkfeopdaaGreatDUart
import Derived.Test.YtkodoldkfeopdaaGreatDTimer
import Derived.Test.YtkodoldkfeopdaaGreatDIrq
namespace Go.Proofs.YtkodoldkfeopdaaGreat
open Go.RowKit
set_option linter.unusedVariables false
set_option maxRecDepth 100000
/-- All devices together. -/
structure Bk where
  o : Nat
  i : Nat
  e : Nat
  R : List Nat
  T : List Nat
  l : Bool
  c : Nat
  k : Nat
  t0 : Ti.Tm
  t1 : Ti.Tm
  q : Iq.Ic
/-- It is right. -/
structure Bk.ok (b : Bk) : Prop where
  o : b.o < 256
  i : b.i < 256
  e : b.e < 256
  u : Ua.Rg b.R b.T b.c b.k
  t0 : b.t0.ok
  t1 : b.t1.ok
  q : b.q.ok
def ucs (b : Bk) : List Value := Ua.uc ((b.R.length : Nat) : Int) (Ua.pad b.R) ((b.T.length : Nat) : Int) (Ua.pad b.T) b.l b.c b.k
theorem ucs_length (b : Bk) : (ucs b).length = 21 := Ua.uc_length (Ua.pad_length _) (Ua.pad_length _)
def bc (b : Bk) : List Value := Gp.gc b.o b.i b.e ++ (ucs b ++ (Ti.tc b.t0 ++ (Ti.tc b.t1 ++ Iq.icc b.q)))
def bv (b : Bk) : Value := .agg (bc b).toArray
theorem bc_length (b : Bk) : (bc b).length = 32 := by
  simp [bc, ucs_length, Gp.gc, Ti.tc, Iq.icc]
theorem bc_one (b : Bk) : ∀ u ∈ bc b, u.oneCell' = true := by
  intro u hu
  simp only [bc, List.mem_append] at hu
  rcases hu with h | h | h | h | h
  · exact Gp.gc_one _ _ _ u h
  · exact Ua.uc_one _ _ _ _ _ _ _ u h
  · exact Ti.tc_one _ u h
  · exact Ti.tc_one _ u h
  · exact Iq.icc_one _ u h
def BRow (w : World) (g : Nat) (ty : TypeId) (b : Bk) : Prop := VRow w g ty (bc b)
section
variable {w w' : World} {B g : Nat} {ty : TypeId} {b d : Bk}
theorem BRow.below (h : BRow w g ty b) (hb : Below B w w') (hg : g < B) : BRow w' g ty b := VRow.below h hb hg
theorem BRow.lt (h : BRow w g ty b) : g < w.heap.size := VRow.lt h
theorem BRow.other (h : BRow w g ty b) {r : Nat} (ho : ∀ j, j ≠ r → w'.heap[j]? = w.heap[j]?) (hr : g ≠ r) : BRow w' g ty b := (ho g hr).trans h
/-- What lies at an offset. -/
theorem BRow.part (h : BRow w g ty b) (p cs s : List Value) (n : Nat) (hn : p.length = n) (e : bc b = p ++ (cs ++ s)) : CellsAt w g n cs := fun j v hj => by
  refine h.cell (n + j) v ?_
  rw [e, List.getElem?_append_right (by omega), hn, Nat.add_sub_cancel_left, List.getElem?_append_left (List.getElem?_eq_some_iff.1 hj).1]
  exact hj
theorem BRow.gp (h : BRow w g ty b) : CellsAt w g 0 (Gp.gc b.o b.i b.e) := h.part [] _ _ 0 rfl rfl
theorem BRow.ua (h : BRow w g ty b) : CellsAt w g 3 (ucs b) := h.part (Gp.gc b.o b.i b.e) _ _ 3 rfl rfl
theorem BRow.ta (h : BRow w g ty b) : CellsAt w g 24 (Ti.tc b.t0) := h.part (Gp.gc b.o b.i b.e ++ ucs b) _ _ 24 (by simp [ucs_length, Gp.gc]) (by rw [bc, List.append_assoc])
theorem BRow.tb (h : BRow w g ty b) : CellsAt w g 27 (Ti.tc b.t1) := h.part (Gp.gc b.o b.i b.e ++ ucs b ++ Ti.tc b.t0) _ _ 27 (by simp [ucs_length, Gp.gc, Ti.tc]) (by rw [bc, List.append_assoc, List.append_assoc])
theorem BRow.iq (h : BRow w g ty b) : CellsAt w g 30 (Iq.icc b.q) := h.part (Gp.gc b.o b.i b.e ++ ucs b ++ Ti.tc b.t0 ++ Ti.tc b.t1) _ [] 30 (by simp [ucs_length, Gp.gc, Ti.tc]) (by rw [bc]; simp only [List.append_assoc, List.append_nil])
end
/-! ### loads -/
section
variable {P : Program} {w : World} {b d : Bk}
theorem wpList_load_b {ops : Array Oper} {rest : List Oper} {o : Oper} {a : Act} {Q : Exit → Act → World → Prop} (hw : Region.wanted o (yielded ops a.tmps) = true) (ty : TypeId) (x : Operand) (ho : o.op = .load ty x) (g : Nat) (hx : a.eval x = .pointer (some ⟨g, 0, none⟩))
    (fs : Array Field) (hu : P.underlying ty = some (.struct fs)) (hi : (P.info? ty).map (·.size) = some 32) (tt : TypeId) (hr : BRow w g tt b) (h : wpList P ops Q rest (a.put o.dst (bv b)) w) : wpList P ops Q (o :: rest) a w :=
  wpList_load_v hw ty x ho g hx fs hu tt (bc b) hr (by rw [hi, bc_length]) h
theorem run_load_b {a : Act} (w : World) (ty : TypeId) (x : Operand) (g : Nat) (hx : a.eval x = .pointer (some ⟨g, 0, none⟩)) (fs : Array Field) (hu : P.underlying ty = some (.struct fs)) (hi : (P.info? ty).map (·.size) = some 32) (tt : TypeId) (hr : BRow w g tt b)
    (dst : Option Tmp) (type : TypeId) (pos : String) (after : Array Edge) (guard : Option (Nat × Bool)) : (execOp a.eval ⟨dst, .load ty x, type, pos, after, guard⟩).run P w = .ok (.value (bv b)) w := run_load_v w ty x g hx fs hu tt (bc b) hr (by rw [hi, bc_length]) dst type pos after guard
theorem run_loadVar_b (w : World) (g : Nat) (ty : TypeId) (fs : Array Field) (hu : P.underlying ty = some (.struct fs)) (hi : (P.info? ty).map (·.size) = some 32) (tt : TypeId) (hr : BRow w g tt b) : (loadVar ty ⟨g, 0, none⟩).run P w = .ok (bv b) w := run_loadVar_v w g ty fs hu tt (bc b) hr (by rw [hi, bc_length])
/-- A device is loaded. -/
theorem wpList_load_dev {ops : Array Oper} {rest : List Oper} {o : Oper} {a : Act} {Q : Exit → Act → World → Prop} (hw : Region.wanted o (yielded ops a.tmps) = true) (ty : TypeId) (x : Operand) (ho : o.op = .load ty x) (g off : Nat) (hx : a.eval x = .pointer (some ⟨g, off, none⟩))
    (fs : Array Field) (hu : P.underlying ty = some (.struct fs)) (cs : List Value) (hi : (P.info? ty).map (·.size) = some cs.length) (hc : CellsAt w g off cs) (v : Value) (hv : v = .agg cs.toArray) (h : wpList P ops Q rest (a.put o.dst v) w) : wpList P ops Q (o :: rest) a w :=
  BigFrame.wpList_want hw fun _ hK => by
    subst hv
    unfold Oper.wp execOp
    simp only [ho, hx, Instr.loadAt, Instr.sureAddr, Sem.run_bind, Sem.run_pure, Result.andThen_ok, run_loadVar_at w g off ty cs _ hc hu rfl hi]
    exact hK _ _ h
theorem wpList_store_b {ops : Array Oper} {rest : List Oper} {o : Oper} {a : Act} {Q : Exit → Act → World → Prop} (hgd : o.guard = none) (ty : TypeId) (x v : Operand) (ho : o.op = .store ty x v) (g : Nat) (hx : a.eval x = .pointer (some ⟨g, 0, none⟩))
    (hv : a.eval v = bv d) (hi : (P.info? ty).map (·.size) = some 32) (tt : TypeId) (hr : BRow w g tt b)
    (h : ∀ W, Hid (BRow W g tt d) → Hid (∀ k, k ≠ g → W.heap[k]? = w.heap[k]?) → Hid (Below g w W) → wpList P ops Q rest (a.put o.dst undef) W) : wpList P ops Q (o :: rest) a w :=
  wpList_store_v hgd ty x v ho g hx (bc d) hv (by rw [hi, bc_length]) (bc_one d) tt (bc b) hr (by rw [bc_length, bc_length]) h
theorem wp_store_b {o : Oper} {a : Act} {K : Act → World → Prop} {Q : Exit → Act → World → Prop} (ty : TypeId) (x v : Operand) (ho : o.op = .store ty x v) (g : Nat) (hx : a.eval x = .pointer (some ⟨g, 0, none⟩))
    (hv : a.eval v = bv d) (hi : (P.info? ty).map (·.size) = some 32) (tt : TypeId) (hr : BRow w g tt b)
    (h : ∀ W, Hid (BRow W g tt d) → Hid (∀ k, k ≠ g → W.heap[k]? = w.heap[k]?) → Hid (Below g w W) → K (a.put o.dst undef) W) : o.wp P a w K Q :=
  wp_store_v ty x v ho g hx (bc d) hv (by rw [hi, bc_length]) (bc_one d) tt (bc b) hr (by rw [bc_length, bc_length]) h
end
/-! ### a device is set -/
theorem set_part (p cs ds s : List Value) (n : Nat) (hn : p.length = n) (hl : cs.length = ds.length) : (p ++ (cs ++ s)).take n ++ ds ++ (p ++ (cs ++ s)).drop (n + ds.length) = p ++ (ds ++ s) := by
  subst hn
  rw [List.take_left', ← hl, ← List.append_assoc p cs s, List.drop_left', List.append_assoc]
  · simp
  · rfl
section
variable {b : Bk}
theorem bc_gp (o i e : Nat) : (bc b).take 0 ++ Gp.gc o i e ++ (bc b).drop (0 + (Gp.gc o i e).length) = bc { b with o := o, i := i, e := e } := set_part [] (Gp.gc b.o b.i b.e) (Gp.gc o i e) _ 0 rfl rfl
theorem bc_ua (R T : List Nat) (l : Bool) (c k : Nat) : (bc b).take 3 ++ ucs { b with R := R, T := T, l := l, c := c, k := k } ++ (bc b).drop (3 + (ucs { b with R := R, T := T, l := l, c := c, k := k }).length) = bc { b with R := R, T := T, l := l, c := c, k := k } :=
  set_part (Gp.gc b.o b.i b.e) (ucs b) _ _ 3 rfl (by rw [ucs_length, ucs_length])
theorem bc_ta (t : Ti.Tm) : (bc b).take 24 ++ Ti.tc t ++ (bc b).drop (24 + (Ti.tc t).length) = bc { b with t0 := t } := by
  have e : bc b = (Gp.gc b.o b.i b.e ++ ucs b) ++ (Ti.tc b.t0 ++ (Ti.tc b.t1 ++ Iq.icc b.q)) := by rw [bc, List.append_assoc]
  have e2 : bc { b with t0 := t } = (Gp.gc b.o b.i b.e ++ ucs b) ++ (Ti.tc t ++ (Ti.tc b.t1 ++ Iq.icc b.q)) := by rw [List.append_assoc]; rfl
  rw [e, e2]
  exact set_part _ _ _ _ 24 (by simp [ucs_length, Gp.gc]) rfl
theorem bc_tb (t : Ti.Tm) : (bc b).take 27 ++ Ti.tc t ++ (bc b).drop (27 + (Ti.tc t).length) = bc { b with t1 := t } := by
  have e : bc b = (Gp.gc b.o b.i b.e ++ ucs b ++ Ti.tc b.t0) ++ (Ti.tc b.t1 ++ Iq.icc b.q) := by rw [bc]; simp only [List.append_assoc]
  have e2 : bc { b with t1 := t } = (Gp.gc b.o b.i b.e ++ ucs b ++ Ti.tc b.t0) ++ (Ti.tc t ++ Iq.icc b.q) := by rw [bc]; simp only [List.append_assoc]; rfl
  rw [e, e2]
  exact set_part _ _ _ _ 27 (by simp [ucs_length, Gp.gc, Ti.tc]) rfl
theorem bc_iq (q : Iq.Ic) : (bc b).take 30 ++ Iq.icc q ++ (bc b).drop (30 + (Iq.icc q).length) = bc { b with q := q } := by
  have e : bc b = (Gp.gc b.o b.i b.e ++ ucs b ++ Ti.tc b.t0 ++ Ti.tc b.t1) ++ (Iq.icc b.q ++ []) := by rw [bc]; simp only [List.append_assoc, List.append_nil]
  have e2 : bc { b with q := q } = (Gp.gc b.o b.i b.e ++ ucs b ++ Ti.tc b.t0 ++ Ti.tc b.t1) ++ (Iq.icc q ++ []) := by rw [bc]; simp only [List.append_assoc, List.append_nil]; rfl
  rw [e, e2]
  exact set_part _ _ _ _ 30 (by simp [ucs_length, Gp.gc, Ti.tc]) rfl
end
section
variable {P : Program} {w : World} {b d : Bk}
/-- A device is stored. -/
theorem wpList_store_dev {ops : Array Oper} {rest : List Oper} {o : Oper} {a : Act} {Q : Exit → Act → World → Prop} (hgd : o.guard = none) (ty : TypeId) (x v : Operand) (ho : o.op = .store ty x v) (g off : Nat) (hx : a.eval x = .pointer (some ⟨g, off, none⟩))
    (cs : List Value) (hv : a.eval v = .agg cs.toArray) (hi : (P.info? ty).map (·.size) = some cs.length) (h1 : ∀ u ∈ cs, u.oneCell' = true) (hfit : off + cs.length ≤ 32) (hs : (bc b).take off ++ cs ++ (bc b).drop (off + cs.length) = bc d) (tt : TypeId) (hr : BRow w g tt b)
    (h : ∀ W, Hid (BRow W g tt d) → Hid (∀ k, k ≠ g → W.heap[k]? = w.heap[k]?) → Hid (Below g w W) → wpList P ops Q rest (a.put o.dst undef) W) : wpList P ops Q (o :: rest) a w :=
  wpList_store_row hgd ty x v ho g off hx cs (by rw [hv]; rfl) hi (bc b) (bc d) tt hr (by rw [bc_length]; exact hfit) h1 hs (h _ (Lib.hid (VRow.set hr _)) (Lib.hid fun k hk => setRow_other w g k _ hk) (Lib.hid (setRow_below (Below.refl _ _) (Nat.le_refl _) _)))
end
/-! ### plain words -/
def peekB (b : Bk) (r : Int) : Int :=
  if 0 ≤ r ∧ r ≤ 2 then Gp.peekN b.o b.i b.e r else if 3 ≤ r ∧ r ≤ 5 then Ua.peekU b.R b.T b.l b.c r else if 6 ≤ r ∧ r ≤ 8 then Ti.peekT b.t0 (r - 6) else if 9 ≤ r ∧ r ≤ 11 then Ti.peekT b.t1 (r - 9) else if 12 ≤ r ∧ r ≤ 14 then Iq.peekI b.q r else 0
def readB (b : Bk) (r : Int) : Bk := if 3 ≤ r ∧ r ≤ 5 then { b with R := Ua.readR b.R r, l := Ua.readL b.l r } else b
def writeB (b : Bk) (r v : Int) : Bk :=
  if 0 ≤ r ∧ r ≤ 2 then { b with o := Gp.outN b.o r v, e := Gp.edgeN b.e r v } else if 3 ≤ r ∧ r ≤ 5 then { b with T := Ua.writeT b.T r v, c := Ua.writeC b.c r v } else if 6 ≤ r ∧ r ≤ 8 then { b with t0 := Ti.writeT b.t0 (r - 6) v } else if 9 ≤ r ∧ r ≤ 11 then { b with t1 := Ti.writeT b.t1 (r - 9) v } else if 12 ≤ r ∧ r ≤ 14 then { b with q := Iq.writeI b.q r v } else b
def askB (b : Bk) (bit : Nat) (asks : Bool) : Bk := if asks = true then { b with q := Iq.requestI b.q bit } else b
def pinsB (b : Bk) (lv : Nat) : Bk := askB { b with i := lv } 1 (Gp.asksL b.e (Gp.riseK b.i lv 8))
def arriveB (b : Bk) (x : Nat) : Bk := askB { b with R := Ua.addL b.R x, l := Ua.arriveL b.R b.l } 2 (Ua.asksU b.R b.c)
def tick0 (b : Bk) : Bk := askB { b with t0 := Ti.tickT b.t0 } 8 (Ti.asksT b.t0)
def tick1 (b : Bk) : Bk := askB { b with t1 := Ti.tickT b.t1 } 16 (Ti.asksT b.t1)
def tick2 (b : Bk) : Bk := askB { b with T := Ua.tickT b.T b.k, k := Ua.tickK b.T b.k } 4 (Ua.tickQ b.T b.c b.k)
def tickB (b : Bk) : Bk := tick2 (tick1 (tick0 b))
theorem askB_ok {b : Bk} (h : b.ok) {bit : Nat} (hb : bit < 256) (asks : Bool) : (askB b bit asks).ok := by
  unfold askB
  split
  · exact ⟨h.o, h.i, h.e, h.u, h.t0, h.t1, Iq.requestI_ok h.q hb⟩
  · exact h
theorem readB_ok {b : Bk} (h : b.ok) (r : Int) : (readB b r).ok := by
  unfold readB
  split
  · exact ⟨h.o, h.i, h.e, h.u.read r, h.t0, h.t1, h.q⟩
  · exact h
theorem writeB_ok {b : Bk} (h : b.ok) (r v : Int) : (writeB b r v).ok := by
  unfold writeB
  split
  · refine ⟨?_, h.i, ?_, h.u, h.t0, h.t1, h.q⟩
    · show Gp.outN b.o r v < 256
      unfold Gp.outN
      split
      · exact Gp.lowN_lt v
      · exact h.o
    · show Gp.edgeN b.e r v < 256
      unfold Gp.edgeN
      split
      · exact Gp.lowN_lt v
      · exact h.e
  · split
    · exact ⟨h.o, h.i, h.e, h.u.write r v, h.t0, h.t1, h.q⟩
    · split
      · exact ⟨h.o, h.i, h.e, h.u, Ti.writeT_ok h.t0 _ _, h.t1, h.q⟩
      · split
        · exact ⟨h.o, h.i, h.e, h.u, h.t0, Ti.writeT_ok h.t1 _ _, h.q⟩
        · split
          · exact ⟨h.o, h.i, h.e, h.u, h.t0, h.t1, Iq.writeI_ok h.q _ _⟩
          · exact h
theorem pinsB_ok {b : Bk} (h : b.ok) {lv : Nat} (hl : lv < 256) : (pinsB b lv).ok := askB_ok (b := { b with i := lv }) ⟨h.o, hl, h.e, h.u, h.t0, h.t1, h.q⟩ (by decide) _
theorem arriveB_ok {b : Bk} (h : b.ok) {x : Nat} (hx : x < 256) : (arriveB b x).ok := askB_ok (b := { b with R := Ua.addL b.R x, l := Ua.arriveL b.R b.l }) ⟨h.o, h.i, h.e, h.u.addI hx, h.t0, h.t1, h.q⟩ (by decide) _
theorem tick0_ok {b : Bk} (h : b.ok) : (tick0 b).ok := askB_ok (b := { b with t0 := Ti.tickT b.t0 }) ⟨h.o, h.i, h.e, h.u, Ti.tickT_ok h.t0, h.t1, h.q⟩ (by decide) _
theorem tick1_ok {b : Bk} (h : b.ok) : (tick1 b).ok := askB_ok (b := { b with t1 := Ti.tickT b.t1 }) ⟨h.o, h.i, h.e, h.u, h.t0, Ti.tickT_ok h.t1, h.q⟩ (by decide) _
theorem tick2_ok {b : Bk} (h : b.ok) : (tick2 b).ok := askB_ok (b := { b with T := Ua.tickT b.T b.k, k := Ua.tickK b.T b.k }) ⟨h.o, h.i, h.e, h.u.tick, h.t0, h.t1, h.q⟩ (by decide) _
theorem tickB_ok {b : Bk} (h : b.ok) : (tickB b).ok := tick2_ok (tick1_ok (tick0_ok h))
/-- All registers. -/
def allB (b : Bk) : List Value := (List.range 15).map fun (j : Nat) => Value.int .i32 (peekB b ((j : Nat) : Int))
/-! ### what is asked of each function, of right banks -/
def PeekC (f : Nat) : Prop := ∀ (b : Bk) (r : Int) (w : World), b.ok → -9223372036854775808 ≤ r → r ≤ 9223372036854775807 → Calls Tryz.prog f #[bv b, .int .i64 r] w fun x w' => x = .returned (.int .i32 (peekB b r)) ∧ Below w.heap.size w w'
def ReadC (f : Nat) : Prop := ∀ (b : Bk) (r : Int) (w : World), b.ok → -9223372036854775808 ≤ r → r ≤ 9223372036854775807 → Calls Tryz.prog f #[bv b, .int .i64 r] w fun x w' => x = .returned (.tuple #[.int .i32 (peekB b r), bv (readB b r)]) ∧ Below w.heap.size w w'
def WriteC (f : Nat) : Prop := ∀ (b : Bk) (r v : Int) (w : World), b.ok → -9223372036854775808 ≤ r → r ≤ 9223372036854775807 → -2147483648 ≤ v → v ≤ 2147483647 → Calls Tryz.prog f #[bv b, .int .i64 r, .int .i32 v] w fun x w' => x = .returned (bv (writeB b r v)) ∧ Below w.heap.size w w'
def PinsC (f : Nat) : Prop := ∀ (b : Bk) (lv : Nat) (w : World), b.ok → lv < 256 → Calls Tryz.prog f #[bv b, .int .u8 (lv : Int)] w fun x w' => x = .returned (bv (pinsB b lv)) ∧ Below w.heap.size w w'
def ArriveC (f : Nat) : Prop := ∀ (b : Bk) (x : Nat) (w : World), b.ok → x < 256 → Calls Tryz.prog f #[bv b, .int .u8 (x : Int)] w fun y w' => y = .returned (bv (arriveB b x)) ∧ Below w.heap.size w w'
def TickC (f : Nat) : Prop := ∀ (b : Bk) (w : World), b.ok → Calls Tryz.prog f #[bv b] w fun x w' => x = .returned (.tuple #[bv (tickB b), .int .u8 (Ua.tickB b.T b.k : Nat), .bool (Ua.sendsU b.T b.k)]) ∧ Below w.heap.size w w'
def AllC (f : Nat) : Prop := ∀ (b : Bk) (w : World), b.ok → Calls Tryz.prog f #[bv b] w fun x w' => x = .returned (.agg (allB b).toArray) ∧ Below w.heap.size w w'
/-- The program's functions. -/
structure BankOk : Prop where
  peek : PeekC 11
  read : ReadC 9
  write : WriteC 7
  pins : PinsC 12
  arrive : ArriveC 14
  tick : TickC 16
  all : AllC 18
end Go.Proofs.YtkodoldkfeopdaaGreat
