/-
  'typed' by its contract, where the second value is converted. Made by wip/genfoldtyped.py.
-/
import Derived.Test.YthmphmndpfkbcaaTyped
namespace Go.Proofs.Ythmphmndpfkbcaa
open Go.RowKit
set_option linter.unusedVariables false
theorem wp_load_row {P : Program} {o : Oper} {a : Act} {w : World} {K : Act → World → Prop} {Q : Exit → Act → World → Prop} (ty : TypeId) (x : Operand) (ho : o.op = .load ty x)
    (b off : Nat) (hx : a.eval x = .pointer (some ⟨b, off, none⟩)) (cs : List Value) (d : TypeDesc) (hc : CellsAt w b off cs)
    (hu : P.underlying ty = some d) (hd : (match d with | .struct _ | .array _ _ => true | _ => false) = true) (hi : (P.info? ty).map (·.size) = some cs.length)
    (h : K (a.put o.dst (.agg cs.toArray)) w) : o.wp P a w K Q := by
  unfold Oper.wp execOp
  simp only [ho, hx, Instr.loadAt, Instr.sureAddr, Sem.run_bind, Sem.run_pure, Result.andThen_ok, run_loadVar_at w b off ty cs d hc hu hd hi]
  exact h
/-- The box of typed, and its result. -/
structure TyW (w : World) (op at_ ty1 : Int) (b c : Nat) (W : World) : Prop where
  box : W.heap[w.heap.size]? = some (.cells [.int .i64 op, .int .i64 at_, .string ⟨#[]⟩, .string ⟨#[]⟩, .int .i64 0, .int .i64 ty1, .int .i64 0, .slice (some ⟨b, 0, none⟩) 2 c].toArray 27 (0, 0))
  res : W.heap[w.heap.size + 1]? = some (.cells zeroL.toArray 27 (0, 0))
  size : w.heap.size + 2 ≤ W.heap.size
theorem TyW.under {w : World} {op at_ ty1 : Int} {b c : Nat} {W W' : World} (h : TyW w op at_ ty1 b c W) (hb : Below W.heap.size W W') : TyW w op at_ ty1 b c W' := by
  have hs := hb.size
  have hz := h.size
  refine ⟨?_, ?_, by omega⟩
  · rw [hb.block _ (by omega)]
    exact h.box
  · rw [hb.block _ (by omega)]
    exact h.res
theorem TyW.row {w : World} {op at_ ty1 : Int} {b c : Nat} {W : World} (h : TyW w op at_ ty1 b c W) (hb : b < w.heap.size) (cs : Array Value) : TyW w op at_ ty1 b c (W.setRow b cs) :=
  ⟨by rw [setRow_other _ _ _ _ (by omega)]; exact h.box, by rw [setRow_other _ _ _ _ (by omega)]; exact h.res, by rw [setRow_size]; exact h.size⟩
theorem TyW.start (w : World) (op at_ ty1 : Int) (b c : Nat) : TyW w op at_ ty1 b c ((w.alloc (.cells [.int .i64 op, .int .i64 at_, .string ⟨#[]⟩, .string ⟨#[]⟩, .int .i64 0, .int .i64 ty1, .int .i64 0, .slice (some ⟨b, 0, none⟩) 2 c].toArray 27)).alloc (.cells zeroL.toArray 27)) := by
  refine ⟨?_, two_at _ _ _, by simp⟩
  rw [Below.heap_alloc _ _ _ (by simp)]
  exact alloc_at w _
/-- What typed leaves where it converts the second value. -/
def TypedAns (op at_ : Int) (b c : Nat) (op1 at1 : Int) (name1 field1 : ByteArray) (n1 ty1 ref1 : Int) (A1 : Option Nat) (c1 len1 : Nat) (op2 at2 : Int) (name2 field2 : ByteArray) (n2 ty2 ref2 : Int) (A2 : Option Nat) (c2 len2 : Nat) (w : World) (e : Ending) (w' : World) : Prop :=
  e = .returned (.agg (exL op at_ ⟨#[]⟩ ⟨#[]⟩ 0 (typedTy op ty1) 0 (some b) 2 c).toArray) ∧ ∃ nb c3 : Nat, w.heap.size ≤ nb ∧ nb < w'.heap.size ∧
    w'.heap[b]? = some (.cells (exL2 op1 at1 name1 field1 n1 ty1 ref1 A1 len1 c1 (7 + ty1 - 1) at_ ⟨#[]⟩ ⟨#[]⟩ 0 ty1 0 (some nb) 1 c3).toArray 27 (0, 0)) ∧
    w'.heap[nb]? = some (.cells (exL op2 at2 name2 field2 n2 ty2 ref2 A2 len2 c2).toArray 27 (0, 0)) ∧ Below b w w'
/-- Behind the conversion. -/
structure TyD (w : World) (op at_ ty1 : Int) (b c nb : Nat) (row nrow : List Value) (W : World) : Prop where
  ty : TyW w op at_ ty1 b c W
  row : W.heap[b]? = some (.cells row.toArray 27 (0, 0))
  nrow : W.heap[nb]? = some (.cells nrow.toArray 27 (0, 0))
  low : w.heap.size + 2 ≤ nb ∧ nb < W.heap.size
  below : Below b w W
theorem TyD.of {w : World} {op at_ ty1 : Int} {b c : Nat} {row nrow row' : List Value} {W : World} (h : TyW w op at_ ty1 b c W) (hb : b < w.heap.size) (hr : W.heap[b]? = some (.cells row.toArray 27 (0, 0))) (hw : Below w.heap.size w W) :
    TyD w op at_ ty1 b c W.heap.size row' nrow ((W.alloc (.cells nrow.toArray 27)).setRow b row'.toArray) := by
  have hz := h.size
  have hW : Below W.heap.size W (W.alloc (.cells nrow.toArray 27)) := (Below.refl _ _).alloc (Nat.le_refl _) _
  refine ⟨(h.under hW).row hb _, ?_, ?_, ⟨hz, by rw [setRow_size]; simp⟩, ?_⟩
  · refine setRow_heap _ _ row.toArray _ _ _ ?_
    rw [hW.block _ (by omega)]
    exact hr
  · rw [setRow_other _ _ _ _ (by omega)]
    exact alloc_at W _
  · exact setRow_below ((hw.mono (by omega)).trans (hW.mono (by omega))) (Nat.le_refl _) _
theorem TyD.cell {w : World} {op at_ ty1 : Int} {b c nb : Nat} {row nrow : List Value} {W : World} (h : TyD w op at_ ty1 b c nb row nrow W) {g : Nat} (hg : w.heap.size ≤ g ∧ g < w.heap.size + 2) (hb : b < w.heap.size) {W' : World} (hs : W'.heap.size = W.heap.size) (ho : ∀ k, k ≠ w.heap.size → k ≠ w.heap.size + 1 → W'.heap[k]? = W.heap[k]?) (hB : Below b w W') :
    (w.heap.size ≤ nb ∧ nb < W'.heap.size ∧ W'.heap[b]? = some (.cells row.toArray 27 (0, 0)) ∧ W'.heap[nb]? = some (.cells nrow.toArray 27 (0, 0)) ∧ Below b w W') := by
  have hl := h.low
  refine ⟨by omega, by omega, ?_, ?_, hB⟩
  · rw [ho _ (by omega) (by omega)]
    exact h.row
  · rw [ho _ (by omega) (by omega)]
    exact h.nrow
theorem TyD.drew {w : World} {op at_ ty1 : Int} {b c nb : Nat} {row nrow : List Value} {W : World} (h : TyD w op at_ ty1 b c nb row nrow W) : TyD w op at_ ty1 b c nb row nrow W.drew :=
  ⟨⟨h.ty.box, h.ty.res, h.ty.size⟩, h.row, h.nrow, h.low, h.below.drew⟩
set_option maxRecDepth 100000 in
set_option maxHeartbeats 2000000 in
theorem typed_2c (op at_ : Int) (b c : Nat) (op1 at1 : Int) (name1 field1 : ByteArray) (n1 ty1 ref1 : Int) (A1 : Option Nat) (c1 len1 : Nat) (op2 at2 : Int) (name2 field2 : ByteArray) (n2 ty2 ref2 : Int) (A2 : Option Nat) (c2 len2 : Nat) (w : World) (h9 : 9 ≤ op) (h24 : op ≤ 24) (h14 : op ≠ 14) (h15 : op ≠ 15) (hne : ty2 ≠ ty1) (ht : ty1 = 1 ∨ ty1 = 2)
    (hrow : w.heap[b]? = some (.cells (exL2 op1 at1 name1 field1 n1 ty1 ref1 A1 len1 c1 op2 at2 name2 field2 n2 ty2 ref2 A2 len2 c2).toArray 27 (0, 0))) :
    Calls Try.prog 19 #[.agg (exL op at_ ⟨#[]⟩ ⟨#[]⟩ 0 0 0 (some b) 2 c).toArray] w (TypedAns op at_ b c op1 at1 name1 field1 n1 ty1 ref1 A1 c1 len1 op2 at2 name2 field2 n2 ty2 ref2 A2 c2 len2 w) := by
  have hb := (Array.getElem?_eq_some_iff.1 hrow).1
  have k5 : w.cell? ⟨b, 5, none⟩ = some (.int .i64 ty1) := row_at hrow 5 _ rfl
  have k13 : w.cell? ⟨b, 13, none⟩ = some (.int .i64 ty2) := row_at hrow 13 _ rfl
  have HROW := Lib.hid hrow
  clear hrow
  have o6 : (op == 6) = false := by simp; omega
  have o7 : (op == 7) = false := by simp; omega
  have o8 : (op == 8) = false := by simp; omega
  have o14 : (op == 14) = false := by simp; omega
  have o15 : (op == 15) = false := by simp; omega
  have hd : (ty2 != ty1) = true := by simpa using hne
  have HT : Hid (∀ g l, decide (16 ≤ op) = g → decide (op ≤ 21) = l → typedTy op ty1 = if g && l then 1 else ty1) := fun g l hg hl => by
    subst hg hl
    unfold typedTy
    rw [if_neg (show ¬ op = 8 by omega)]
    by_cases h1 : 16 ≤ op ∧ op ≤ 21
    · rw [if_pos (by omega)]
      simp [h1]
    · rw [if_neg (by omega)]
      simp
      omega
  rw [show ∀ o : Int, exL o at_ ⟨#[]⟩ ⟨#[]⟩ 0 0 0 (some b) 2 c = [.int .i64 o, .int .i64 at_, .string ⟨#[]⟩, .string ⟨#[]⟩, .int .i64 0, .int .i64 0, .int .i64 0, .slice (some ⟨b, 0, none⟩) 2 c] from fun _ => rfl]
  have t1 : 1 ≤ ty1 := by omega
  have t2 : ty1 ≤ 2 := by omega
  have w1 : IntKind.i64.wrap (7 + ty1) = 7 + ty1 := IntWalk.i64_in _ (by omega)
  have w2 : IntKind.i64.wrap (7 + ty1 - 1) = 7 + ty1 - 1 := IntWalk.i64_in _ (by omega)
  clear hne ht h14 h15
  have hcs : (decide (16 ≤ op) = false ∧ decide (op ≤ 21) = true) ∨ (decide (16 ≤ op) = true ∧ decide (op ≤ 21) = true) ∨ (decide (16 ≤ op) = true ∧ decide (op ≤ 21) = false) := by
    rcases (by omega : op ≤ 15 ∨ 16 ≤ op ∧ op ≤ 21 ∨ 22 ≤ op) with h | h | h
    · exact .inl ⟨by simp; omega, by simp; omega⟩
    · exact .inr (.inl ⟨by simp; omega, by simp; omega⟩)
    · exact .inr (.inr ⟨by simp; omega, by simp; omega⟩)
  go_enter Try.func19, Try.ntmps19
  go_wp2
  go_quiet (fail)
  go_wp2_with fail
  have HTW := Lib.hid (TyW.start w op at_ ty1 b c)
  have HBW : Hid (Below w.heap.size w ((w.alloc (.cells [.int .i64 op, .int .i64 at_, .string ⟨#[]⟩, .string ⟨#[]⟩, .int .i64 0, .int .i64 ty1, .int .i64 0, .slice (some ⟨b, 0, none⟩) 2 c].toArray 27)).alloc (.cells zeroL.toArray 27))) := two_below _ _ _
  have HTW2 := Lib.hid (HTW.out.under (Below.drewN' (Below.refl _ _) nq))
  have HBW2 := Lib.hid (Below.drewN' HBW.out nq)
  clear HTW HBW
  change Code.wp _ _ _ _ (((w.alloc (.cells [.int .i64 op, .int .i64 at_, .string ⟨#[]⟩, .string ⟨#[]⟩, .int .i64 0, .int .i64 ty1, .int .i64 0, .slice (some ⟨b, 0, none⟩) 2 c].toArray 27)).alloc (.cells zeroL.toArray 27)).drewN nq)
  generalize ((w.alloc (.cells [.int .i64 op, .int .i64 at_, .string ⟨#[]⟩, .string ⟨#[]⟩, .int .i64 0, .int .i64 ty1, .int .i64 0, .slice (some ⟨b, 0, none⟩) 2 c].toArray 27)).alloc (.cells zeroL.toArray 27)).drewN nq = W at *
  have HR : Hid (∀ W', Below W.heap.size W W' → W'.heap[b]? = some (.cells (exL2 op1 at1 name1 field1 n1 ty1 ref1 A1 len1 c1 op2 at2 name2 field2 n2 ty2 ref2 A2 len2 c2).toArray 27 (0, 0))) := fun W' hW' => by
    have hz := HTW2.out.size
    rw [hW'.block _ (by omega), HBW2.out.block _ hb]
    exact HROW.out
  refine wp_region_noPanic ?_
  refine wp_region_held_drew (S := (fun W' => W'.cell? ⟨w.heap.size, 7, none⟩ = some (.slice (some ⟨b, 0, none⟩) 2 c) ∧ W'.cell? ⟨w.heap.size, 5, none⟩ = some (.int .i64 ty1) ∧ W'.cell? ⟨w.heap.size, 1, none⟩ = some (.int .i64 at_))) (by kernel_rfl) ⟨row_at (HTW2.out.under (Below.refl _ _).drew).box 7 _ rfl, row_at (HTW2.out.under (Below.refl _ _).drew).box 5 _ rfl, row_at (HTW2.out.under (Below.refl _ _).drew).box 1 _ rfl⟩ (fun hHeld => ?_)
  refine' take_ 0 rfl (by kernel_rfl) (by kernel_rfl) (by kernel_rfl) (fun _ _ _ h => h) (by rfl) (fun wS hSw => ?_) hHeld ?_
  rotate_left
  focus (obtain ⟨k7, k5, k1⟩ := hSw; go_simp; (try with_reducible rfl); done)
  try simp only [Act.put, List.setIfInBounds_toArray, List.set_cons_zero, List.set_cons_succ]
  refine' take_ 1 rfl (by kernel_rfl) (by kernel_rfl) (by kernel_rfl) (fun _ _ _ h => h) (by rfl) (fun wS hSw => ?_) hHeld ?_
  rotate_left
  focus (obtain ⟨k7, k5, k1⟩ := hSw; go_simp; (try with_reducible rfl); done)
  try simp only [Act.put, List.setIfInBounds_toArray, List.set_cons_zero, List.set_cons_succ]
  refine' take_ 2 rfl (by kernel_rfl) (by kernel_rfl) (by kernel_rfl) (fun _ _ _ h => h) (by rfl) (fun wS hSw => ?_) hHeld ?_
  rotate_left
  focus (obtain ⟨k7, k5, k1⟩ := hSw; go_simp; (try with_reducible rfl); done)
  try simp only [Act.put, List.setIfInBounds_toArray, List.set_cons_zero, List.set_cons_succ]
  refine' take_ 3 rfl (by kernel_rfl) (by kernel_rfl) (by kernel_rfl) (fun _ _ _ h => h) (by rfl) (fun wS hSw => ?_) hHeld ?_
  rotate_left
  focus (obtain ⟨k7, k5, k1⟩ := hSw; go_simp; (try with_reducible rfl); done)
  try simp only [Act.put, List.setIfInBounds_toArray, List.set_cons_zero, List.set_cons_succ]
  refine' take_ 4 rfl (by kernel_rfl) (by kernel_rfl) (by kernel_rfl) (fun _ _ _ h => h) (by rfl) (fun wS hSw => ?_) hHeld ?_
  rotate_left
  focus (obtain ⟨k7, k5, k1⟩ := hSw; go_simp; (try with_reducible rfl); done)
  try simp only [Act.put, List.setIfInBounds_toArray, List.set_cons_zero, List.set_cons_succ]
  refine' take_ 5 rfl (by kernel_rfl) (by kernel_rfl) (by kernel_rfl) (fun _ _ _ h => h) (by rfl) (fun wS hSw => ?_) hHeld ?_
  rotate_left
  focus (obtain ⟨k7, k5, k1⟩ := hSw; go_simp; (try with_reducible rfl); done)
  try simp only [Act.put, List.setIfInBounds_toArray, List.set_cons_zero, List.set_cons_succ]
  refine' take_ 6 rfl (by kernel_rfl) (by kernel_rfl) (by kernel_rfl) (fun _ _ _ h => h) (by rfl) (fun wS hSw => ?_) hHeld ?_
  rotate_left
  focus (obtain ⟨k7, k5, k1⟩ := hSw; go_simp; (try with_reducible rfl); done)
  try simp only [Act.put, List.setIfInBounds_toArray, List.set_cons_zero, List.set_cons_succ]
  refine' take_ 7 rfl (by kernel_rfl) (by kernel_rfl) (by kernel_rfl) (fun _ _ _ h => h) (by rfl) (fun wS hSw => ?_) hHeld ?_
  rotate_left
  focus (obtain ⟨k7, k5, k1⟩ := hSw; go_simp; (try with_reducible rfl); done)
  try simp only [Act.put, List.setIfInBounds_toArray, List.set_cons_zero, List.set_cons_succ]
  refine' take_ 8 rfl (by kernel_rfl) (by kernel_rfl) (by kernel_rfl) (fun _ _ _ h => h) (by rfl) (fun wS hSw => ?_) hHeld ?_
  rotate_left
  focus (obtain ⟨k7, k5, k1⟩ := hSw; go_simp; (try with_reducible rfl); done)
  try simp only [Act.put, List.setIfInBounds_toArray, List.set_cons_zero, List.set_cons_succ]
  refine' take_ 9 rfl (by kernel_rfl) (by kernel_rfl) (by kernel_rfl) (fun _ _ _ h => h) (by rfl) (fun wS hSw => ?_) hHeld ?_
  rotate_left
  focus (obtain ⟨k7, k5, k1⟩ := hSw; go_simp; (try with_reducible rfl); done)
  try simp only [Act.put, List.setIfInBounds_toArray, List.set_cons_zero, List.set_cons_succ]
  refine' take_ 10 rfl (by kernel_rfl) (by kernel_rfl) (by kernel_rfl) (fun _ _ _ h => h) (by rfl) (fun wS hSw => ?_) hHeld ?_
  rotate_left
  focus (obtain ⟨k7, k5, k1⟩ := hSw; go_simp; (try with_reducible rfl); done)
  try simp only [Act.put, List.setIfInBounds_toArray, List.set_cons_zero, List.set_cons_succ]
  refine' take_ 11 rfl (by kernel_rfl) (by kernel_rfl) (by kernel_rfl) (fun _ _ _ h => h) (by rfl) (fun wS hSw => ?_) hHeld ?_
  rotate_left
  focus (obtain ⟨k7, k5, k1⟩ := hSw; go_simp; (try with_reducible rfl); done)
  try simp only [Act.put, List.setIfInBounds_toArray, List.set_cons_zero, List.set_cons_succ]
  refine' take_ 12 rfl (by kernel_rfl) (by kernel_rfl) (by kernel_rfl) (fun _ _ _ h => h) (by rfl) (fun wS hSw => ?_) hHeld ?_
  rotate_left
  focus (obtain ⟨k7, k5, k1⟩ := hSw; go_simp; (try with_reducible rfl); done)
  try simp only [Act.put, List.setIfInBounds_toArray, List.set_cons_zero, List.set_cons_succ]
  refine only_ 13 rfl (by kernel_rfl) (by rfl) (fun K hK => ?_)
  refine wp_load_row 27 _ rfl b 8 rfl (exL op2 at2 name2 field2 n2 ty2 ref2 A2 len2 c2) _ (fun j v hv => row_at (HR.out _ (Below.refl _ _).drew) (8 + j) v (by rw [Nat.add_comm]; exact hv)) Try.underlying27 rfl (by kernel_rfl) ?_
  refine hK.out _ _ (hHeld) (fun hHeld2 => ?_)
  clear hK K hHeld
  have hHeld := hHeld2
  clear hHeld2
  try simp only [Act.put, List.setIfInBounds_toArray, List.set_cons_zero, List.set_cons_succ]
  refine only_ 14 rfl (by kernel_rfl) (by rfl) (fun K hK => ?_)
  go_simp
  have HTD := Lib.hid (TyD.of (row' := exL2 op1 at1 name1 field1 n1 ty1 ref1 A1 len1 c1 (7 + ty1 - 1) at_ ⟨#[]⟩ ⟨#[]⟩ 0 ty1 0 (some W.heap.size) 1 1) (nrow := exL op2 at2 name2 field2 n2 ty2 ref2 A2 len2 c2) HTW2.out hb (HR.out _ (Below.refl _ _)) HBW2.out).drew
  refine hK.out _ _ (⟨row_at (HTW2.out.under ((Below.refl _ _).alloc (Nat.le_refl _) _).drew).box 7 _ rfl, row_at (HTW2.out.under ((Below.refl _ _).alloc (Nat.le_refl _) _).drew).box 5 _ rfl, row_at (HTW2.out.under ((Below.refl _ _).alloc (Nat.le_refl _) _).drew).box 1 _ rfl⟩) (fun hHeld2 => ?_)
  clear hK K hHeld
  have hHeld := hHeld2
  clear hHeld2
  try simp only [Act.put, List.setIfInBounds_toArray, List.set_cons_zero, List.set_cons_succ]
  refine' take_ 15 rfl (by kernel_rfl) (by kernel_rfl) (by kernel_rfl) (fun _ _ _ h => h) (by rfl) (fun wS hSw => ?_) hHeld ?_
  rotate_left
  focus (obtain ⟨k7, k5, k1⟩ := hSw; go_simp; (try with_reducible rfl); done)
  try simp only [Act.put, List.setIfInBounds_toArray, List.set_cons_zero, List.set_cons_succ]
  refine' take_ 16 rfl (by kernel_rfl) (by kernel_rfl) (by kernel_rfl) (fun _ _ _ h => h) (by rfl) (fun wS hSw => ?_) hHeld ?_
  rotate_left
  focus (obtain ⟨k7, k5, k1⟩ := hSw; go_simp; (try with_reducible rfl); done)
  try simp only [Act.put, List.setIfInBounds_toArray, List.set_cons_zero, List.set_cons_succ]
  refine only_ 17 rfl (by kernel_rfl) (by rfl) (fun K hK => ?_)
  refine wp_store_row rfl 27 _ _ rfl b 8 rfl (exL (7 + ty1 - 1) at_ ⟨#[]⟩ ⟨#[]⟩ 0 ty1 0 (some W.heap.size) 1 1) rfl (by kernel_rfl) (exL2 op1 at1 name1 field1 n1 ty1 ref1 A1 len1 c1 op2 at2 name2 field2 n2 ty2 ref2 A2 len2 c2) (exL2 op1 at1 name1 field1 n1 ty1 ref1 A1 len1 c1 (7 + ty1 - 1) at_ ⟨#[]⟩ ⟨#[]⟩ 0 ty1 0 (some W.heap.size) 1 1) 27 (HR.out _ ((Below.refl _ _).alloc (Nat.le_refl _) _).drew) (by show 8 + 8 ≤ 16; omega) (exL_one _ _ _ _ _ _ _ _ _ _) rfl ?_
  have HTD2 : Hid (TyD w op at_ ty1 b c W.heap.size (exL2 op1 at1 name1 field1 n1 ty1 ref1 A1 len1 c1 (7 + ty1 - 1) at_ ⟨#[]⟩ ⟨#[]⟩ 0 ty1 0 (some W.heap.size) 1 1) (exL op2 at2 name2 field2 n2 ty2 ref2 A2 len2 c2) ((W.alloc (.cells (exL op2 at2 name2 field2 n2 ty2 ref2 A2 len2 c2).toArray 27)).drew.setRow b (exL2 op1 at1 name1 field1 n1 ty1 ref1 A1 len1 c1 (7 + ty1 - 1) at_ ⟨#[]⟩ ⟨#[]⟩ 0 ty1 0 (some W.heap.size) 1 1).toArray)) := HTD.out
  clear HTD
  refine hK.out _ _ ⟨row_at HTD2.out.ty.box 7 _ rfl, row_at HTD2.out.ty.box 5 _ rfl, row_at HTD2.out.ty.box 1 _ rfl⟩ (fun hHeld2 => ?_)
  clear hK K hHeld hHeld2
  generalize hWF : (W.alloc (.cells (exL op2 at2 name2 field2 n2 ty2 ref2 A2 len2 c2).toArray 27)).drew.setRow b (exL2 op1 at1 name1 field1 n1 ty1 ref1 A1 len1 c1 (7 + ty1 - 1) at_ ⟨#[]⟩ ⟨#[]⟩ 0 ty1 0 (some W.heap.size) 1 1).toArray = WF at *
  clear hWF
  try simp only [Act.put]
  refine wpAnyH_done (by kernel_rfl) ?_ _
  refine NoPanic.normal ?_
  have q0 := row_at HTD2.out.ty.box 0 _ rfl
  have q1 := row_at HTD2.out.ty.box 1 _ rfl
  have q2 := row_at HTD2.out.ty.box 2 _ rfl
  have q3 := row_at HTD2.out.ty.box 3 _ rfl
  have q4 := row_at HTD2.out.ty.box 4 _ rfl
  have q5 := row_at HTD2.out.ty.box 5 _ rfl
  have q6 := row_at HTD2.out.ty.box 6 _ rfl
  have q7 := row_at HTD2.out.ty.box 7 _ rfl
  have f5 : WF.frozen? ⟨w.heap.size, 5, none⟩ = false := row_free HTD2.out.ty.box
  have z0 := row_at HTD2.out.ty.res 0 _ rfl
  have g0 : WF.frozen? ⟨w.heap.size + 1, 0, none⟩ = false := row_free HTD2.out.ty.res
  have z1 := row_at HTD2.out.ty.res 1 _ rfl
  have g1 : WF.frozen? ⟨w.heap.size + 1, 1, none⟩ = false := row_free HTD2.out.ty.res
  have z2 := row_at HTD2.out.ty.res 2 _ rfl
  have g2 : WF.frozen? ⟨w.heap.size + 1, 2, none⟩ = false := row_free HTD2.out.ty.res
  have z3 := row_at HTD2.out.ty.res 3 _ rfl
  have g3 : WF.frozen? ⟨w.heap.size + 1, 3, none⟩ = false := row_free HTD2.out.ty.res
  have z4 := row_at HTD2.out.ty.res 4 _ rfl
  have g4 : WF.frozen? ⟨w.heap.size + 1, 4, none⟩ = false := row_free HTD2.out.ty.res
  have z5 := row_at HTD2.out.ty.res 5 _ rfl
  have g5 : WF.frozen? ⟨w.heap.size + 1, 5, none⟩ = false := row_free HTD2.out.ty.res
  have z6 := row_at HTD2.out.ty.res 6 _ rfl
  have g6 : WF.frozen? ⟨w.heap.size + 1, 6, none⟩ = false := row_free HTD2.out.ty.res
  have z7 := row_at HTD2.out.ty.res 7 _ rfl
  have g7 : WF.frozen? ⟨w.heap.size + 1, 7, none⟩ = false := row_free HTD2.out.ty.res
  rcases hcs with ⟨p3, p4⟩ | ⟨p3, p4⟩ | ⟨p3, p4⟩
  all_goals
    have HTT := Lib.hid (HT.out _ _ p3 p4)
    go_wp2
    refine typed_fin (g := w.heap.size + 1) rfl (set8_row (z0 := .int .i64 0) (z1 := .int .i64 0) (z2 := .string ⟨#[]⟩) (z3 := .string ⟨#[]⟩) (z4 := .int .i64 0) (z5 := .int .i64 0) (z6 := .int .i64 0) (z7 := .slice none 0 0) _ _ _ _ _ _ _ _ ?_) ⟨?_, W.heap.size, 1, HTD2.out.cell (g := w.heap.size) (by omega) hb (by simp [World.setCell]) (fun k h1 h2 => ?_) ?_⟩
    · first | exact HTD2.out.ty.res | exact (Below.heap_setCell _ _ _ _ (by show w.heap.size + 1 ≠ w.heap.size; omega)).trans HTD2.out.ty.res
    · rw [HTT.out]
      rfl
    · first | exact set8_other h2 _ _ _ _ _ _ _ _ | exact (set8_other h2 _ _ _ _ _ _ _ _).trans (Below.heap_setCell _ _ _ _ h1)
    · refine set8_below ?_ (by omega) _ _ _ _ _ _ _ _
      first | exact HTD2.out.below | exact HTD2.out.below.setCell (by show b ≤ w.heap.size; omega) _
end Go.Proofs.Ythmphmndpfkbcaa
