/-
  'typed' by its contract: an operator of one value, of two.
-/
import Derived.Test.YthmphmndpfkbcaaEval
namespace Go.Proofs.Ythmphmndpfkbcaa
open Go.RowKit
set_option linter.unusedVariables false
/-- The type that an operator gets, by its first value's. -/
def typedTy (op t : Int) : Int := if op = 6 ∨ op = 7 ∨ 16 ≤ op ∧ op ≤ 21 then 1 else if op = 8 then 2 else t
/-- A row of eight cells that is written whole, cell by cell. -/
abbrev set8 (W : World) (g : Nat) (v0 v1 v2 v3 v4 v5 v6 v7 : Value) : World := (((((((W.setCell ⟨g, 0, none⟩ v0).setCell ⟨g, 1, none⟩ v1).setCell ⟨g, 2, none⟩ v2).setCell ⟨g, 3, none⟩ v3).setCell ⟨g, 4, none⟩ v4).setCell ⟨g, 5, none⟩ v5).setCell ⟨g, 6, none⟩ v6).setCell ⟨g, 7, none⟩ v7
theorem set8_row {W : World} {g : Nat} {t : TypeId} {z0 z1 z2 z3 z4 z5 z6 z7 : Value} (v0 v1 v2 v3 v4 v5 v6 v7 : Value) (h : W.heap[g]? = some (.cells [z0, z1, z2, z3, z4, z5, z6, z7].toArray t (0, 0))) :
    (set8 W g v0 v1 v2 v3 v4 v5 v6 v7).heap[g]? = some (.cells [v0, v1, v2, v3, v4, v5, v6, v7].toArray t (0, 0)) :=
  row_setCell (row_setCell (row_setCell (row_setCell (row_setCell (row_setCell (row_setCell (row_setCell h)))))))
theorem set8_below {B : Nat} {a W : World} (h : Below B a W) {g : Nat} (hg : B ≤ g) (v0 v1 v2 v3 v4 v5 v6 v7 : Value) : Below B a (set8 W g v0 v1 v2 v3 v4 v5 v6 v7) :=
  (((((((h.setCell hg v0).setCell hg v1).setCell hg v2).setCell hg v3).setCell hg v4).setCell hg v5).setCell hg v6).setCell hg v7
theorem set8_other {W : World} {g k : Nat} (hk : k ≠ g) (v0 v1 v2 v3 v4 v5 v6 v7 : Value) : (set8 W g v0 v1 v2 v3 v4 v5 v6 v7).heap[k]? = W.heap[k]? := by
  unfold set8
  repeat rw [Below.heap_setCell _ _ _ _ (by exact hk)]
theorem set8_size (W : World) (g : Nat) (v0 v1 v2 v3 v4 v5 v6 v7 : Value) : (set8 W g v0 v1 v2 v3 v4 v5 v6 v7).heap.size = W.heap.size := by simp [set8, World.setCell]
theorem typed_fin {W : World} {g : Nat} {tm : Array Value} {Q : Ending → World → Prop} {v0 v1 v2 v3 v4 v5 v6 v7 : Value} (h2 : tm[2]?.getD undef = .pointer (some ⟨g, 0, none⟩)) (h : W.heap[g]? = some (.cells [v0, v1, v2, v3, v4, v5, v6, v7].toArray 27 (0, 0)))
    (hQ : Q (.returned (.agg [v0, v1, v2, v3, v4, v5, v6, v7].toArray)) W) : bodyPost Try.prog Try.f19 Q Exit.ret { tmps := tm, defers := [] } W := by
  have q0 := row_at h 0 _ rfl
  have q1 := row_at h 1 _ rfl
  have q2 := row_at h 2 _ rfl
  have q3 := row_at h 3 _ rfl
  have q4 := row_at h 4 _ rfl
  have q5 := row_at h 5 _ rfl
  have q6 := row_at h 6 _ rfl
  have q7 := row_at h 7 _ rfl
  exact bodyPost_ret (v := .agg [v0, v1, v2, v3, v4, v5, v6, v7].toArray) (by simp [results, Try.results19, go_sem, h2, q0, q1, q2, q3, q4, q5, q6, q7]) rfl hQ
theorem two_at (w : World) (o o2 : Obj) : ((w.alloc o).alloc o2).heap[w.heap.size + 1]? = some o2 := by
  have h := alloc_at (w.alloc o) o2
  have hs : (w.alloc o).heap.size = w.heap.size + 1 := by simp
  rw [hs] at h
  exact h
theorem two_below (w : World) (o o2 : Obj) : Below w.heap.size w ((w.alloc o).alloc o2) := ((Below.refl _ _).alloc (Nat.le_refl _) _).alloc (by simp) _
set_option maxRecDepth 100000 in
set_option maxHeartbeats 1000000 in
theorem typed_1 (op at_ : Int) (b c : Nat) (op1 at1 : Int) (name1 field1 : ByteArray) (n1 ty1 ref1 : Int) (A1 : Option Nat) (c1 len1 : Nat) (w : World) (h4 : 4 ≤ op) (h8 : op ≤ 8)
    (hrow : w.heap[b]? = some (.cells (exL op1 at1 name1 field1 n1 ty1 ref1 A1 len1 c1).toArray 27 (0, 0))) :
    Calls Try.prog 19 #[.agg (exL op at_ ⟨#[]⟩ ⟨#[]⟩ 0 0 0 (some b) 1 c).toArray] w fun e w' => e = .returned (.agg (exL op at_ ⟨#[]⟩ ⟨#[]⟩ 0 (typedTy op ty1) 0 (some b) 1 c).toArray) ∧ Below w.heap.size w w' := by
  have hb := (Array.getElem?_eq_some_iff.1 hrow).1
  have k5 : w.cell? ⟨b, 5, none⟩ = some (.int .i64 ty1) := row_at hrow 5 _ rfl
  have HR := Lib.hid hrow
  clear hrow
  rcases (by omega : op = 4 ∨ op = 5 ∨ op = 6 ∨ op = 7 ∨ op = 8) with rfl | rfl | rfl | rfl | rfl
  all_goals
    rw [show ∀ o : Int, exL o at_ ⟨#[]⟩ ⟨#[]⟩ 0 0 0 (some b) 1 c = [.int .i64 o, .int .i64 at_, .string ⟨#[]⟩, .string ⟨#[]⟩, .int .i64 0, .int .i64 0, .int .i64 0, .slice (some ⟨b, 0, none⟩) 1 c] from fun _ => rfl]
    go_enter Try.func19, Try.ntmps19
    go_wp2
    go_quiet (fail)
    go_wp2
    refine typed_fin (g := w.heap.size + 1) rfl (set8_row (z0 := .int .i64 0) (z1 := .int .i64 0) (z2 := .string ⟨#[]⟩) (z3 := .string ⟨#[]⟩) (z4 := .int .i64 0) (z5 := .int .i64 0) (z6 := .int .i64 0) (z7 := .slice none 0 0) _ _ _ _ _ _ _ _ ?_) ⟨?_, ?_⟩
    · first | exact two_at _ _ _ | exact (Below.heap_setCell _ _ _ _ (by show w.heap.size + 1 ≠ w.heap.size; omega)).trans (two_at _ _ _)
    · rfl
    · refine set8_below ?_ (by omega) _ _ _ _ _ _ _ _
      first | exact two_below _ _ _ | exact Below.drewN' (two_below _ _ _) _ | exact (Below.drewN' (two_below _ _ _) _).setCell (Nat.le_refl _) _
/-- Two rows, one behind the other. -/
abbrev exL2 (op1 at1 : Int) (name1 field1 : ByteArray) (n1 ty1 ref1 : Int) (A1 : Option Nat) (len1 c1 : Nat) (op2 at2 : Int) (name2 field2 : ByteArray) (n2 ty2 ref2 : Int) (A2 : Option Nat) (len2 c2 : Nat) : List Value :=
  [.int .i64 op1, .int .i64 at1, .string name1, .string field1, .int .i64 n1, .int .i64 ty1, .int .i64 ref1, slV A1 len1 c1, .int .i64 op2, .int .i64 at2, .string name2, .string field2, .int .i64 n2, .int .i64 ty2, .int .i64 ref2, slV A2 len2 c2]
/-- What is told of an operator of two: shift or not, comparison or not. -/
def OpIs (op : Int) (s14 s15 g16 l21 : Bool) : Prop := (op == 14) = s14 ∧ (op == 15) = s15 ∧ decide (16 ≤ op) = g16 ∧ decide (op ≤ 21) = l21
theorem opIs (op : Int) (h9 : 9 ≤ op) (h24 : op ≤ 24) : OpIs op true false false true ∨ OpIs op false true false true ∨ OpIs op false false false true ∨ OpIs op false false true true ∨ OpIs op false false true false := by
  unfold OpIs
  rcases (by omega : op = 14 ∨ op = 15 ∨ op ≤ 13 ∨ 16 ≤ op ∧ op ≤ 21 ∨ 22 ≤ op) with h | h | h | h | h
  · exact .inl ⟨by simp; omega, by simp; omega, by simp; omega, by simp; omega⟩
  · exact .inr (.inl ⟨by simp; omega, by simp; omega, by simp; omega, by simp; omega⟩)
  · exact .inr (.inr (.inl ⟨by simp; omega, by simp; omega, by simp; omega, by simp; omega⟩))
  · exact .inr (.inr (.inr (.inl ⟨by simp; omega, by simp; omega, by simp; omega, by simp; omega⟩)))
  · exact .inr (.inr (.inr (.inr ⟨by simp; omega, by simp; omega, by simp; omega, by simp; omega⟩)))
set_option maxRecDepth 100000 in
set_option maxHeartbeats 1000000 in
theorem typed_2n (op at_ : Int) (b c : Nat) (op1 at1 : Int) (name1 field1 : ByteArray) (n1 ty1 ref1 : Int) (A1 : Option Nat) (c1 len1 : Nat) (op2 at2 : Int) (name2 field2 : ByteArray) (n2 ty2 ref2 : Int) (A2 : Option Nat) (c2 len2 : Nat) (w : World) (h9 : 9 ≤ op) (h24 : op ≤ 24) (hno : op = 14 ∨ op = 15 ∨ ty2 = ty1)
    (hrow : w.heap[b]? = some (.cells (exL2 op1 at1 name1 field1 n1 ty1 ref1 A1 len1 c1 op2 at2 name2 field2 n2 ty2 ref2 A2 len2 c2).toArray 27 (0, 0))) :
    Calls Try.prog 19 #[.agg (exL op at_ ⟨#[]⟩ ⟨#[]⟩ 0 0 0 (some b) 2 c).toArray] w fun e w' => e = .returned (.agg (exL op at_ ⟨#[]⟩ ⟨#[]⟩ 0 (typedTy op ty1) 0 (some b) 2 c).toArray) ∧ Below w.heap.size w w' := by
  have hb := (Array.getElem?_eq_some_iff.1 hrow).1
  have k5 : w.cell? ⟨b, 5, none⟩ = some (.int .i64 ty1) := row_at hrow 5 _ rfl
  have k13 : w.cell? ⟨b, 13, none⟩ = some (.int .i64 ty2) := row_at hrow 13 _ rfl
  clear hrow
  have o6 : (op == 6) = false := by simp; omega
  have o7 : (op == 7) = false := by simp; omega
  have o8 : (op == 8) = false := by simp; omega
  have HT : Hid (∀ g l, decide (16 ≤ op) = g → decide (op ≤ 21) = l → typedTy op ty1 = if g && l then 1 else ty1) := fun g l hg hl => by
    subst hg hl
    unfold typedTy
    rw [if_neg (show ¬ op = 8 by omega)]
    by_cases h1 : 16 ≤ op ∧ op ≤ 21
    · rw [if_pos (by omega)]
      simp [h1]
    · rw [if_neg (by omega)]
      simp
      omega
  have hne : (ty2 != ty1) = false ∨ op = 14 ∨ op = 15 := by
    rcases hno with h | h | h
    · exact .inr (.inl h)
    · exact .inr (.inr h)
    · exact .inl (by simp [h])
  clear hno
  rw [show ∀ o : Int, exL o at_ ⟨#[]⟩ ⟨#[]⟩ 0 0 0 (some b) 2 c = [.int .i64 o, .int .i64 at_, .string ⟨#[]⟩, .string ⟨#[]⟩, .int .i64 0, .int .i64 0, .int .i64 0, .slice (some ⟨b, 0, none⟩) 2 c] from fun _ => rfl]
  have hcs := opIs op h9 h24
  have hne2 : (ty2 != ty1) = false ∨ (op == 14) = true ∨ (op == 15) = true := by
    rcases hne with h | rfl | rfl
    · exact .inl h
    · exact .inr (.inl rfl)
    · exact .inr (.inr rfl)
  clear hne h9 h24
  cases hd : (ty2 != ty1)
  all_goals
    rcases hcs with ⟨p1, p2, p3, p4⟩ | ⟨p1, p2, p3, p4⟩ | ⟨p1, p2, p3, p4⟩ | ⟨p1, p2, p3, p4⟩ | ⟨p1, p2, p3, p4⟩
    all_goals
      first
      | (exfalso; rw [hd, p1, p2] at hne2; simp at hne2; done)
      | (have HTT := Lib.hid (HT.out _ _ p3 p4)
         clear hne2 HT
         go_enter Try.func19, Try.ntmps19
         go_wp2
         go_quiet (fail)
         go_wp2
         refine typed_fin (g := w.heap.size + 1) rfl (set8_row (z0 := .int .i64 0) (z1 := .int .i64 0) (z2 := .string ⟨#[]⟩) (z3 := .string ⟨#[]⟩) (z4 := .int .i64 0) (z5 := .int .i64 0) (z6 := .int .i64 0) (z7 := .slice none 0 0) _ _ _ _ _ _ _ _ ?_) ⟨?_, ?_⟩
         · first | exact two_at _ _ _ | exact (Below.heap_setCell _ _ _ _ (by show w.heap.size + 1 ≠ w.heap.size; omega)).trans (two_at _ _ _)
         · rw [HTT.out]
           rfl
         · refine set8_below ?_ (by omega) _ _ _ _ _ _ _ _
           first | exact two_below _ _ _ | exact Below.drewN' (two_below _ _ _) _ | exact (Below.drewN' (two_below _ _ _) _).setCell (Nat.le_refl _) _)
end Go.Proofs.Ythmphmndpfkbcaa
