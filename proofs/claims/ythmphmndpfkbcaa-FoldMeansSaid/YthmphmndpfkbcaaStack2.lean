/-
  A stack of expressions: an operator is set in the place of its operands. No walk.
-/
import Derived.Test.YthmphmndpfkbcaaStack
namespace Go.Proofs.Ythmphmndpfkbcaa
open Go.RowKit
set_option linter.unusedVariables false
theorem sl_one {S : Nat → Prop} {W : World} {b : Nat} {op at_ : Int} {name field : ByteArray} {n ty ref : Int} {A : Option Nat} {c : Nat} {args : List Ex} (hrow : W.heap[b]? = some (.cells (exL op at_ name field n ty ref A args.length c).toArray 27 (0, 0))) (hs : SlIn S W A args) (hS : S b) :
    SlIn S W (some b) [.mk op at_ name field n ty ref args] := by
  refine .row (by simp) hS (fun _ => exL op at_ name field n ty ref A args.length c) (fun i hi j v hv => ?_) (fun i x hx => ?_)
  · obtain rfl : i = 0 := by simp at hi; omega
    exact row_at hrow _ v (by simpa using hv)
  · obtain ⟨hi, _⟩ := List.getElem?_eq_some_iff.1 hx
    obtain rfl : i = 0 := by simp at hi; omega
    obtain rfl : Ex.mk op at_ name field n ty ref args = x := by simpa using hx
    exact .mk hs
theorem sl_two {S : Nat → Prop} {W : World} {b : Nat} {op1 at1 : Int} {name1 field1 : ByteArray} {n1 ty1 ref1 : Int} {A1 : Option Nat} {c1 : Nat} {args1 : List Ex} {op2 at2 : Int} {name2 field2 : ByteArray} {n2 ty2 ref2 : Int} {A2 : Option Nat} {c2 : Nat} {args2 : List Ex}
    (hrow : W.heap[b]? = some (.cells (exL2 op1 at1 name1 field1 n1 ty1 ref1 A1 args1.length c1 op2 at2 name2 field2 n2 ty2 ref2 A2 args2.length c2).toArray 27 (0, 0))) (hs1 : SlIn S W A1 args1) (hs2 : SlIn S W A2 args2) (hS : S b) :
    SlIn S W (some b) [.mk op1 at1 name1 field1 n1 ty1 ref1 args1, .mk op2 at2 name2 field2 n2 ty2 ref2 args2] := by
  refine .row (by simp) hS (fun i => if i = 0 then exL op1 at1 name1 field1 n1 ty1 ref1 A1 args1.length c1 else exL op2 at2 name2 field2 n2 ty2 ref2 A2 args2.length c2) (fun i hi j v hv => ?_) (fun i x hx => ?_)
  · rcases (by simp at hi; omega : i = 0 ∨ i = 1) with rfl | rfl
    · have hv2 : (exL op1 at1 name1 field1 n1 ty1 ref1 A1 args1.length c1)[j]? = some v := hv
      refine row_at hrow _ v ?_
      show ((exL op1 at1 name1 field1 n1 ty1 ref1 A1 args1.length c1) ++ (exL op2 at2 name2 field2 n2 ty2 ref2 A2 args2.length c2))[0 * 8 + j]? = some v
      rw [Nat.zero_mul, Nat.zero_add, List.getElem?_append_left (List.getElem?_eq_some_iff.1 hv2).1]
      exact hv2
    · have hv2 : (exL op2 at2 name2 field2 n2 ty2 ref2 A2 args2.length c2)[j]? = some v := hv
      refine row_at hrow _ v ?_
      rw [Nat.add_comm]
      exact hv2
  · obtain ⟨hi, _⟩ := List.getElem?_eq_some_iff.1 hx
    rcases (by simp at hi; omega : i = 0 ∨ i = 1) with rfl | rfl
    · obtain rfl : Ex.mk op1 at1 name1 field1 n1 ty1 ref1 args1 = x := by simpa using hx
      exact .mk hs1
    · obtain rfl : Ex.mk op2 at2 name2 field2 n2 ty2 ref2 args2 = x := by simpa using hx
      exact .mk hs2
/-- The stack's row, ready to be stored into. -/
structure Top (w wr : World) (n g cap : Nat) (cur : List Value) (rows : List (List Value)) (S : Nat → Prop) : Prop where
  base : w.heap.size ≤ g
  lt : g < wr.heap.size
  row : wr.heap[g]? = some (.cells cur.toArray 27 (0, 0))
  fit : n ≤ cap
  max : cap ≤ maxLen
  len : cur.length = cap * 8
  take : cur.take (n * 8) = rows.flatten
theorem Stk.topOf {w wr : World} {k : Nat} {trees : List Ex} {rows : List (List Value)} {S : Nat → Prop} {v : Value} (h : Stk w k trees rows S v wr) (hn : 0 < trees.length) : ∃ (g cap : Nat) (cur : List Value), v = .slice (some ⟨g, 0, none⟩) trees.length cap ∧ Top w wr trees.length g cap cur rows S := by
  obtain ⟨g, cap, cur, hv, h1, h2, h3, h4, h5, h6, h7⟩ := h.each.blk hn
  exact ⟨g, cap, cur, hv, h1, h2, h5, h3, h4, h6, h7⟩
/-- The new row. -/
abbrev newRow (cur : List Value) (i : Nat) (news : List Value) : List Value := cur.take (i * 8) ++ news ++ cur.drop (i * 8 + 8)
theorem Stk.set {w wr W : World} {k : Nat} {trees : List Ex} {rows : List (List Value)} {S S' : Nat → Prop} {g cap : Nat} {cur news : List Value} {x y : Ex} (i n : Nat) (hn : trees.length = n) (h : Stk w k trees rows S (.slice (some ⟨g, 0, none⟩) n cap) wr) (hz : w.heap.size ≤ wr.heap.size) (ht : Top w wr n g cap cur rows S) (hi : i < n)
    (hb : Below wr.heap.size wr W) (hx : trees[i]? = some x) (hnew : ExIn S' W news y) (hS : ∀ b, S b → S' b) (hS' : ∀ b, S' b → S b ∨ wr.heap.size ≤ b ∧ b < W.heap.size) (hok : okT y ∧ (y.ty = 1 ∨ y.ty = 2)) (hsz : sizeT y ≤ sizeT x + 2) :
    ∃ rows', Stk w (k + 1) (trees.set i y) rows' S' (.slice (some ⟨g, 0, none⟩) n cap) (W.setRow g (newRow cur i news).toArray) := by
  subst hn
  have hu := h.each.under hz hb
  have hsb := hb.size
  have hp := hu.put_at (x := y) i hi rfl (cur := cur) (by rw [hb.block _ ht.lt]; exact ht.row) ht.fit ht.max ht.len ht.take ht.base hnew hS (fun b hb2 => by
    rcases hS' b hb2 with h1 | ⟨h1, h2⟩
    · obtain ⟨l1, l2, l3⟩ := hu.low b h1
      exact ⟨l1, l2, fun e => l3 (by rw [e]; rfl)⟩
    · have := ht.lt
      exact ⟨by omega, h2, by omega⟩)
  refine ⟨_, by simpa using hp, fun z hzz => ?_, ?_, by have := h.len; rw [List.length_set]; omega⟩
  · rcases List.mem_or_eq_of_mem_set hzz with h1 | rfl
    · exact h.ok z h1
    · exact hok
  · have h1 := sizeL_set trees i x y hx
    have h2 := h.size
    omega
/-- Two operands are made one. -/
theorem Stk.join {w wr W : World} {k m : Nat} {trees : List Ex} {rows : List (List Value)} {S S' : Nat → Prop} {g cap : Nat} {cur news : List Value} {x x2 y : Ex} (hn : trees.length = m + 2) (h : Stk w k trees rows S (.slice (some ⟨g, 0, none⟩) (m + 2) cap) wr) (hz : w.heap.size ≤ wr.heap.size) (ht : Top w wr (m + 2) g cap cur rows S)
    (hb : Below wr.heap.size wr W) (hx : trees[m]? = some x) (hx2 : trees[m + 1]? = some x2) (hnew : ExIn S' W news y) (hS : ∀ b, S b → S' b) (hS' : ∀ b, S' b → S b ∨ wr.heap.size ≤ b ∧ b < W.heap.size) (hok : okT y ∧ (y.ty = 1 ∨ y.ty = 2)) (hsz : sizeT y ≤ sizeT x + sizeT x2 + 2) :
    ∃ rows', Stk w (k + 1) ((trees.set m y).take (m + 1)) rows' S' (.slice (some ⟨g, 0, none⟩) (m + 1) cap) (W.setRow g (newRow cur m news).toArray) := by
  have hu := h.each.under hz hb
  have hsb := hb.size
  rw [hn] at hu
  have hp := hu.put_at (x := y) m (by omega) hn.symm (cur := cur) (by rw [hb.block _ ht.lt]; exact ht.row) ht.fit ht.max ht.len ht.take ht.base hnew hS (fun b hb2 => by
    rcases hS' b hb2 with h1 | ⟨h1, h2⟩
    · obtain ⟨l1, l2, l3⟩ := hu.low b h1
      exact ⟨l1, l2, fun e => l3 (by rw [e]; rfl)⟩
    · have := ht.lt
      exact ⟨by omega, h2, by omega⟩)
  have hq := hp.pop
  have hl : ((trees.set m y).take (m + 1)).length = m + 1 := by
    rw [List.length_take, List.length_set]
    omega
  refine ⟨_, by rw [hl]; exact hq, fun z hzz => ?_, ?_, by have := h.len; omega⟩
  · rcases List.mem_or_eq_of_mem_set (List.mem_of_mem_take hzz) with h1 | rfl
    · exact h.ok z h1
    · exact hok
  · have h1 := sizeL_set trees m x y hx
    have h2 := sizeL_take (trees.set m y) (m + 1) x2 (by rw [List.getElem?_set_ne (by omega)]; exact hx2)
    have h3 := h.size
    have h4 : (trees.set m y).take (m + 2) = trees.set m y := List.take_of_length_le (by rw [List.length_set]; omega)
    rw [h4] at h2
    omega
end Go.Proofs.Ythmphmndpfkbcaa
