/-
  FoldKnown: how its trees lie in memory while it folds them. Made by wip/genknownb.py.
-/
import Derived.Test.YthmphmndpfkbcaaKnownA
import Derived.Test.YthmphmndpfkbcaaSame
namespace Go.Proofs.Ythmphmndpfkbcaa
open Go.RowKit
/-- A box h that holds the cells l, and behind q one tree. -/
structure Box (W : World) (h q : Nat) (l : List Value) (x : Ex) : Prop where
  row : W.heap[h]? = some (.cells l.toArray 27 (0, 0))
  sl : SlIn (InW W) W (some q) [x]
  lt : h < W.heap.size
theorem Box.under {W W' : World} {h q : Nat} {l : List Value} {x : Ex} (b : Box W h q l x) (hb : Below W.heap.size W W') : Box W' h q l x := by
  have hs := hb.size
  have hl := b.lt
  exact ⟨by rw [hb.block _ hl]; exact b.row, b.sl.later hb, by omega⟩
theorem box_in (W : World) (op op2 a b n ty : Int) (a1 a2 a3 : Obj) (h1 : a1 = .cells (numL a 2 ++ numL b 2).toArray 27) (h2 : a2 = .cells (exL op 0 ⟨#[]⟩ ⟨#[]⟩ 0 2 0 (some W.heap.size) 2 2).toArray 27) (h3 : a3 = .cells (exL op2 0 ⟨#[]⟩ ⟨#[]⟩ n ty 0 (some (W.heap.size + 1)) 1 1).toArray 27) :
    Box (((W.alloc a1).alloc a2).alloc a3) (W.heap.size + 1 + 1) (W.heap.size + 1) (exL op2 0 ⟨#[]⟩ ⟨#[]⟩ n ty 0 (some (W.heap.size + 1)) 1 1) (.mk op 0 ⟨#[]⟩ ⟨#[]⟩ 0 2 0 [numT a 2, numT b 2]) := by
  have s1 : (W.alloc a1).heap.size = W.heap.size + 1 := by simp
  have s2 : ((W.alloc a1).alloc a2).heap.size = W.heap.size + 1 + 1 := by simp
  have r1 := alloc_at W a1
  rw [← Below.heap_alloc _ a2 _ (by omega), ← Below.heap_alloc _ a3 _ (by omega)] at r1
  have r2 := alloc_at (W.alloc a1) a2
  rw [← Below.heap_alloc _ a3 _ (by omega), s1] at r2
  have r3 := alloc_at ((W.alloc a1).alloc a2) a3
  rw [s2] at r3
  subst h1 h2 h3
  refine ⟨r3, SlIn.one r2 (ExIn.mk (args := [_, _]) (SlIn.two r1 (num_in _ _ _ _ _) (num_in _ _ _ _ _) ?_)) ?_, by simp⟩
  · show _ < _
    simp
    omega
  · show _ < _
    simp
abbrev deepL (q : Nat) : List Value := exL 7 0 ⟨#[]⟩ ⟨#[]⟩ 0 1 0 (some q) 1 1
abbrev cellL (q : Nat) : List Value := exL 28 0 ⟨#[]⟩ ⟨#[]⟩ 4 1 0 (some q) 1 1
/-- Both boxes. -/
structure KI (w : World) (h1 q1 h2 q2 : Nat) (W : World) : Prop where
  b1 : Box W h1 q1 (deepL q1) shlT
  b2 : Box W h2 q2 (cellL q2) subT
  below : Below w.heap.size w W
theorem KI.under {w : World} {h1 q1 h2 q2 : Nat} {W W' : World} (h : KI w h1 q1 h2 q2 W) (hb : Below W.heap.size W W') : KI w h1 q1 h2 q2 W' :=
  ⟨h.b1.under hb, h.b2.under hb, h.below.trans (hb.mono h.below.size)⟩
theorem known_start (w w1 w2 w3 w4 : World) (a1 a2 a3 c1 c2 c3 : Obj) (hb1 : Below w.heap.size w w1) (hb2 : Below w1.heap.size w1 w2) (hb3 : Below (((w2.alloc a1).alloc a2).alloc a3).heap.size (((w2.alloc a1).alloc a2).alloc a3) w3) (hb4 : Below w3.heap.size w3 w4)
    (h1 : a1 = .cells (numL 4294967295 2 ++ numL 4 2).toArray 27) (h2 : a2 = .cells (exL 14 0 ⟨#[]⟩ ⟨#[]⟩ 0 2 0 (some w2.heap.size) 2 2).toArray 27) (h3 : a3 = .cells (deepL (w2.heap.size + 1)).toArray 27)
    (k1 : c1 = .cells (numL 5 2 ++ numL 2 2).toArray 27) (k2 : c2 = .cells (exL 13 0 ⟨#[]⟩ ⟨#[]⟩ 0 2 0 (some w4.heap.size) 2 2).toArray 27) (k3 : c3 = .cells (cellL (w4.heap.size + 1)).toArray 27) :
    KI w (w2.heap.size + 1 + 1) (w2.heap.size + 1) (w4.heap.size + 1 + 1) (w4.heap.size + 1) (((w4.alloc c1).alloc c2).alloc c3) := by
  have B1 := box_in w2 14 7 4294967295 4 0 1 a1 a2 a3 h1 h2 h3
  have B2 := box_in w4 13 28 5 2 4 1 c1 c2 c3 k1 k2 k3
  have s1 : (((w2.alloc a1).alloc a2).alloc a3).heap.size = w2.heap.size + 1 + 1 + 1 := by simp
  have z1 := hb1.size
  have z2 := hb2.size
  have z3 := hb3.size
  have z4 := hb4.size
  have b34 := hb3.trans (hb4.mono z3)
  have bl : ∀ B ≤ w4.heap.size, Below B w4 (((w4.alloc c1).alloc c2).alloc c3) := fun B hB => (((Below.refl _ _).alloc hB _).alloc (by simp; omega) _).alloc (by simp; omega) _
  have b5 : Below (((w2.alloc a1).alloc a2).alloc a3).heap.size (((w2.alloc a1).alloc a2).alloc a3) (((w4.alloc c1).alloc c2).alloc c3) := b34.trans (bl _ (by omega))
  refine ⟨B1.under b5, B2, ?_⟩
  have c0 : Below w.heap.size w2 (((w2.alloc a1).alloc a2).alloc a3) := (((Below.refl _ _).alloc (by omega) _).alloc (by simp; omega) _).alloc (by simp; omega) _
  exact ((hb1.trans (hb2.mono z1)).trans c0).trans (b5.mono (by omega))
/-- What is known of the folded cell's operand. -/
def CIn (b : Nat) (W : World) : Prop := b < W.heap.size ∧ W.cell? ⟨b, 0, none⟩ = some (.int .i64 0) ∧ W.cell? ⟨b, 4, none⟩ = some (.int .i64 3)
theorem CIn.under {b : Nat} {W W' : World} (h : CIn b W) (hb : Below W.heap.size W W') : CIn b W' := by
  have hs := hb.size
  obtain ⟨h1, h2, h3⟩ := h
  refine ⟨by omega, ?_, ?_⟩
  · rw [hb.cell (p := ⟨b, 0, none⟩) h1]
    exact h2
  · rw [hb.cell (p := ⟨b, 4, none⟩) h1]
    exact h3
theorem CIn.set {b : Nat} {W : World} (h : CIn b W) {g : Nat} (hg : b ≠ g) (cs : Array Value) : CIn b (W.setRow g cs) := by
  obtain ⟨h1, h2, h3⟩ := h
  refine ⟨by rw [setRow_size]; exact h1, ?_, ?_⟩
  · rw [World.cell?_of_block (setRow_other W g b cs hg)]
    exact h2
  · rw [World.cell?_of_block (setRow_other W g b cs hg)]
    exact h3
/-- A box of one's own. -/
def Own (h : Nat) (l : List Value) (W : World) : Prop := h < W.heap.size ∧ W.heap[h]? = some (.cells l.toArray 27 (0, 0))
theorem Own.under {h : Nat} {l : List Value} {W W' : World} (o : Own h l W) (hb : Below W.heap.size W W') : Own h l W' := by
  have hs := hb.size
  exact ⟨by have := o.1; omega, by rw [hb.block _ o.1]; exact o.2⟩
theorem Own.new (W : World) (l : List Value) (o : Obj) (ho : o = .cells l.toArray 27) : Own W.heap.size l (W.alloc o) := by
  subst ho
  exact ⟨by simp, alloc_at W _⟩
theorem Own.set {h : Nat} {l : List Value} {W : World} (o : Own h l W) (n : List Value) : Own h n (W.setRow h n.toArray) := ⟨by rw [setRow_size]; exact o.1, setRow_heap _ _ _ _ _ _ o.2⟩
theorem Own.other {h g : Nat} {l : List Value} {W : World} (o : Own h l W) (hg : h ≠ g) (cs : Array Value) : Own h l (W.setRow g cs) := ⟨by rw [setRow_size]; exact o.1, by rw [setRow_other _ _ _ _ hg]; exact o.2⟩
/-- What stands behind region 3. -/
structure KN (w : World) (h1 q1 h3 h4 b : Nat) (A : Option Nat) (c cc : Nat) (W : World) : Prop where
  b1 : Box W h1 q1 (deepL q1) shlT
  d : Own h3 (exL 0 0 ⟨#[]⟩ ⟨#[]⟩ (-16) 1 0 A 0 c) W
  e : Own h4 (exL 28 0 ⟨#[]⟩ ⟨#[]⟩ 4 1 0 (some b) 1 cc) W
  ci : CIn b W
  below : Below w.heap.size w W
section
variable {P : Program} {ops : Array Oper} {Q : Exit → Act → World → Prop} {md : Region.Mode} {S : World → Prop}
/-- Three operations may come up, all are wanted. -/
theorem three_ (i j k : Nat) {dst dst' dst2 : Option Tmp} {op op' op2 : Op} {type type' type2 : TypeId} {pos pos' pos2 : String} {after after' after2 : Array Edge} {guard guard' guard2 : Option (Nat × Bool)} {fuel : Nat} {listed : Array Bool} {a : Act} {w : World}
    (hi : ops[i]? = some ⟨dst, op, type, pos, after, guard⟩) (hj : ops[j]? = some ⟨dst', op', type', pos', after', guard'⟩) (hk : ops[k]? = some ⟨dst2, op2, type2, pos2, after2, guard2⟩)
    (hr : Region.ready md ops listed = [i, j, k]) (hw : Region.wanted ⟨dst, op, type, pos, after, guard⟩ (yielded ops a.tmps) = true) (hw' : Region.wanted ⟨dst', op', type', pos', after', guard'⟩ (yielded ops a.tmps) = true) (hw2 : Region.wanted ⟨dst2, op2, type2, pos2, after2, guard2⟩ (yielded ops a.tmps) = true)
    (h : ∀ K' : Act → World → Prop, Shut (∀ a w, S w → (S w → wpAnyH P md ops Q S fuel (listed.setIfInBounds i true) a w) → K' a w) → Oper.wp P ⟨dst, op, type, pos, after, guard⟩ a w K' Q)
    (h' : ∀ K' : Act → World → Prop, Shut (∀ a w, S w → (S w → wpAnyH P md ops Q S fuel (listed.setIfInBounds j true) a w) → K' a w) → Oper.wp P ⟨dst', op', type', pos', after', guard'⟩ a w K' Q)
    (h2 : ∀ K' : Act → World → Prop, Shut (∀ a w, S w → (S w → wpAnyH P md ops Q S fuel (listed.setIfInBounds k true) a w) → K' a w) → Oper.wp P ⟨dst2, op2, type2, pos2, after2, guard2⟩ a w K' Q) : wpAnyH P md ops Q S (fuel + 1) listed a w :=
  wpAnyH_ready hr (by simp) (AllReadyH.cons hi (fun K' hK => by rw [if_pos hw]; exact h K' hK) (AllReadyH.cons hj (fun K' hK => by rw [if_pos hw']; exact h' K' hK) (AllReadyH.cons hk (fun K' hK => by rw [if_pos hw2]; exact h2 K' hK) AllReadyH.nil)))
/-- The world is a letter from here on; T is what is known of it. -/
theorem any_letter (T : World → Prop) {fuel : Nat} {listed : Array Bool} {a : Act} {w : World} (hT : T w) (h : ∀ W, T W → wpAnyH P md ops Q S fuel listed a W) : wpAnyH P md ops Q S fuel listed a w := h w hT
theorem code_letter (T : World → Prop) {c : Code} {K : Exit → Act → World → Prop} {a : Act} {w : World} (hT : T w) (h : ∀ W, T W → Code.wp P c K a W) : Code.wp P c K a w := h w hT
end
end Go.Proofs.Ythmphmndpfkbcaa
