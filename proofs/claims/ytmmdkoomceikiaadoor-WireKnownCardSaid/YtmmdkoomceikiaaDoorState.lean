/-
  An in's state as plain data, what each reading makes of it, and what 'only block b has changed, and new blocks' keeps. Plain mathematics and memory; no condition.
-/
import Derived.Test.YtmmdkoomceikiaaDoorNumber
namespace Go.Proofs.YtmmdkoomceikiaaDoor
open Go.RowKit

/-- Only block b may have changed, and there may be new blocks. -/
def Chg (b : Nat) (w w' : World) : Prop := w.grownBy w' (some b)
section
variable {w w' w1 : World} {b : Nat}
theorem Chg.refl (b : Nat) (w : World) : Chg b w w := ⟨rfl, rfl, rfl, Nat.le_refl _, fun _ _ _ => rfl⟩
theorem Chg.trans {w w1 w' : World} (h : Chg b w w1) (k : Chg b w1 w') : Chg b w w' :=
  ⟨k.os.trans h.os, k.tape.trans h.tape, k.output.trans h.output, Nat.le_trans h.size k.size, fun i hi hne => (k.block i (Nat.lt_of_lt_of_le hi h.size) hne).trans (h.block i hi hne)⟩
theorem Chg.drewN (b : Nat) (w : World) (n : Nat) : Chg b w (w.drewN n) := ⟨rfl, rfl, rfl, Nat.le_refl _, fun _ _ _ => rfl⟩
theorem Chg.alloc (b : Nat) (w : World) (o : Obj) : Chg b w (w.alloc o) := ⟨rfl, rfl, rfl, by simp, fun i hi _ => Below.heap_alloc _ _ _ hi⟩
theorem Chg.setCell (b i : Nat) (w : World) (u : Value) : Chg b w (w.setCell ⟨b, i, none⟩ u) :=
  ⟨rfl, rfl, rfl, by simp [World.setCell], fun k _ hne => Below.heap_setCell _ _ _ _ (fun e => hne (by rw [e]))⟩
theorem Chg.below {B : Nat} (h : Chg b w w') (hB : B ≤ b) (hB' : B ≤ w.heap.size) : Below B w w' :=
  ⟨h.os, h.tape, h.output, h.size, fun k hk => h.block k (by omega) (fun e => by injection e with e; omega)⟩
theorem Chg.ofBelow (h : Below w.heap.size w w') (b : Nat) : Chg b w w' := ⟨h.os, h.tape, h.output, h.size, fun k hk _ => h.block k hk⟩
theorem Chg.other (h : Chg b w w') {k : Nat} (hk : k < w.heap.size) (hne : k ≠ b) : w'.heap[k]? = w.heap[k]? := h.block k hk (fun e => by injection e with e; exact hne e)
end

/-- Block fb is a fault. -/
def FltB (w : World) (fb : Nat) (c a : Int) : Prop := w.heap[fb]? = some (.cells #[.int .i64 c, .int .i64 a] 28 (0, 0))
section
variable {w w' : World} {fb : Nat} {c a : Int}
theorem FltB.c0 (h : FltB w fb c a) : w.cell? ⟨fb, 0, none⟩ = some (.int .i64 c) := by rw [cell_of_row w fb 0 _ _ _ h]; rfl
theorem FltB.c1 (h : FltB w fb c a) : w.cell? ⟨fb, 1, none⟩ = some (.int .i64 a) := by rw [cell_of_row w fb 1 _ _ _ h]; rfl
theorem FltB.lt (h : FltB w fb c a) : fb < w.heap.size := by
  rcases Nat.lt_or_ge fb w.heap.size with h1 | h1
  · exact h1
  · unfold FltB at h; rw [Array.getElem?_eq_none h1] at h; cases h
theorem FltB.ne_in {b : Nat} {s : ByteArray} {p : Nat} {f : Value} (h : FltB w fb c a) (hi : InB w b s p f) : fb ≠ b := by
  rintro rfl
  unfold FltB at h
  unfold InB at hi
  rw [h] at hi
  injection hi with hi
  injection hi with _ ht
  exact absurd ht (by decide)
end
theorem InB.ne_cells {w : World} {b k : Nat} {s : ByteArray} {p : Nat} {f : Value} {cs : Array Value} {t : TypeId} {fz : Nat × Nat} (h : InB w b s p f) (hk : w.heap[k]? = some (.cells cs t fz)) (ht : t ≠ 71) : k ≠ b := by
  rintro rfl
  unfold InB at h
  rw [h] at hk
  injection hk with hk
  injection hk with _ h2
  exact ht h2.symm

/-- What an in's fault is, as a value. -/
def FltV (w : World) (f : Value) : Option (Int × Int) → Prop
  | none => f = .nilIface
  | some (c, a) => ∃ fb, f = .iface 72 (.pointer (some ⟨fb, 0, none⟩)) ∧ FltB w fb c a
/-- Block b is an in of the bytes s, at the place p, with the fault F. -/
def InS (w : World) (b : Nat) (s : ByteArray) (p : Nat) (F : Option (Int × Int)) : Prop := ∃ f, InB w b s p f ∧ FltV w f F
theorem InS.lt {w : World} {b : Nat} {s : ByteArray} {p : Nat} {F : Option (Int × Int)} (h : InS w b s p F) : b < w.heap.size := by
  obtain ⟨f, h, _⟩ := h
  exact h.lt
theorem FltV.keep {w w' : World} {f : Value} {F : Option (Int × Int)} (h : FltV w f F) (hk : ∀ (k : Nat) (cs : Array Value) (fz : Nat × Nat), w.heap[k]? = some (Obj.cells cs 28 fz) → w'.heap[k]? = w.heap[k]?) : FltV w' f F := by
  rcases F with _ | ⟨c, a⟩
  · exact h
  · obtain ⟨fb, rfl, hf⟩ := h
    exact ⟨fb, rfl, (hk fb _ _ hf).trans hf⟩
theorem lt_of_heap {w : World} {k : Nat} {o : Obj} (h : w.heap[k]? = some o) : k < w.heap.size := by
  rcases Nat.lt_or_ge k w.heap.size with h1 | h1
  · exact h1
  · rw [Array.getElem?_eq_none h1] at h; cases h
/-- An in stays where nothing that was there changes. -/
theorem InS.below {w w' : World} {b : Nat} {s : ByteArray} {p : Nat} {F : Option (Int × Int)} {B : Nat} (h : InS w b s p F) (hb : Below B w w') (hB : w.heap.size ≤ B) : InS w' b s p F := by
  obtain ⟨f, h1, h2⟩ := h
  exact ⟨f, h1.below hb (by have := h1.lt; omega), FltV.keep h2 fun k _ _ hk => hb.block k (by have := lt_of_heap hk; omega)⟩
theorem InS.drewN {w : World} {b : Nat} {s : ByteArray} {p : Nat} {F : Option (Int × Int)} (h : InS w b s p F) (n : Nat) : InS (w.drewN n) b s p F := by
  obtain ⟨f, h1, h2⟩ := h
  exact ⟨f, h1, FltV.keep h2 fun _ _ _ _ => rfl⟩
/-- An in stays where another in is read. -/
theorem InS.chg {w w' : World} {b b2 : Nat} {s s2 : ByteArray} {p p2 : Nat} {F F2 : Option (Int × Int)} (h : InS w b s p F) (h2 : InS w b2 s2 p2 F2) (hc : Chg b2 w w') (hne : b ≠ b2) : InS w' b s p F := by
  obtain ⟨f, h1, hf⟩ := h
  obtain ⟨f2, g1, _⟩ := h2
  exact ⟨f, (hc.other h1.lt hne).trans h1, FltV.keep hf fun k _ _ hk => hc.other (lt_of_heap hk) (g1.ne_cells hk (by decide))⟩
theorem Laid.chg {w w' : World} {b : Nat} (h : Laid w) (hc : Chg b w w') (hb : 2 ≤ b) : Laid w' := h.below (hc.below hb h.lt) (Nat.le_refl _)

/-! ### Readings, as plain functions -/
structure St where
  p : Nat
  F : Option (Int × Int)
def failS (st : St) (c a : Int) : St := if st.F = none ∧ c ≠ 0 then { st with F := some (c, a) } else st
/-- A number, or a fault. -/
def uS (s : ByteArray) (st : St) : Nat × St :=
  if st.F ≠ none then (0, st)
  else if (numR s st.p).2.2 = 0 then ((numR s st.p).1, { st with p := st.p + (numR s st.p).2.1 })
  else (0, { st with F := some (((numR s st.p).2.2 : Nat), (st.p : Nat)) })
def unzig (n : Nat) : Int := if n % 2 = 0 then (n / 2 : Nat) else -((n / 2 : Nat) : Int) - 1
/-- A byte, or a fault. -/
def bS (s : ByteArray) (st : St) : Nat × St :=
  if st.F ≠ none then (0, st)
  else if st.p < s.size then (bAt s st.p, { st with p := st.p + 1 })
  else (0, { st with F := some (3, (st.p : Nat)) })
/-- A truth, or a fault. -/
def tS (s : ByteArray) (st : St) : Bool × St :=
  if st.F ≠ none then (false, st)
  else if st.p < s.size then
    if 1 < bAt s st.p then (false, { st with F := some (5, (st.p : Nat)) })
    else (bAt s st.p == 1, { st with p := st.p + 1 })
  else (false, { st with F := some (3, (st.p : Nat)) })
/-- A number up to 'most', as 'number' has it. -/
def numU (s : ByteArray) (p : Nat) (most : Int) : Nat × Nat × Nat :=
  if (numR s p).2.2 = 0 then (if most < 0 ∨ most < ((numR s p).1 : Int) then (0, 0, 4) else numR s p) else numR s p
def manyS (s : ByteArray) (most : Int) (st : St) : Nat × St :=
  if st.F ≠ none then (0, st)
  else if (numU s st.p most).2.2 = 0 then ((numU s st.p most).1, { st with p := st.p + (numU s st.p most).2.1 })
  else (0, { st with F := some (((numU s st.p most).2.2 : Nat), (st.p : Nat)) })
def strS (s : ByteArray) (most : Int) (st : St) : ByteArray × St :=
  if st.F ≠ none then (ByteArray.empty, st)
  else if (numU s st.p most).2.2 = 0 then
    if s.size - st.p - (numU s st.p most).2.1 < (numU s st.p most).1 then (ByteArray.empty, { st with F := some (3, (st.p : Nat)) })
    else (s.extract (st.p + (numU s st.p most).2.1) (st.p + (numU s st.p most).2.1 + (numU s st.p most).1), { st with p := st.p + (numU s st.p most).2.1 + (numU s st.p most).1 })
  else (ByteArray.empty, { st with F := some (((numU s st.p most).2.2 : Nat), (st.p : Nat)) })
def endS (s : ByteArray) (st : St) : Option (Int × Int) :=
  match st.F with
  | some x => some x
  | none => if st.p < s.size then some (4, (st.p : Nat)) else none
end Go.Proofs.YtmmdkoomceikiaaDoor
