/-
  The program's in and the document's in beside one another: each call of the two, one behind the other, answers the same and leaves both in the same state. Condition: the text is shorter than 2^46 bytes.
-/
import Derived.Test.YtmmdkoomceikiaaDoorRefAll
namespace Go.Proofs.YtmmdkoomceikiaaDoor
open Go.RowKit

theorem RInB.ne_cells {w : World} {b k : Nat} {s : ByteArray} {p : Nat} {c a : Int} {cs : Array Value} {t : TypeId} {fz : Nat × Nat} (h : RInB w b s p c a) (hk : w.heap[k]? = some (.cells cs t fz)) (ht : t ≠ 30) : k ≠ b := by
  rintro rfl
  unfold RInB at h
  rw [h] at hk
  injection hk with hk
  injection hk with _ h2
  exact ht h2.symm
/-- Both are in one state. -/
structure Both (w : World) (b r : Nat) (s : ByteArray) (st : St) : Prop where
  laid : Laid w
  hin : InS w b s st.p st.F
  href : RIn w r s st
  ok : OkF st.F
  ple : st.p ≤ s.size
  b2 : 2 ≤ b
  r2 : 2 ≤ r
theorem Both.ne {w : World} {b r : Nat} {s : ByteArray} {st : St} (h : Both w b r s st) : r ≠ b := by
  obtain ⟨f, h1, _⟩ := h.hin
  exact h1.ne_cells h.href (by decide)
/-- The document's in stays where the program's is read. -/
theorem Both.ref_stays {w w' : World} {b r : Nat} {s : ByteArray} {st : St} (h : Both w b r s st) (hc : Chg b w w') : RIn w' r s st := by
  have hr : RInB w r s st.p (fc st.F) (fa st.F) := h.href
  exact (hc.other hr.lt h.ne).trans hr
/-- The program's in stays where the document's is read. -/
theorem ins_stays {w w' : World} {b r : Nat} {s : ByteArray} {p : Nat} {F : Option (Int × Int)} {q : Nat} {c a : Int} (h : InS w b s p F) (hr : RInB w r s q c a) (hc : Chg r w w') : InS w' b s p F := by
  obtain ⟨f, h1, hf⟩ := h
  exact ⟨f, (hc.other h1.lt (hr.ne_cells h1 (by decide))).trans h1, FltV.keep hf fun k _ _ hk => hc.other (lt_of_heap hk) (hr.ne_cells hk (by decide))⟩
/-- One step of both: the program's, then the document's. -/
theorem Both.step {w w1 w2 : World} {b r : Nat} {s : ByteArray} {st st' : St} (h : Both w b r s st) (h1 : InS w1 b s st'.p st'.F) (c1 : Chg b w w1) (h2 : RIn w2 r s st') (c2 : Chg r w1 w2) (hok : OkF st'.F) (hp : st'.p ≤ s.size) : Both w2 b r s st' :=
  ⟨(h.laid.chg c1 h.b2).chg c2 h.r2, ins_stays h1 (show RInB w1 r s st.p (fc st.F) (fa st.F) from h.ref_stays c1) c2, h2, hok, hp, h.b2, h.r2⟩

theorem uS_ok (s : ByteArray) (st : St) (h : OkF st.F) : OkF (uS s st).2.F := by
  unfold uS
  split
  · exact h
  · split
    · exact h
    · intro c a e
      simp only [Option.some.injEq, Prod.mk.injEq] at e
      omega
theorem bS_ok (s : ByteArray) (st : St) (h : OkF st.F) : OkF (bS s st).2.F := by
  unfold bS
  split
  · exact h
  · split
    · exact h
    · intro c a e
      simp only [Option.some.injEq, Prod.mk.injEq] at e
      omega
theorem tS_ok (s : ByteArray) (st : St) (h : OkF st.F) : OkF (tS s st).2.F := by
  unfold tS
  split
  · exact h
  · split
    · split
      · intro c a e
        simp only [Option.some.injEq, Prod.mk.injEq] at e
        omega
      · exact h
    · intro c a e
      simp only [Option.some.injEq, Prod.mk.injEq] at e
      omega
theorem manyS_ok (s : ByteArray) (most : Int) (st : St) (h : OkF st.F) : OkF (manyS s most st).2.F := by
  unfold manyS
  split
  · exact h
  · split
    · exact h
    · intro c a e
      simp only [Option.some.injEq, Prod.mk.injEq] at e
      omega
theorem strS_ok (s : ByteArray) (most : Int) (st : St) (h : OkF st.F) : OkF (strS s most st).2.F := by
  unfold strS
  split
  · exact h
  · split
    · split
      · intro c a e
        simp only [Option.some.injEq, Prod.mk.injEq] at e
        omega
      · exact h
    · intro c a e
      simp only [Option.some.injEq, Prod.mk.injEq] at e
      omega
theorem failS_ok (st : St) (c a : Int) (h : OkF st.F) : OkF (failS st c a).F := by
  unfold failS
  split
  · rename_i hh
    intro c' a' e
    simp only [Option.some.injEq, Prod.mk.injEq] at e
    omega
  · exact h
end Go.Proofs.YtmmdkoomceikiaaDoor
