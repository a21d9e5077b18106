/-
  U by its contract over the plain state; Err by its contract: a fault of its own, that holds the number and the place. Condition: as in Read.
-/
import Derived.Test.YtmmdkoomceikiaaDoorRead
namespace Go.Proofs.YtmmdkoomceikiaaDoor
open Go.RowKit

theorem numR_code (s : ByteArray) (p : Nat) : (numR s p).2.2 = 0 ∨ (numR s p).2.2 = 3 ∨ (numR s p).2.2 = 5 := by
  unfold numR
  by_cases h1 : s.size ≤ p
  · simp [h1]
  · by_cases h2 : s.size - p < szc (bAt s p / 64)
    · simp [h1, h2]
    · by_cases h3 : cls (nval s p (szc (bAt s p / 64) - 1)) < bAt s p / 64 <;> simp [h1, h2, h3]
theorem numR_ok (s : ByteArray) (p : Nat) (h : (numR s p).2.2 = 0) : p + (numR s p).2.1 ≤ s.size ∧ 1 ≤ (numR s p).2.1 ∧ (numR s p).2.1 ≤ 8 ∧ (numR s p).1 < 4611686018427387904 := by
  unfold numR at h ⊢
  by_cases h1 : s.size ≤ p
  · simp [h1] at h
  · by_cases h2 : s.size - p < szc (bAt s p / 64)
    · simp [h1, h2] at h
    · by_cases h3 : cls (nval s p (szc (bAt s p / 64) - 1)) < bAt s p / 64
      · simp [h1, h2, h3] at h
      · have hb := szc_bd (bAt s p / 64)
        have hn := nval_lt7 s p (szc (bAt s p / 64) - 1) (by omega)
        simp only [h1, h2, h3, if_false]
        omega
theorem uS_le (s : ByteArray) (st : St) (h : st.p ≤ s.size) : (uS s st).2.p ≤ s.size := by
  unfold uS
  by_cases h1 : st.F ≠ none
  · rw [if_pos h1]; exact h
  · rw [if_neg h1]
    by_cases h2 : (numR s st.p).2.2 = 0
    · rw [if_pos h2]; exact (numR_ok s st.p h2).1
    · rw [if_neg h2]; exact h
theorem uS_lt (s : ByteArray) (st : St) : (uS s st).1 < 4611686018427387904 := by
  unfold uS
  by_cases h1 : st.F ≠ none
  · rw [if_pos h1]; exact Nat.zero_lt_succ _
  · rw [if_neg h1]
    by_cases h2 : (numR s st.p).2.2 = 0
    · rw [if_pos h2]; exact (numR_ok s st.p h2).2.2.2
    · rw [if_neg h2]; exact Nat.zero_lt_succ _

theorem U_any (b : Nat) (s : ByteArray) (st : St) (w : World) (hL : Laid w) (h : InS w b s st.p st.F) (hp : st.p ≤ s.size) (hs : s.size ≤ 70368744177664) :
    Calls Tryd.prog 27 #[.pointer (some ⟨b, 0, none⟩)] w fun e w' => e = .returned (.int .u64 ((uS s st).1 : Nat)) ∧ InS w' b s (uS s st).2.p (uS s st).2.F ∧ Chg b w w' := by
  obtain ⟨f, hi, hf⟩ := h
  rcases hF : st.F with _ | ⟨c, a⟩
  · rw [hF] at hf
    obtain rfl : f = .nilIface := hf
    by_cases hc : (numR s st.p).2.2 = 0
    · have e1 : uS s st = ((numR s st.p).1, { st with p := st.p + (numR s st.p).2.1 }) := by simp [uS, hF, hc]
      refine (U_ok b st.p s w hL hi hp hs hc (numR_ok s st.p hc).2.2.1).mono fun e w' ⟨h1, h2, h3⟩ => ⟨by rw [e1]; exact h1, ⟨.nilIface, by rw [e1]; exact h2, by rw [e1]; show FltV w' _ st.F; rw [hF]; rfl⟩, h3⟩
    · have e1 : uS s st = (0, { st with F := some (((numR s st.p).2.2 : Nat), (st.p : Nat)) }) := by simp [uS, hF, hc]
      refine (U_bad b st.p s w hL hi hp (by omega) hc).mono fun e w' ⟨h1, n, h3⟩ => ?_
      subst h3
      exact ⟨by rw [e1]; exact h1, by rw [e1]; exact failW_in (hi.drewN n) _ _, (Chg.drewN b w n).trans (failW_chg _ _ _ _)⟩
  · have e1 : uS s st = (0, st) := by simp [uS, hF]
    rw [hF] at hf
    obtain ⟨fb, rfl, hb⟩ := hf
    refine (U_late b _ _ w hi.c2).mono fun e w' ⟨h1, h2⟩ => ?_
    subst h2
    exact ⟨by rw [e1]; exact h1, ⟨_, by rw [e1]; exact hi, by rw [e1]; show FltV w _ st.F; rw [hF]; exact ⟨fb, rfl, hb⟩⟩, Chg.refl _ _⟩

/-- What Err answers: nil, or a fault in new memory. -/
def ErrIs (w : World) (base : Nat) (v : Value) : Option (Int × Int) → Prop
  | none => v = .nilIface
  | some (c, a) => ∃ fb, v = .iface 72 (.pointer (some ⟨fb, 0, none⟩)) ∧ base ≤ fb ∧ FltB w fb c a

theorem assert_nil (w : World) : (Instr.typeAssert .nilIface 38 72 true).run Tryd.prog w = .ok (.tuple #[.pointer none, .bool false]) w := by kernel_rfl
theorem assert_flt (v : Value) (w : World) : (Instr.typeAssert (.iface 72 v) 38 72 true).run Tryd.prog w = .ok (.tuple #[v, .bool true]) w := by kernel_rfl
set_option maxRecDepth 100000 in
set_option maxHeartbeats 1000000 in
theorem copyOf_nil (w : World) : Calls Tryd.prog 43 #[.nilIface] w fun e w' => e = .returned .nilIface ∧ w = w' := by
  have ta := assert_nil
  go_enter Tryd.func43, Tryd.ntmps43
  go_wp2
  go_ret
  exact ⟨rfl, rfl⟩
set_option maxRecDepth 100000 in
set_option maxHeartbeats 1000000 in
theorem copyOf_fault (fb : Nat) (c a : Int) (w : World) (h : FltB w fb c a) : Calls Tryd.prog 43 #[.iface 72 (.pointer (some ⟨fb, 0, none⟩))] w fun e w' => ∃ v, e = .returned v ∧ ErrIs w' w.heap.size v (some (c, a)) ∧ Below w.heap.size w w' := by
  have h0 := h.c0
  have h1 := h.c1
  have ta := assert_flt
  go_enter Tryd.func43, Tryd.ntmps43
  go_wp2
  go_region
  go_wp2
  go_ret
  exact ⟨_, rfl, ⟨w.heap.size, rfl, Nat.le_refl _, heap_alloc_new w _⟩, ((Below.refl _ _).alloc (Nat.le_refl _) _).drew⟩

theorem Err_any (b : Nat) (s : ByteArray) (p : Nat) (F : Option (Int × Int)) (w : World) (h : InS w b s p F) :
    Calls Tryd.prog 13 #[.pointer (some ⟨b, 0, none⟩)] w fun e w' => ∃ v, e = .returned v ∧ ErrIs w' w.heap.size v F ∧ Below w.heap.size w w' := by
  obtain ⟨f, hi, hf⟩ := h
  have h2 := hi.c2
  rcases F with _ | ⟨c, a⟩
  · obtain rfl : f = .nilIface := hf
    have hc := Lib.hid (copyOf_nil w)
    go_enter Tryd.func13, Tryd.ntmps13
    go_wp2_with (go_at_call 43; refine hc.out.mono ?_; rintro e w' ⟨rfl, rfl⟩)
    go_ret
    exact ⟨_, rfl, rfl, Below.refl _ _⟩
  · obtain ⟨fb, rfl, hb⟩ := hf
    have hc := Lib.hid (copyOf_fault fb c a w hb)
    go_enter Tryd.func13, Tryd.ntmps13
    go_wp2_with fail
    refine hc.out.mono ?_
    rintro e w' ⟨v, rfl, he, hb'⟩
    have HE := Lib.hid he
    clear he
    go_wp2
    go_ret
    exact ⟨v, rfl, HE.out, hb'⟩
theorem Err_none (w : World) : Calls Tryd.prog 13 #[.pointer none] w fun e w' => ∃ v, e = .returned v ∧ ErrIs w' w.heap.size v (some (1, 0)) ∧ Below w.heap.size w w' := by
  go_enter Tryd.func13, Tryd.ntmps13
  go_wp2
  go_ret
  exact ⟨_, rfl, ⟨w.heap.size, rfl, Nat.le_refl _, heap_alloc_new w _⟩, (Below.refl _ _).alloc (Nat.le_refl _) _⟩

theorem Left_end (b p : Nat) (s : ByteArray) (w : World) (h : InB w b s p .nilIface) (hp : p ≤ s.size) (hs : s.size ≤ 140737488355328) :
    Calls Tryd.prog 11 #[.pointer (some ⟨b, 0, none⟩)] w fun e w' => e = .returned (.int .i64 ((s.size : Int) - (p : Int))) ∧ ∃ n, w' = w.drewN n := Left_any b p s w h.c0 h.c1 hp hs

set_option maxHeartbeats 1000000 in
theorem End_any (b : Nat) (s : ByteArray) (st : St) (w : World) (h : InS w b s st.p st.F) (hp : st.p ≤ s.size) (hs : s.size ≤ 140737488355328) :
    Calls Tryd.prog 14 #[.pointer (some ⟨b, 0, none⟩)] w fun e w' => ∃ v, e = .returned v ∧ ErrIs w' w.heap.size v (endS s st) ∧ Below w.heap.size w w' := by
  have hE := Lib.hid (Err_any b s st.p st.F w h)
  obtain ⟨p, F⟩ := st
  simp only at h hp hE
  rcases F with _ | ⟨c, a⟩
  · obtain ⟨f, hi, hf⟩ := h
    obtain rfl : f = .nilIface := hf
    have hlt := hi.lt
    by_cases hpl : p < s.size
    · have e1 : endS s ⟨p, none⟩ = some ((4 : Int), ((p : Nat) : Int)) := by simp [endS, hpl]
      have hgt : (0 : Int) < (s.size : Int) - (p : Int) := by omega
      go_enter Tryd.func14, Tryd.ntmps14
      go_wp2_with fail
      refine hE.out.mono ?_
      rintro e w1 ⟨v, rfl, he, hb⟩
      obtain rfl : v = .nilIface := he
      have hi1 := hi.below hb hlt
      have hz := hb.size
      have hLe := Lib.hid (Left_end b p s w1 hi1 hp hs)
      have k1 := hi1.c1
      clear hi1 hi hlt
      go_wp2_with (go_at_call 11; refine hLe.out.mono ?_; rintro e w' ⟨rfl, n, rfl⟩)
      go_ret
      refine ⟨_, rfl, ?_, ?_⟩
      · rw [e1]; exact ⟨w1.heap.size, rfl, hz, heap_alloc_new (w1.drewN n) _⟩
      · exact (below_drewN hb n).alloc hz _
    · have e1 : endS s ⟨p, none⟩ = none := by simp [endS, hpl]
      have hgt : ¬ (0 : Int) < (s.size : Int) - (p : Int) := by omega
      go_enter Tryd.func14, Tryd.ntmps14
      go_wp2_with fail
      refine hE.out.mono ?_
      rintro e w1 ⟨v, rfl, he, hb⟩
      obtain rfl : v = .nilIface := he
      have hi1 := hi.below hb hlt
      have hLe := Lib.hid (Left_end b p s w1 hi1 hp hs)
      clear hi1 hi hlt
      go_wp2_with (go_at_call 11; refine hLe.out.mono ?_; rintro e w' ⟨rfl, n, rfl⟩)
      go_ret
      exact ⟨_, rfl, by rw [e1]; rfl, below_drewN hb n⟩
  · go_enter Tryd.func14, Tryd.ntmps14
    go_wp2_with fail
    refine hE.out.mono ?_
    rintro e w1 ⟨v, rfl, he, hb⟩
    obtain ⟨fb, rfl, hfb, hfl⟩ := he
    have HF := Lib.hid hfl
    clear hfl h
    go_wp2
    go_ret
    exact ⟨_, rfl, ⟨fb, rfl, hfb, HF.out⟩, hb⟩
theorem End_none (w : World) : Calls Tryd.prog 14 #[.pointer none] w fun e w' => ∃ v, e = .returned v ∧ ErrIs w' w.heap.size v (some (1, 0)) ∧ Below w.heap.size w w' := by
  have hE := Lib.hid (Err_none w)
  go_enter Tryd.func14, Tryd.ntmps14
  go_wp2_with fail
  refine hE.out.mono ?_
  rintro e w1 ⟨v, rfl, he, hb⟩
  obtain ⟨fb, rfl, hfb, hfl⟩ := he
  have HF := Lib.hid hfl
  clear hfl
  go_wp2
  go_ret
  exact ⟨_, rfl, ⟨fb, rfl, hfb, HF.out⟩, hb⟩
end Go.Proofs.YtmmdkoomceikiaaDoor
