/-
  The law's own 'wrong' and 'fault' joined with what Err answers. Condition: the listed variables hold what they hold.
-/
import Derived.Test.YtmmdkoomceikiaaDoorRead2
import Derived.Test.YtmmdkoomceikiaaDoorFault
namespace Go.Proofs.YtmmdkoomceikiaaDoor
open Go.RowKit

/-- 'fault' of what Err or End answered, asked of just that fault. -/
theorem fault_of (v : Value) (F : Option (Int × Int)) (base : Nat) (w : World) (hL : Laid w) (h : ErrIs w base v F) (hne : ∀ c a, F = some (c, a) → c ≠ 0) :
    Calls Tryd.prog 12 #[v, .agg #[.int .i64 (match F with | none => 0 | some (c, _) => c), .int .i64 (match F with | none => 0 | some (_, a) => a)]] w fun e w' => e = .returned (.bool true) ∧ Below w.heap.size w w' := by
  rcases F with _ | ⟨c, a⟩
  · obtain rfl : v = .nilIface := h
    exact fault_nil 0 w
  · obtain ⟨fb, rfl, _, hf⟩ := h
    exact fault_hit fb c a w hL (by simpa using hne c a rfl) hf.c0 hf.c1

set_option maxHeartbeats 1000000 in
theorem wrong_any (s : ByteArray) (c : Int) (w : World) (hL : Laid w) (hs : s.size ≤ 70368744177664) (hc : c ≠ 0) (h1 : (uS s ⟨0, none⟩).1 = 0) (h2 : (uS s ⟨0, none⟩).2.p = 0) (h3 : (uS s ⟨0, none⟩).2.F = some (c, 0)) :
    Calls Tryd.prog 44 #[.string s, .int .i64 c] w fun e w' => e = .returned (.bool true) ∧ Below w.heap.size w w' := by
  have hN := Lib.hid (New_any s w)
  have hlt := hL.lt
  have hB : Below w.heap.size w (w.alloc (.cells #[.string s, .int .i64 0, .nilIface] 71)) := (Below.refl _ _).alloc (Nat.le_refl _) _
  have hU := U_any w.heap.size s ⟨0, none⟩ (w.alloc (.cells #[.string s, .int .i64 0, .nilIface] 71)) (hL.below hB hL.lt) (InS.new s w) (Nat.zero_le _) hs
  rw [h1, h2, h3] at hU
  have HU := Lib.hid hU
  have HB := Lib.hid hB
  have HL := Lib.hid hL
  clear hU hB h1 h2 h3 hL
  go_enter Tryd.func44, Tryd.ntmps44
  go_wp2_with fail
  refine hN.out.mono ?_
  rintro e w0 ⟨rfl, rfl⟩
  go_wp2_with fail
  refine HU.out.mono ?_
  rintro e w1 ⟨rfl, hi, hch⟩
  have b1 : Below w.heap.size w w1 := HB.out.trans (hch.below (Nat.le_refl _) (by simp))
  have HI := Lib.hid hi
  have HB1 := Lib.hid b1
  clear hi hch b1
  go_wp2_with fail
  refine (Err_any _ s 0 _ _ HI.out).mono ?_
  rintro e w2 ⟨v, rfl, he, hb2⟩
  have HE := Lib.hid he
  have HB2 := Lib.hid hb2
  have b2 := Lib.hid (HB1.out.trans (hb2.mono HB1.out.size))
  clear he hb2
  go_wp2_with fail
  refine (fault_of v (some (c, 0)) w1.heap.size _ (HL.out.below b2.out hlt) HE.out (by intro c' a' h; injection h with h; injection h with h _; omega)).mono ?_
  rintro e w3 ⟨rfl, hb3⟩
  have HI3 := (HI.out.below HB2.out (Nat.le_refl _)).below hb3 (Nat.le_refl _)
  obtain ⟨f, hi3, _⟩ := HI3
  have HP := Lib.hid (Place_any w.heap.size 0 w3 hi3.c1)
  have HB3 := Lib.hid (b2.out.trans (hb3.mono b2.out.size))
  clear hb3 hi3
  go_wp2_with (go_at_call 10; refine HP.out.mono ?_; rintro e w' ⟨rfl, rfl⟩)
  go_ret
  exact ⟨rfl, HB3.out⟩
end Go.Proofs.YtmmdkoomceikiaaDoor
