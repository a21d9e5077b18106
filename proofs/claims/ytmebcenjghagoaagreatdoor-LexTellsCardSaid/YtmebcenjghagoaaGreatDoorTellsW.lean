/-
  LexTells, its walk: it answers true for all texts, slices of bytes, and places. Conditions: the listed variables hold what they hold.
-/
import Derived.Test.YtmebcenjghagoaaGreatDoorWorks
import Derived.Test.YtmebcenjghagoaaGreatDoorMade
namespace Go.Proofs.YtmebcenjghagoaaGreatDoor
open Go.RowKit

set_option maxRecDepth 100000 in
set_option maxHeartbeats 4000000 in
theorem tells_any (t : ByteArray) (A : Option Addr) (n c : Nat) (l : List Nat) (p : Int) (w : World) (hL : LaidL w) (hl : l.length = n) (h256 : ∀ x ∈ l, x < 256) (hA : RdB w w.heap.size A l) (hp2 : p ≤ 9223372036854775807) :
    Calls Tryz.prog 3 #[.string t, .slice A n c, .int .i64 p] w fun e w' => e = .returned (.bool true) ∧ Below w.heap.size w w' := by
  have HL := Lib.hid hL
  have hlt := hL.lt
  have HM := Lib.hid (made_any A n c l w hl h256 hA)
  clear hL hl h256 hA
  have hx : (t.extract 0 (min (t.size : Int) 1000).toNat).size ≤ 70368744177664 := by rw [ByteArray.size_extract]; omega
  have hm := Int.tmod_lt_of_pos p (b := 200) (by omega)
  go_enter Tryz.func3, Tryz.ntmps3
  go_wp2_with fail
  refine HM.out.mono ?_
  rintro e w1 ⟨s, rfl, hs, hb1⟩
  have B1 := Lib.hid hb1
  clear hb1
  go_wp2_with fail
  refine (alike_any _ _ (HL.out.below B1.out hlt) hx).mono ?_
  rintro e w2 ⟨rfl, hb2⟩
  have B2 := Lib.hid (B1.out.trans (hb2.mono B1.out.size))
  clear hb2
  go_wp2_with fail
  refine (alike_any _ _ (HL.out.below B2.out hlt) (by omega)).mono ?_
  rintro e w3 ⟨rfl, hb3⟩
  have B3 := Lib.hid (B2.out.trans (hb3.mono B2.out.size))
  clear hb3
  go_wp2_with fail
  refine (Line_any _ p hx _).mono ?_
  rintro e w' ⟨rfl, rfl⟩
  go_wp2_with fail
  refine (rLine_any _ p _ hx hp2).mono ?_
  rintro e w' ⟨rfl, rfl⟩
  go_wp2_with fail
  refine (Line_any s _ (by omega) _).mono ?_
  rintro e w' ⟨rfl, rfl⟩
  go_wp2_with fail
  refine (rLine_any s _ _ (by omega) (by omega)).mono ?_
  rintro e w' ⟨rfl, rfl⟩
  go_wp2_with fail
  refine (works_any _ (HL.out.below B3.out hlt)).mono ?_
  rintro e w4 ⟨rfl, hb4⟩
  have B4 := Lib.hid (B3.out.trans (hb4.mono B3.out.size))
  clear hb4
  go_wp2
  go_ret
  exact ⟨rfl, B4.out⟩
end Go.Proofs.YtmebcenjghagoaaGreatDoor
