/-
  The walk of the law WireKnown (a closed law): it answers true and changes nothing that was there. Condition: the listed variables hold what they hold.
-/
import Derived.Test.YtmmdkoomceikiaaDoorWorks
import Derived.Test.YtmmdkoomceikiaaDoorRead5
import Derived.Test.YtmmdkoomceikiaaDoorSteps
namespace Go.Proofs.YtmmdkoomceikiaaDoor
open Go.RowKit

theorem FltB.below {w w' : World} {fb : Nat} {c a : Int} {B : Nat} (h : FltB w fb c a) (hb : Below B w w') (hB : w.heap.size ≤ B) : FltB w' fb c a := (hb.block fb (by have := h.lt; omega)).trans h
theorem FltB.chg {w w' : World} {fb b : Nat} {c a : Int} {s : ByteArray} {p : Nat} {F : Option (Int × Int)} (h : FltB w fb c a) (h2 : InS w b s p F) (hc : Chg b w w') : FltB w' fb c a := by
  obtain ⟨f, g1, _⟩ := h2
  exact (hc.other h.lt (h.ne_in g1)).trans h
theorem ErrIs.below {w w' : World} {base : Nat} {v : Value} {F : Option (Int × Int)} {B : Nat} (h : ErrIs w base v F) (hb : Below B w w') (hB : w.heap.size ≤ B) : ErrIs w' base v F := by
  rcases F with _ | ⟨c, a⟩
  · exact h
  · obtain ⟨fb, h1, h2, h3⟩ := h
    exact ⟨fb, h1, h2, h3.below hb hB⟩
theorem ErrIs.chg {w w' : World} {base b : Nat} {v : Value} {F F2 : Option (Int × Int)} {s : ByteArray} {p : Nat} (h : ErrIs w base v F) (h2 : InS w b s p F2) (hc : Chg b w w') : ErrIs w' base v F := by
  rcases F with _ | ⟨c, a⟩
  · exact h
  · obtain ⟨fb, h1, h3, h4⟩ := h
    exact ⟨fb, h1, h3, h4.chg h2 hc⟩
theorem New_abs (s : ByteArray) (w : World) : Calls Tryd.prog 8 #[.string s] w fun e w' => ∃ b, e = .returned (.pointer (some ⟨b, 0, none⟩)) ∧ InS w' b s 0 none ∧ w.heap.size ≤ b ∧ Below w.heap.size w w' :=
  (New_any s w).mono fun e w' ⟨h1, h2⟩ => by
    subst h2
    exact ⟨_, h1, InS.new s w, Nat.le_refl _, (Below.refl _ _).alloc (Nat.le_refl _) _⟩
section
variable (b : Nat) (s : ByteArray) (p : Nat) (F : Option (Int × Int)) (p' : Nat) (F' : Option (Int × Int)) (w : World)
theorem U_k (hL : Laid w) (h : InS w b s p F) (n : Nat) (e : uS s ⟨p, F⟩ = (n, ⟨p', F'⟩)) (hp : p ≤ s.size) (hs : s.size ≤ 70368744177664) :
    Calls Tryd.prog 27 #[.pointer (some ⟨b, 0, none⟩)] w fun e w' => e = .returned (.int .u64 (n : Int)) ∧ InS w' b s p' F' ∧ Chg b w w' := by
  have := U_any b s ⟨p, F⟩ w hL h hp hs
  rw [e] at this
  exact this
theorem T_k (h : InS w b s p F) (n : Bool) (e : tS s ⟨p, F⟩ = (n, ⟨p', F'⟩)) (hp : p ≤ s.size) (hs : s.size ≤ 70368744177664) :
    Calls Tryd.prog 30 #[.pointer (some ⟨b, 0, none⟩)] w fun e w' => e = .returned (.bool n) ∧ InS w' b s p' F' ∧ Chg b w w' := by
  have := T_any b s ⟨p, F⟩ w h hp hs
  rw [e] at this
  exact this
theorem B_k (h : InS w b s p F) (n : Nat) (e : bS s ⟨p, F⟩ = (n, ⟨p', F'⟩)) (hp : p ≤ s.size) (hs : s.size ≤ 70368744177664) :
    Calls Tryd.prog 29 #[.pointer (some ⟨b, 0, none⟩)] w fun e w' => e = .returned (.int .u8 (n : Int)) ∧ InS w' b s p' F' ∧ Chg b w w' := by
  have := B_any b s ⟨p, F⟩ w h hp hs
  rw [e] at this
  exact this
theorem S_k (hL : Laid w) (h : InS w b s p F) (most : Int) (t : ByteArray) (e : strS s most ⟨p, F⟩ = (t, ⟨p', F'⟩)) (hp : p ≤ s.size) (hs : s.size ≤ 70368744177664) (hm : -9223372036854775808 ≤ most) (hm2 : most ≤ 9223372036854775807) :
    Calls Tryd.prog 31 #[.pointer (some ⟨b, 0, none⟩), .int .i64 most] w fun e w' => e = .returned (.string t) ∧ InS w' b s p' F' ∧ Chg b w w' := by
  have := S_any b s most ⟨p, F⟩ w hL h hp hs hm hm2
  rw [e] at this
  exact this
theorem Many_k (hL : Laid w) (h : InS w b s p F) (most : Int) (n : Nat) (e : manyS s most ⟨p, F⟩ = (n, ⟨p', F'⟩)) (hp : p ≤ s.size) (hs : s.size ≤ 70368744177664) (hm : -9223372036854775808 ≤ most) (hm2 : most ≤ 9223372036854775807) :
    Calls Tryd.prog 32 #[.pointer (some ⟨b, 0, none⟩), .int .i64 most] w fun e w' => e = .returned (.int .i64 (n : Int)) ∧ InS w' b s p' F' ∧ Chg b w w' := by
  have := Many_any b s most ⟨p, F⟩ w hL h hp hs hm hm2
  rw [e] at this
  exact this
theorem Place_k (h : InS w b s p F) : Calls Tryd.prog 10 #[.pointer (some ⟨b, 0, none⟩)] w fun e w' => e = .returned (.int .i64 (p : Int)) ∧ w = w' := by
  obtain ⟨f, hi, _⟩ := h
  exact Place_any b p w hi.c1
theorem Left_k (h : InS w b s p F) (n : Int) (e : (s.size : Int) - (p : Int) = n) (hp : p ≤ s.size) (hs : s.size ≤ 140737488355328) :
    Calls Tryd.prog 11 #[.pointer (some ⟨b, 0, none⟩)] w fun e w' => e = .returned (.int .i64 n) ∧ Below w.heap.size w w' := by
  obtain ⟨f, hi, _⟩ := h
  rw [← e]
  refine (Left_any b p s w hi.c0 hi.c1 hp hs).mono fun e w' ⟨h1, k, h2⟩ => ?_
  subst h2
  exact ⟨h1, below_drewN (Below.refl _ _) k⟩
theorem FailLate_k (c a : Int) (x : Int × Int) (h : InS w b s p (some x)) : Calls Tryd.prog 28 #[.pointer (some ⟨b, 0, none⟩), .int .i64 c, .int .i64 a] w fun e w' => e = .returned (.tuple #[]) ∧ w = w' := by
  obtain ⟨f, hi, hf⟩ := h
  obtain ⟨c0, a0⟩ := x
  obtain ⟨fb, rfl, _⟩ := hf
  exact Fail_late b _ _ c a w hi.c2
theorem End_k (h : InS w b s p F) (E : Option (Int × Int)) (e : endS s ⟨p, F⟩ = E) (hp : p ≤ s.size) (hs : s.size ≤ 140737488355328) :
    Calls Tryd.prog 14 #[.pointer (some ⟨b, 0, none⟩)] w fun e w' => ∃ v, e = .returned v ∧ ErrIs w' w.heap.size v E ∧ Below w.heap.size w w' := by
  rw [← e]
  exact End_any b s ⟨p, F⟩ w h hp hs
end

theorem room_rd (w : World) : RdB (w.alloc (.cells #[.int .u8 0, .int .u8 0, .int .u8 0, .int .u8 0, .int .u8 0, .int .u8 0, .int .u8 0, .int .u8 0, .int .u8 0] 5)) (w.alloc (.cells #[.int .u8 0, .int .u8 0, .int .u8 0, .int .u8 0, .int .u8 0, .int .u8 0, .int .u8 0, .int .u8 0, .int .u8 0] 5)).heap.size (some ⟨w.heap.size, 0, none⟩) [0] := by
  refine ⟨fun h => (by cases h), fun a ha _ => (by cases ha; simp), fun a ha j x hx => ?_⟩
  cases ha
  rcases j with _ | j
  · simp at hx
    subst hx
    simp [Addr.add]
  · simp at hx
set_option maxRecDepth 100000 in
set_option maxHeartbeats 40000000 in
theorem known_any (w : World) (hL : Laid w) : Calls Tryd.prog 7 #[] w fun e w' => e = .returned (.bool true) ∧ Below w.heap.size w w' := by
  have hlt2 := hL.lt
  have hmk : ∀ W : World, (Instr.makeSlice 43 (.int .i64 1) (.int .i64 9)).run Tryd.prog W = .ok (.slice (some ⟨W.heap.size, 0, none⟩) 1 9) (W.alloc (.cells #[.int .u8 0, .int .u8 0, .int .u8 0, .int .u8 0, .int .u8 0, .int .u8 0, .int .u8 0, .int .u8 0, .int .u8 0] 5)) := fun _ => by kernel_rfl
  have hb0 : Below w.heap.size w (w.alloc (.cells #[.int .i64 1, .int .i64 0] 28)) := (Below.refl _ _).alloc (Nat.le_refl _) _
  have L := Lib.hid (hL.below hb0 hL.lt)
  have NU : Hid (FltB (w.alloc (.cells #[.int .i64 1, .int .i64 0] 28)) w.heap.size 1 0) := heap_alloc_new w _
  have Bw := Lib.hid hb0
  clear hL hb0
  go_enter Tryd.func7, Tryd.ntmps7
  go_wp2_with fail
  refine (Fail_nil 5 4 _).mono ?_
  rintro e w' ⟨rfl, rfl⟩
  go_wp2_with fail
  refine (New_abs { data := #[] } _).mono ?_
  rintro e w1 ⟨be, rfl, hi, hge, hb⟩
  have Ge := Lib.hid (Nat.le_trans Bw.out.size hge)
  have L' := Lib.hid (L.out.below hb L.out.lt)
  have Bw' := Lib.hid (Bw.out.trans (hb.mono Bw.out.size))
  have NU' := Lib.hid (NU.out.below hb (Nat.le_refl _))
  clear NU Bw L hb
  have L := L'
  have Bw := Bw'
  have NU := NU'
  clear L' Bw' NU'
  have Ie := Lib.hid hi
  clear hi hge
  go_wp2_with fail
  refine (B_k be { data := #[] } 0 none 0 (some (3, 0)) _ Ie.out 0 (by rfl) (by decide) (by decide)).mono ?_
  rintro e w2 ⟨rfl, hi, hch⟩
  have L' := Lib.hid (L.out.chg hch (Nat.le_trans hlt2 Ge.out))
  have Bw' := Lib.hid (Bw.out.trans (hch.below Ge.out Bw.out.size))
  have NU' := Lib.hid (NU.out.chg Ie.out hch)
  have Ie' := Lib.hid hi
  clear Ie NU Bw L hch hi
  have L := L'
  have Bw := Bw'
  have NU := NU'
  have Ie := Ie'
  clear L' Bw' NU' Ie'
  go_wp2_with fail
  refine (New_abs { data := #[5, 2, 3, 97, 98, 99, 7] } _).mono ?_
  rintro e w3 ⟨bi, rfl, hi, hge, hb⟩
  have Nie := Lib.hid (Nat.ne_of_gt (Nat.lt_of_lt_of_le Ie.out.lt hge))
  have Nei := Lib.hid (Nat.ne_of_lt (Nat.lt_of_lt_of_le Ie.out.lt hge))
  have Gi := Lib.hid (Nat.le_trans Bw.out.size hge)
  have L' := Lib.hid (L.out.below hb L.out.lt)
  have Bw' := Lib.hid (Bw.out.trans (hb.mono Bw.out.size))
  have NU' := Lib.hid (NU.out.below hb (Nat.le_refl _))
  have Ie' := Lib.hid (Ie.out.below hb (Nat.le_refl _))
  clear Ie NU Bw L hb
  have L := L'
  have Bw := Bw'
  have NU := NU'
  have Ie := Ie'
  clear L' Bw' NU' Ie'
  have Ii := Lib.hid hi
  clear hi hge
  go_wp2_with fail
  refine (U_k bi { data := #[5, 2, 3, 97, 98, 99, 7] } 0 none 1 none _ L.out Ii.out 5 (by rfl) (by decide) (by decide)).mono ?_
  rintro e w4 ⟨rfl, hi, hch⟩
  have L' := Lib.hid (L.out.chg hch (Nat.le_trans hlt2 Gi.out))
  have Bw' := Lib.hid (Bw.out.trans (hch.below Gi.out Bw.out.size))
  have NU' := Lib.hid (NU.out.chg Ii.out hch)
  have Ie' := Lib.hid (Ie.out.chg Ii.out hch Nei.out)
  have Ii' := Lib.hid hi
  clear Ii Ie NU Bw L hch hi
  have L := L'
  have Bw := Bw'
  have NU := NU'
  have Ie := Ie'
  have Ii := Ii'
  clear L' Bw' NU' Ie' Ii'
  go_wp2_with fail
  refine (T_k bi { data := #[5, 2, 3, 97, 98, 99, 7] } 1 none 1 (some (5, 1)) _ Ii.out false (by rfl) (by decide) (by decide)).mono ?_
  rintro e w5 ⟨rfl, hi, hch⟩
  have L' := Lib.hid (L.out.chg hch (Nat.le_trans hlt2 Gi.out))
  have Bw' := Lib.hid (Bw.out.trans (hch.below Gi.out Bw.out.size))
  have NU' := Lib.hid (NU.out.chg Ii.out hch)
  have Ie' := Lib.hid (Ie.out.chg Ii.out hch Nei.out)
  have Ii' := Lib.hid hi
  clear Ii Ie NU Bw L hch hi
  have L := L'
  have Bw := Bw'
  have NU := NU'
  have Ie := Ie'
  have Ii := Ii'
  clear L' Bw' NU' Ie' Ii'
  go_wp2_with fail
  refine (Err_any bi { data := #[5, 2, 3, 97, 98, 99, 7] } 1 (some (5, 1)) _ Ii.out).mono ?_
  rintro e w6 ⟨v6, rfl, he, hb⟩
  have L' := Lib.hid (L.out.below hb L.out.lt)
  have Bw' := Lib.hid (Bw.out.trans (hb.mono Bw.out.size))
  have NU' := Lib.hid (NU.out.below hb (Nat.le_refl _))
  have Ie' := Lib.hid (Ie.out.below hb (Nat.le_refl _))
  have Ii' := Lib.hid (Ii.out.below hb (Nat.le_refl _))
  clear Ii Ie NU Bw L hb
  have L := L'
  have Bw := Bw'
  have NU := NU'
  have Ie := Ie'
  have Ii := Ii'
  clear L' Bw' NU' Ie' Ii'
  have E := Lib.hid he
  clear he
  have D := E
  clear E
  go_wp2_with fail
  refine (U_k bi { data := #[5, 2, 3, 97, 98, 99, 7] } 1 (some (5, 1)) 1 (some (5, 1)) _ L.out Ii.out 0 (by rfl) (by decide) (by decide)).mono ?_
  rintro e w7 ⟨rfl, hi, hch⟩
  have L' := Lib.hid (L.out.chg hch (Nat.le_trans hlt2 Gi.out))
  have Bw' := Lib.hid (Bw.out.trans (hch.below Gi.out Bw.out.size))
  have NU' := Lib.hid (NU.out.chg Ii.out hch)
  have Ie' := Lib.hid (Ie.out.chg Ii.out hch Nei.out)
  have Ii' := Lib.hid hi
  have D' := Lib.hid (D.out.chg Ii.out hch)
  clear D Ii Ie NU Bw L hch hi
  have L := L'
  have Bw := Bw'
  have NU := NU'
  have Ie := Ie'
  have Ii := Ii'
  have D := D'
  clear L' Bw' NU' Ie' Ii' D'
  go_wp2_with fail
  refine (S_k bi { data := #[5, 2, 3, 97, 98, 99, 7] } 1 (some (5, 1)) 1 (some (5, 1)) _ L.out Ii.out 9 ByteArray.empty (by rfl) (by decide) (by decide) (by decide) (by decide)).mono ?_
  rintro e w8 ⟨rfl, hi, hch⟩
  have L' := Lib.hid (L.out.chg hch (Nat.le_trans hlt2 Gi.out))
  have Bw' := Lib.hid (Bw.out.trans (hch.below Gi.out Bw.out.size))
  have NU' := Lib.hid (NU.out.chg Ii.out hch)
  have Ie' := Lib.hid (Ie.out.chg Ii.out hch Nei.out)
  have Ii' := Lib.hid hi
  have D' := Lib.hid (D.out.chg Ii.out hch)
  clear D Ii Ie NU Bw L hch hi
  have L := L'
  have Bw := Bw'
  have NU := NU'
  have Ie := Ie'
  have Ii := Ii'
  have D := D'
  clear L' Bw' NU' Ie' Ii' D'
  go_wp2_with fail
  refine (Place_k bi { data := #[5, 2, 3, 97, 98, 99, 7] } 1 (some (5, 1)) _ Ii.out).mono ?_
  rintro e w' ⟨rfl, rfl⟩
  go_wp2_with fail
  refine (FailLate_k bi { data := #[5, 2, 3, 97, 98, 99, 7] } 1 _ 9 9 (5, 1) Ii.out).mono ?_
  rintro e w' ⟨rfl, rfl⟩
  go_wp2_with fail
  refine (New_abs { data := #[3, 97, 98, 99, 64, 64] } _).mono ?_
  rintro e w9 ⟨bx, rfl, hi, hge, hb⟩
  have Nxe := Lib.hid (Nat.ne_of_gt (Nat.lt_of_lt_of_le Ie.out.lt hge))
  have Nex := Lib.hid (Nat.ne_of_lt (Nat.lt_of_lt_of_le Ie.out.lt hge))
  have Nxi := Lib.hid (Nat.ne_of_gt (Nat.lt_of_lt_of_le Ii.out.lt hge))
  have Nix := Lib.hid (Nat.ne_of_lt (Nat.lt_of_lt_of_le Ii.out.lt hge))
  have Gx := Lib.hid (Nat.le_trans Bw.out.size hge)
  have L' := Lib.hid (L.out.below hb L.out.lt)
  have Bw' := Lib.hid (Bw.out.trans (hb.mono Bw.out.size))
  have NU' := Lib.hid (NU.out.below hb (Nat.le_refl _))
  have Ie' := Lib.hid (Ie.out.below hb (Nat.le_refl _))
  have Ii' := Lib.hid (Ii.out.below hb (Nat.le_refl _))
  have D' := Lib.hid (D.out.below hb (Nat.le_refl _))
  clear D Ii Ie NU Bw L hb
  have L := L'
  have Bw := Bw'
  have NU := NU'
  have Ie := Ie'
  have Ii := Ii'
  have D := D'
  clear L' Bw' NU' Ie' Ii' D'
  have Ix := Lib.hid hi
  clear hi hge
  go_wp2_with fail
  refine (S_k bx { data := #[3, 97, 98, 99, 64, 64] } 0 none 4 none _ L.out Ix.out 3 { data := #[97, 98, 99] } (by rfl) (by decide) (by decide) (by decide) (by decide)).mono ?_
  rintro e w10 ⟨rfl, hi, hch⟩
  have L' := Lib.hid (L.out.chg hch (Nat.le_trans hlt2 Gx.out))
  have Bw' := Lib.hid (Bw.out.trans (hch.below Gx.out Bw.out.size))
  have NU' := Lib.hid (NU.out.chg Ix.out hch)
  have Ie' := Lib.hid (Ie.out.chg Ix.out hch Nex.out)
  have Ii' := Lib.hid (Ii.out.chg Ix.out hch Nix.out)
  have D' := Lib.hid (D.out.chg Ix.out hch)
  have Ix' := Lib.hid hi
  clear Ix D Ii Ie NU Bw L hch hi
  have L := L'
  have Bw := Bw'
  have NU := NU'
  have Ie := Ie'
  have Ii := Ii'
  have D := D'
  have Ix := Ix'
  clear L' Bw' NU' Ie' Ii' D' Ix'
  go_wp2_with fail
  refine (Many_k bx { data := #[3, 97, 98, 99, 64, 64] } 4 none 6 none _ L.out Ix.out 64 64 (by rfl) (by decide) (by decide) (by decide) (by decide)).mono ?_
  rintro e w11 ⟨rfl, hi, hch⟩
  have L' := Lib.hid (L.out.chg hch (Nat.le_trans hlt2 Gx.out))
  have Bw' := Lib.hid (Bw.out.trans (hch.below Gx.out Bw.out.size))
  have NU' := Lib.hid (NU.out.chg Ix.out hch)
  have Ie' := Lib.hid (Ie.out.chg Ix.out hch Nex.out)
  have Ii' := Lib.hid (Ii.out.chg Ix.out hch Nix.out)
  have D' := Lib.hid (D.out.chg Ix.out hch)
  have Ix' := Lib.hid hi
  clear Ix D Ii Ie NU Bw L hch hi
  have L := L'
  have Bw := Bw'
  have NU := NU'
  have Ie := Ie'
  have Ii := Ii'
  have D := D'
  have Ix := Ix'
  clear L' Bw' NU' Ie' Ii' D' Ix'
  go_wp2_with fail
  refine (New_abs { data := #[3, 97, 98, 99] } _).mono ?_
  rintro e w12 ⟨bu, rfl, hi, hge, hb⟩
  have Nue := Lib.hid (Nat.ne_of_gt (Nat.lt_of_lt_of_le Ie.out.lt hge))
  have Neu := Lib.hid (Nat.ne_of_lt (Nat.lt_of_lt_of_le Ie.out.lt hge))
  have Nui := Lib.hid (Nat.ne_of_gt (Nat.lt_of_lt_of_le Ii.out.lt hge))
  have Niu := Lib.hid (Nat.ne_of_lt (Nat.lt_of_lt_of_le Ii.out.lt hge))
  have Nux := Lib.hid (Nat.ne_of_gt (Nat.lt_of_lt_of_le Ix.out.lt hge))
  have Nxu := Lib.hid (Nat.ne_of_lt (Nat.lt_of_lt_of_le Ix.out.lt hge))
  have Gu := Lib.hid (Nat.le_trans Bw.out.size hge)
  have L' := Lib.hid (L.out.below hb L.out.lt)
  have Bw' := Lib.hid (Bw.out.trans (hb.mono Bw.out.size))
  have NU' := Lib.hid (NU.out.below hb (Nat.le_refl _))
  have Ie' := Lib.hid (Ie.out.below hb (Nat.le_refl _))
  have Ii' := Lib.hid (Ii.out.below hb (Nat.le_refl _))
  have D' := Lib.hid (D.out.below hb (Nat.le_refl _))
  have Ix' := Lib.hid (Ix.out.below hb (Nat.le_refl _))
  clear Ix D Ii Ie NU Bw L hb
  have L := L'
  have Bw := Bw'
  have NU := NU'
  have Ie := Ie'
  have Ii := Ii'
  have D := D'
  have Ix := Ix'
  clear L' Bw' NU' Ie' Ii' D' Ix'
  have Iu := Lib.hid hi
  clear hi hge
  go_wp2_with fail
  refine (S_k bu { data := #[3, 97, 98, 99] } 0 none 0 (some (4, 0)) _ L.out Iu.out 2 ByteArray.empty (by rfl) (by decide) (by decide) (by decide) (by decide)).mono ?_
  rintro e w13 ⟨rfl, hi, hch⟩
  have L' := Lib.hid (L.out.chg hch (Nat.le_trans hlt2 Gu.out))
  have Bw' := Lib.hid (Bw.out.trans (hch.below Gu.out Bw.out.size))
  have NU' := Lib.hid (NU.out.chg Iu.out hch)
  have Ie' := Lib.hid (Ie.out.chg Iu.out hch Neu.out)
  have Ii' := Lib.hid (Ii.out.chg Iu.out hch Niu.out)
  have D' := Lib.hid (D.out.chg Iu.out hch)
  have Ix' := Lib.hid (Ix.out.chg Iu.out hch Nxu.out)
  have Iu' := Lib.hid hi
  clear Iu Ix D Ii Ie NU Bw L hch hi
  have L := L'
  have Bw := Bw'
  have NU := NU'
  have Ie := Ie'
  have Ii := Ii'
  have D := D'
  have Ix := Ix'
  have Iu := Iu'
  clear L' Bw' NU' Ie' Ii' D' Ix' Iu'
  go_wp2_with fail
  refine (New_abs { data := #[5, 97, 98, 99] } _).mono ?_
  rintro e w14 ⟨bz, rfl, hi, hge, hb⟩
  have Nze := Lib.hid (Nat.ne_of_gt (Nat.lt_of_lt_of_le Ie.out.lt hge))
  have Nez := Lib.hid (Nat.ne_of_lt (Nat.lt_of_lt_of_le Ie.out.lt hge))
  have Nzi := Lib.hid (Nat.ne_of_gt (Nat.lt_of_lt_of_le Ii.out.lt hge))
  have Niz := Lib.hid (Nat.ne_of_lt (Nat.lt_of_lt_of_le Ii.out.lt hge))
  have Nzx := Lib.hid (Nat.ne_of_gt (Nat.lt_of_lt_of_le Ix.out.lt hge))
  have Nxz := Lib.hid (Nat.ne_of_lt (Nat.lt_of_lt_of_le Ix.out.lt hge))
  have Nzu := Lib.hid (Nat.ne_of_gt (Nat.lt_of_lt_of_le Iu.out.lt hge))
  have Nuz := Lib.hid (Nat.ne_of_lt (Nat.lt_of_lt_of_le Iu.out.lt hge))
  have Gz := Lib.hid (Nat.le_trans Bw.out.size hge)
  have L' := Lib.hid (L.out.below hb L.out.lt)
  have Bw' := Lib.hid (Bw.out.trans (hb.mono Bw.out.size))
  have NU' := Lib.hid (NU.out.below hb (Nat.le_refl _))
  have Ie' := Lib.hid (Ie.out.below hb (Nat.le_refl _))
  have Ii' := Lib.hid (Ii.out.below hb (Nat.le_refl _))
  have D' := Lib.hid (D.out.below hb (Nat.le_refl _))
  have Ix' := Lib.hid (Ix.out.below hb (Nat.le_refl _))
  have Iu' := Lib.hid (Iu.out.below hb (Nat.le_refl _))
  clear Iu Ix D Ii Ie NU Bw L hb
  have L := L'
  have Bw := Bw'
  have NU := NU'
  have Ie := Ie'
  have Ii := Ii'
  have D := D'
  have Ix := Ix'
  have Iu := Iu'
  clear L' Bw' NU' Ie' Ii' D' Ix' Iu'
  have Iz := Lib.hid hi
  clear hi hge
  go_wp2_with fail
  refine (S_k bz { data := #[5, 97, 98, 99] } 0 none 0 (some (3, 0)) _ L.out Iz.out 9 ByteArray.empty (by rfl) (by decide) (by decide) (by decide) (by decide)).mono ?_
  rintro e w15 ⟨rfl, hi, hch⟩
  have L' := Lib.hid (L.out.chg hch (Nat.le_trans hlt2 Gz.out))
  have Bw' := Lib.hid (Bw.out.trans (hch.below Gz.out Bw.out.size))
  have NU' := Lib.hid (NU.out.chg Iz.out hch)
  have Ie' := Lib.hid (Ie.out.chg Iz.out hch Nez.out)
  have Ii' := Lib.hid (Ii.out.chg Iz.out hch Niz.out)
  have D' := Lib.hid (D.out.chg Iz.out hch)
  have Ix' := Lib.hid (Ix.out.chg Iz.out hch Nxz.out)
  have Iu' := Lib.hid (Iu.out.chg Iz.out hch Nuz.out)
  have Iz' := Lib.hid hi
  clear Iz Iu Ix D Ii Ie NU Bw L hch hi
  have L := L'
  have Bw := Bw'
  have NU := NU'
  have Ie := Ie'
  have Ii := Ii'
  have D := D'
  have Ix := Ix'
  have Iu := Iu'
  have Iz := Iz'
  clear L' Bw' NU' Ie' Ii' D' Ix' Iu' Iz'
  go_wp2_with fail
  refine (New_abs { data := #[64, 65] } _).mono ?_
  rintro e w16 ⟨bq, rfl, hi, hge, hb⟩
  have Nqe := Lib.hid (Nat.ne_of_gt (Nat.lt_of_lt_of_le Ie.out.lt hge))
  have Neq := Lib.hid (Nat.ne_of_lt (Nat.lt_of_lt_of_le Ie.out.lt hge))
  have Nqi := Lib.hid (Nat.ne_of_gt (Nat.lt_of_lt_of_le Ii.out.lt hge))
  have Niq := Lib.hid (Nat.ne_of_lt (Nat.lt_of_lt_of_le Ii.out.lt hge))
  have Nqx := Lib.hid (Nat.ne_of_gt (Nat.lt_of_lt_of_le Ix.out.lt hge))
  have Nxq := Lib.hid (Nat.ne_of_lt (Nat.lt_of_lt_of_le Ix.out.lt hge))
  have Nqu := Lib.hid (Nat.ne_of_gt (Nat.lt_of_lt_of_le Iu.out.lt hge))
  have Nuq := Lib.hid (Nat.ne_of_lt (Nat.lt_of_lt_of_le Iu.out.lt hge))
  have Nqz := Lib.hid (Nat.ne_of_gt (Nat.lt_of_lt_of_le Iz.out.lt hge))
  have Nzq := Lib.hid (Nat.ne_of_lt (Nat.lt_of_lt_of_le Iz.out.lt hge))
  have Gq := Lib.hid (Nat.le_trans Bw.out.size hge)
  have L' := Lib.hid (L.out.below hb L.out.lt)
  have Bw' := Lib.hid (Bw.out.trans (hb.mono Bw.out.size))
  have NU' := Lib.hid (NU.out.below hb (Nat.le_refl _))
  have Ie' := Lib.hid (Ie.out.below hb (Nat.le_refl _))
  have Ii' := Lib.hid (Ii.out.below hb (Nat.le_refl _))
  have D' := Lib.hid (D.out.below hb (Nat.le_refl _))
  have Ix' := Lib.hid (Ix.out.below hb (Nat.le_refl _))
  have Iu' := Lib.hid (Iu.out.below hb (Nat.le_refl _))
  have Iz' := Lib.hid (Iz.out.below hb (Nat.le_refl _))
  clear Iz Iu Ix D Ii Ie NU Bw L hb
  have L := L'
  have Bw := Bw'
  have NU := NU'
  have Ie := Ie'
  have Ii := Ii'
  have D := D'
  have Ix := Ix'
  have Iu := Iu'
  have Iz := Iz'
  clear L' Bw' NU' Ie' Ii' D' Ix' Iu' Iz'
  have Iq := Lib.hid hi
  clear hi hge
  go_wp2_with fail
  refine (Many_k bq { data := #[64, 65] } 0 none 0 (some (4, 0)) _ L.out Iq.out 64 0 (by rfl) (by decide) (by decide) (by decide) (by decide)).mono ?_
  rintro e w17 ⟨rfl, hi, hch⟩
  have L' := Lib.hid (L.out.chg hch (Nat.le_trans hlt2 Gq.out))
  have Bw' := Lib.hid (Bw.out.trans (hch.below Gq.out Bw.out.size))
  have NU' := Lib.hid (NU.out.chg Iq.out hch)
  have Ie' := Lib.hid (Ie.out.chg Iq.out hch Neq.out)
  have Ii' := Lib.hid (Ii.out.chg Iq.out hch Niq.out)
  have D' := Lib.hid (D.out.chg Iq.out hch)
  have Ix' := Lib.hid (Ix.out.chg Iq.out hch Nxq.out)
  have Iu' := Lib.hid (Iu.out.chg Iq.out hch Nuq.out)
  have Iz' := Lib.hid (Iz.out.chg Iq.out hch Nzq.out)
  have Iq' := Lib.hid hi
  clear Iq Iz Iu Ix D Ii Ie NU Bw L hch hi
  have L := L'
  have Bw := Bw'
  have NU := NU'
  have Ie := Ie'
  have Ii := Ii'
  have D := D'
  have Ix := Ix'
  have Iu := Iu'
  have Iz := Iz'
  have Iq := Iq'
  clear L' Bw' NU' Ie' Ii' D' Ix' Iu' Iz' Iq'
  go_wp2_with fail
  have hb : Below w17.heap.size w17 (w17.alloc (.cells #[.int .u8 0, .int .u8 0, .int .u8 0, .int .u8 0, .int .u8 0, .int .u8 0, .int .u8 0, .int .u8 0, .int .u8 0] 5)) := (Below.refl _ _).alloc (Nat.le_refl _) _
  have RR := Lib.hid (room_rd w17)
  generalize w17.alloc (.cells #[.int .u8 0, .int .u8 0, .int .u8 0, .int .u8 0, .int .u8 0, .int .u8 0, .int .u8 0, .int .u8 0, .int .u8 0] 5) = w18 at *
  obtain ⟨br, hbr⟩ : ∃ br, br = w17.heap.size := ⟨_, rfl⟩
  rw [← hbr] at RR ⊢
  have L' := Lib.hid (L.out.below hb L.out.lt)
  have Bw' := Lib.hid (Bw.out.trans (hb.mono Bw.out.size))
  have NU' := Lib.hid (NU.out.below hb (Nat.le_refl _))
  have Ie' := Lib.hid (Ie.out.below hb (Nat.le_refl _))
  have Ii' := Lib.hid (Ii.out.below hb (Nat.le_refl _))
  have D' := Lib.hid (D.out.below hb (Nat.le_refl _))
  have Ix' := Lib.hid (Ix.out.below hb (Nat.le_refl _))
  have Iu' := Lib.hid (Iu.out.below hb (Nat.le_refl _))
  have Iz' := Lib.hid (Iz.out.below hb (Nat.le_refl _))
  have Iq' := Lib.hid (Iq.out.below hb (Nat.le_refl _))
  clear Iq Iz Iu Ix D Ii Ie NU Bw L hb
  have L := L'
  have Bw := Bw'
  have NU := NU'
  have Ie := Ie'
  have Ii := Ii'
  have D := D'
  have Ix := Ix'
  have Iu := Iu'
  have Iz := Iz'
  have Iq := Iq'
  clear L' Bw' NU' Ie' Ii' D' Ix' Iu' Iz' Iq'
  clear hbr
  go_wp2_with fail
  refine (P_any (some ⟨br, 0, none⟩) 1 9 [0] 1 (by decide) _ L.out rfl (by decide) RR.out (by decide)).mono ?_
  rintro e w19 ⟨v, rfl, ho, hb⟩
  rw [show [0] ++ numB 1 = [0, 1] from by rfl] at ho
  obtain ⟨Ap, cp, rfl, _, _, _, hr, _⟩ := Own.form ho
  clear ho
  have L' := Lib.hid (L.out.below hb L.out.lt)
  have Bw' := Lib.hid (Bw.out.trans (hb.mono Bw.out.size))
  have NU' := Lib.hid (NU.out.below hb (Nat.le_refl _))
  have Ie' := Lib.hid (Ie.out.below hb (Nat.le_refl _))
  have Ii' := Lib.hid (Ii.out.below hb (Nat.le_refl _))
  have D' := Lib.hid (D.out.below hb (Nat.le_refl _))
  have Ix' := Lib.hid (Ix.out.below hb (Nat.le_refl _))
  have Iu' := Lib.hid (Iu.out.below hb (Nat.le_refl _))
  have Iz' := Lib.hid (Iz.out.below hb (Nat.le_refl _))
  have Iq' := Lib.hid (Iq.out.below hb (Nat.le_refl _))
  have RR' := Lib.hid ((RR.out.below hb (Nat.le_refl _)).more hb.size)
  clear RR Iq Iz Iu Ix D Ii Ie NU Bw L hb
  have L := L'
  have Bw := Bw'
  have NU := NU'
  have Ie := Ie'
  have Ii := Ii'
  have D := D'
  have Ix := Ix'
  have Iu := Iu'
  have Iz := Iz'
  have Iq := Iq'
  have RR := RR'
  clear L' Bw' NU' Ie' Ii' D' Ix' Iu' Iz' Iq' RR'
  have Rp := Lib.hid hr
  clear hr
  go_wp2_with fail
  refine (P_any (some ⟨br, 0, none⟩) 1 9 [0] 2 (by decide) _ L.out rfl (by decide) RR.out (by decide)).mono ?_
  rintro e w20 ⟨v, rfl, ho, hb⟩
  rw [show [0] ++ numB 2 = [0, 2] from by rfl] at ho
  obtain ⟨Ar, cr, rfl, _, _, _, hr, _⟩ := Own.form ho
  clear ho
  have L' := Lib.hid (L.out.below hb L.out.lt)
  have Bw' := Lib.hid (Bw.out.trans (hb.mono Bw.out.size))
  have NU' := Lib.hid (NU.out.below hb (Nat.le_refl _))
  have Ie' := Lib.hid (Ie.out.below hb (Nat.le_refl _))
  have Ii' := Lib.hid (Ii.out.below hb (Nat.le_refl _))
  have D' := Lib.hid (D.out.below hb (Nat.le_refl _))
  have Ix' := Lib.hid (Ix.out.below hb (Nat.le_refl _))
  have Iu' := Lib.hid (Iu.out.below hb (Nat.le_refl _))
  have Iz' := Lib.hid (Iz.out.below hb (Nat.le_refl _))
  have Iq' := Lib.hid (Iq.out.below hb (Nat.le_refl _))
  have RR' := Lib.hid ((RR.out.below hb (Nat.le_refl _)).more hb.size)
  have Rp' := Lib.hid ((Rp.out.below hb (Nat.le_refl _)).more hb.size)
  clear Rp RR Iq Iz Iu Ix D Ii Ie NU Bw L hb
  have L := L'
  have Bw := Bw'
  have NU := NU'
  have Ie := Ie'
  have Ii := Ii'
  have D := D'
  have Ix := Ix'
  have Iu := Iu'
  have Iz := Iz'
  have Iq := Iq'
  have RR := RR'
  have Rp := Rp'
  clear L' Bw' NU' Ie' Ii' D' Ix' Iu' Iz' Iq' RR' Rp'
  have Rr := Lib.hid hr
  clear hr
  go_wp2_with fail
  simp only [List.append_eq, List.cons_append, List.nil_append]
  have hb : Below w20.heap.size w20 w20.drew := (Below.refl _ _).drew
  have L' := Lib.hid (L.out.below hb L.out.lt)
  have Bw' := Lib.hid (Bw.out.trans (hb.mono Bw.out.size))
  have NU' := Lib.hid (NU.out.below hb (Nat.le_refl _))
  have Ie' := Lib.hid (Ie.out.below hb (Nat.le_refl _))
  have Ii' := Lib.hid (Ii.out.below hb (Nat.le_refl _))
  have D' := Lib.hid (D.out.below hb (Nat.le_refl _))
  have Ix' := Lib.hid (Ix.out.below hb (Nat.le_refl _))
  have Iu' := Lib.hid (Iu.out.below hb (Nat.le_refl _))
  have Iz' := Lib.hid (Iz.out.below hb (Nat.le_refl _))
  have Iq' := Lib.hid (Iq.out.below hb (Nat.le_refl _))
  have RR' := Lib.hid ((RR.out.below hb (Nat.le_refl _)).more hb.size)
  have Rp' := Lib.hid ((Rp.out.below hb (Nat.le_refl _)).more hb.size)
  have Rr' := Lib.hid ((Rr.out.below hb (Nat.le_refl _)).more hb.size)
  clear Rr Rp RR Iq Iz Iu Ix D Ii Ie NU Bw L hb
  have L := L'
  have Bw := Bw'
  have NU := NU'
  have Ie := Ie'
  have Ii := Ii'
  have D := D'
  have Ix := Ix'
  have Iu := Iu'
  have Iz := Iz'
  have Iq := Iq'
  have RR := RR'
  have Rp := Rp'
  have Rr := Rr'
  clear L' Bw' NU' Ie' Ii' D' Ix' Iu' Iz' Iq' RR' Rp' Rr'
  refine wp_region_noPanic ?_
  refine wp_region_held_drew (S := (fun w' => w'.cell? ⟨w.heap.size, 0, none⟩ = some (.int .i64 1) ∧ w'.cell? ⟨w.heap.size, 1, none⟩ = some (.int .i64 0))) (by as_aux_lemma => kernel_rfl) ⟨NU.out.c0, NU.out.c1⟩ (fun hHeld => ?_)
  refine' take_ 0 rfl (by as_aux_lemma => kernel_rfl) (by as_aux_lemma => kernel_rfl) (by as_aux_lemma => kernel_rfl) (fun _ _ _ h => h) (by rfl) (fun wS hSw => ?_) hHeld ?_
  rotate_left
  focus (obtain ⟨k1, k2⟩ := hSw; go_simp; (try with_reducible rfl); done)
  try simp only [Act.put, List.setIfInBounds_toArray, List.set_cons_zero, List.set_cons_succ]
  refine only_ 1 rfl (by as_aux_lemma => kernel_rfl) (by rfl) (fun K hK => ?_)
  go_simp
  refine (works_any _ L.out).mono ?_
  rintro e w21 ⟨rfl, hb⟩
  have L' := Lib.hid (L.out.below hb L.out.lt)
  have Bw' := Lib.hid (Bw.out.trans (hb.mono Bw.out.size))
  have NU' := Lib.hid (NU.out.below hb (Nat.le_refl _))
  have Ie' := Lib.hid (Ie.out.below hb (Nat.le_refl _))
  have Ii' := Lib.hid (Ii.out.below hb (Nat.le_refl _))
  have D' := Lib.hid (D.out.below hb (Nat.le_refl _))
  have Ix' := Lib.hid (Ix.out.below hb (Nat.le_refl _))
  have Iu' := Lib.hid (Iu.out.below hb (Nat.le_refl _))
  have Iz' := Lib.hid (Iz.out.below hb (Nat.le_refl _))
  have Iq' := Lib.hid (Iq.out.below hb (Nat.le_refl _))
  have RR' := Lib.hid ((RR.out.below hb (Nat.le_refl _)).more hb.size)
  have Rp' := Lib.hid ((Rp.out.below hb (Nat.le_refl _)).more hb.size)
  have Rr' := Lib.hid ((Rr.out.below hb (Nat.le_refl _)).more hb.size)
  clear Rr Rp RR Iq Iz Iu Ix D Ii Ie NU Bw L hb
  have L := L'
  have Bw := Bw'
  have NU := NU'
  have Ie := Ie'
  have Ii := Ii'
  have D := D'
  have Ix := Ix'
  have Iu := Iu'
  have Iz := Iz'
  have Iq := Iq'
  have RR := RR'
  have Rp := Rp'
  have Rr := Rr'
  clear L' Bw' NU' Ie' Ii' D' Ix' Iu' Iz' Iq' RR' Rp' Rr'
  refine hK.out _ _ ⟨NU.out.c0, NU.out.c1⟩ (fun hHeld2 => ?_)
  clear hK K hHeld
  have hHeld := hHeld2
  clear hHeld2
  try simp only [Act.put, List.setIfInBounds_toArray, List.set_cons_zero, List.set_cons_succ]
  refine' take_ 2 rfl (by as_aux_lemma => kernel_rfl) (by as_aux_lemma => kernel_rfl) (by as_aux_lemma => kernel_rfl) (fun _ _ _ h => h) (by rfl) (fun wS hSw => ?_) hHeld ?_
  rotate_left
  focus (obtain ⟨k1, k2⟩ := hSw; go_simp; (try with_reducible rfl); done)
  try simp only [Act.put, List.setIfInBounds_toArray, List.set_cons_zero, List.set_cons_succ]
  refine' take_ 3 rfl (by as_aux_lemma => kernel_rfl) (by as_aux_lemma => kernel_rfl) (by as_aux_lemma => kernel_rfl) (fun _ _ _ h => h) (by rfl) (fun wS hSw => ?_) hHeld ?_
  rotate_left
  focus (obtain ⟨k1, k2⟩ := hSw; go_simp; (try with_reducible rfl); done)
  try simp only [Act.put, List.setIfInBounds_toArray, List.set_cons_zero, List.set_cons_succ]
  refine' take_ 4 rfl (by as_aux_lemma => kernel_rfl) (by as_aux_lemma => kernel_rfl) (by as_aux_lemma => kernel_rfl) (fun _ _ _ h => h) (by rfl) (fun wS hSw => ?_) hHeld ?_
  rotate_left
  focus (obtain ⟨k1, k2⟩ := hSw; go_simp; (try with_reducible rfl); done)
  try simp only [Act.put, List.setIfInBounds_toArray, List.set_cons_zero, List.set_cons_succ]
  refine only_ 5 rfl (by as_aux_lemma => kernel_rfl) (by rfl) (fun K hK => ?_)
  go_simp
  refine (U_nil _).mono ?_
  rintro e w' ⟨rfl, rfl⟩
  refine hK.out _ _ ⟨NU.out.c0, NU.out.c1⟩ (fun hHeld2 => ?_)
  clear hK K hHeld
  have hHeld := hHeld2
  clear hHeld2
  try simp only [Act.put, List.setIfInBounds_toArray, List.set_cons_zero, List.set_cons_succ]
  refine' take_ 6 rfl (by as_aux_lemma => kernel_rfl) (by as_aux_lemma => kernel_rfl) (by as_aux_lemma => kernel_rfl) (fun _ _ _ h => h) (by rfl) (fun wS hSw => ?_) hHeld ?_
  rotate_left
  focus (obtain ⟨k1, k2⟩ := hSw; go_simp; (try with_reducible rfl); done)
  try simp only [Act.put, List.setIfInBounds_toArray, List.set_cons_zero, List.set_cons_succ]
  refine' take_ 7 rfl (by as_aux_lemma => kernel_rfl) (by as_aux_lemma => kernel_rfl) (by as_aux_lemma => kernel_rfl) (fun _ _ _ h => h) (by rfl) (fun wS hSw => ?_) hHeld ?_
  rotate_left
  focus (obtain ⟨k1, k2⟩ := hSw; go_simp; (try with_reducible rfl); done)
  try simp only [Act.put, List.setIfInBounds_toArray, List.set_cons_zero, List.set_cons_succ]
  refine' take_ 8 rfl (by as_aux_lemma => kernel_rfl) (by as_aux_lemma => kernel_rfl) (by as_aux_lemma => kernel_rfl) (fun _ _ _ h => h) (by rfl) (fun wS hSw => ?_) hHeld ?_
  rotate_left
  focus (obtain ⟨k1, k2⟩ := hSw; go_simp; (try with_reducible rfl); done)
  try simp only [Act.put, List.setIfInBounds_toArray, List.set_cons_zero, List.set_cons_succ]
  refine' take_ 9 rfl (by as_aux_lemma => kernel_rfl) (by as_aux_lemma => kernel_rfl) (by as_aux_lemma => kernel_rfl) (fun _ _ _ h => h) (by rfl) (fun wS hSw => ?_) hHeld ?_
  rotate_left
  focus (obtain ⟨k1, k2⟩ := hSw; go_simp; (try with_reducible rfl); done)
  try simp only [Act.put, List.setIfInBounds_toArray, List.set_cons_zero, List.set_cons_succ]
  refine only_ 10 rfl (by as_aux_lemma => kernel_rfl) (by rfl) (fun K hK => ?_)
  go_simp
  refine (I_nil _).mono ?_
  rintro e w' ⟨rfl, rfl⟩
  refine hK.out _ _ ⟨NU.out.c0, NU.out.c1⟩ (fun hHeld2 => ?_)
  clear hK K hHeld
  have hHeld := hHeld2
  clear hHeld2
  try simp only [Act.put, List.setIfInBounds_toArray, List.set_cons_zero, List.set_cons_succ]
  refine' take_ 11 rfl (by as_aux_lemma => kernel_rfl) (by as_aux_lemma => kernel_rfl) (by as_aux_lemma => kernel_rfl) (fun _ _ _ h => h) (by rfl) (fun wS hSw => ?_) hHeld ?_
  rotate_left
  focus (obtain ⟨k1, k2⟩ := hSw; go_simp; (try with_reducible rfl); done)
  try simp only [Act.put, List.setIfInBounds_toArray, List.set_cons_zero, List.set_cons_succ]
  refine' take_ 12 rfl (by as_aux_lemma => kernel_rfl) (by as_aux_lemma => kernel_rfl) (by as_aux_lemma => kernel_rfl) (fun _ _ _ h => h) (by rfl) (fun wS hSw => ?_) hHeld ?_
  rotate_left
  focus (obtain ⟨k1, k2⟩ := hSw; go_simp; (try with_reducible rfl); done)
  try simp only [Act.put, List.setIfInBounds_toArray, List.set_cons_zero, List.set_cons_succ]
  refine' take_ 13 rfl (by as_aux_lemma => kernel_rfl) (by as_aux_lemma => kernel_rfl) (by as_aux_lemma => kernel_rfl) (fun _ _ _ h => h) (by rfl) (fun wS hSw => ?_) hHeld ?_
  rotate_left
  focus (obtain ⟨k1, k2⟩ := hSw; go_simp; (try with_reducible rfl); done)
  try simp only [Act.put, List.setIfInBounds_toArray, List.set_cons_zero, List.set_cons_succ]
  refine' take_ 14 rfl (by as_aux_lemma => kernel_rfl) (by as_aux_lemma => kernel_rfl) (by as_aux_lemma => kernel_rfl) (fun _ _ _ h => h) (by rfl) (fun wS hSw => ?_) hHeld ?_
  rotate_left
  focus (obtain ⟨k1, k2⟩ := hSw; go_simp; (try with_reducible rfl); done)
  try simp only [Act.put, List.setIfInBounds_toArray, List.set_cons_zero, List.set_cons_succ]
  refine only_ 15 rfl (by as_aux_lemma => kernel_rfl) (by rfl) (fun K hK => ?_)
  go_simp
  refine (B_nil _).mono ?_
  rintro e w' ⟨rfl, rfl⟩
  refine hK.out _ _ ⟨NU.out.c0, NU.out.c1⟩ (fun hHeld2 => ?_)
  clear hK K hHeld
  have hHeld := hHeld2
  clear hHeld2
  try simp only [Act.put, List.setIfInBounds_toArray, List.set_cons_zero, List.set_cons_succ]
  refine' take_ 16 rfl (by as_aux_lemma => kernel_rfl) (by as_aux_lemma => kernel_rfl) (by as_aux_lemma => kernel_rfl) (fun _ _ _ h => h) (by rfl) (fun wS hSw => ?_) hHeld ?_
  rotate_left
  focus (obtain ⟨k1, k2⟩ := hSw; go_simp; (try with_reducible rfl); done)
  try simp only [Act.put, List.setIfInBounds_toArray, List.set_cons_zero, List.set_cons_succ]
  refine' take_ 17 rfl (by as_aux_lemma => kernel_rfl) (by as_aux_lemma => kernel_rfl) (by as_aux_lemma => kernel_rfl) (fun _ _ _ h => h) (by rfl) (fun wS hSw => ?_) hHeld ?_
  rotate_left
  focus (obtain ⟨k1, k2⟩ := hSw; go_simp; (try with_reducible rfl); done)
  try simp only [Act.put, List.setIfInBounds_toArray, List.set_cons_zero, List.set_cons_succ]
  refine' take_ 18 rfl (by as_aux_lemma => kernel_rfl) (by as_aux_lemma => kernel_rfl) (by as_aux_lemma => kernel_rfl) (fun _ _ _ h => h) (by rfl) (fun wS hSw => ?_) hHeld ?_
  rotate_left
  focus (obtain ⟨k1, k2⟩ := hSw; go_simp; (try with_reducible rfl); done)
  try simp only [Act.put, List.setIfInBounds_toArray, List.set_cons_zero, List.set_cons_succ]
  refine' take_ 19 rfl (by as_aux_lemma => kernel_rfl) (by as_aux_lemma => kernel_rfl) (by as_aux_lemma => kernel_rfl) (fun _ _ _ h => h) (by rfl) (fun wS hSw => ?_) hHeld ?_
  rotate_left
  focus (obtain ⟨k1, k2⟩ := hSw; go_simp; (try with_reducible rfl); done)
  try simp only [Act.put, List.setIfInBounds_toArray, List.set_cons_zero, List.set_cons_succ]
  refine only_ 20 rfl (by as_aux_lemma => kernel_rfl) (by rfl) (fun K hK => ?_)
  go_simp
  refine (T_nil _).mono ?_
  rintro e w' ⟨rfl, rfl⟩
  refine hK.out _ _ ⟨NU.out.c0, NU.out.c1⟩ (fun hHeld2 => ?_)
  clear hK K hHeld
  have hHeld := hHeld2
  clear hHeld2
  try simp only [Act.put, List.setIfInBounds_toArray, List.set_cons_zero, List.set_cons_succ]
  refine' take_ 21 rfl (by as_aux_lemma => kernel_rfl) (by as_aux_lemma => kernel_rfl) (by as_aux_lemma => kernel_rfl) (fun _ _ _ h => h) (by rfl) (fun wS hSw => ?_) hHeld ?_
  rotate_left
  focus (obtain ⟨k1, k2⟩ := hSw; go_simp; (try with_reducible rfl); done)
  try simp only [Act.put, List.setIfInBounds_toArray, List.set_cons_zero, List.set_cons_succ]
  refine' take_ 22 rfl (by as_aux_lemma => kernel_rfl) (by as_aux_lemma => kernel_rfl) (by as_aux_lemma => kernel_rfl) (fun _ _ _ h => h) (by rfl) (fun wS hSw => ?_) hHeld ?_
  rotate_left
  focus (obtain ⟨k1, k2⟩ := hSw; go_simp; (try with_reducible rfl); done)
  try simp only [Act.put, List.setIfInBounds_toArray, List.set_cons_zero, List.set_cons_succ]
  refine' take_ 23 rfl (by as_aux_lemma => kernel_rfl) (by as_aux_lemma => kernel_rfl) (by as_aux_lemma => kernel_rfl) (fun _ _ _ h => h) (by rfl) (fun wS hSw => ?_) hHeld ?_
  rotate_left
  focus (obtain ⟨k1, k2⟩ := hSw; go_simp; (try with_reducible rfl); done)
  try simp only [Act.put, List.setIfInBounds_toArray, List.set_cons_zero, List.set_cons_succ]
  refine' take_ 24 rfl (by as_aux_lemma => kernel_rfl) (by as_aux_lemma => kernel_rfl) (by as_aux_lemma => kernel_rfl) (fun _ _ _ h => h) (by rfl) (fun wS hSw => ?_) hHeld ?_
  rotate_left
  focus (obtain ⟨k1, k2⟩ := hSw; go_simp; (try with_reducible rfl); done)
  try simp only [Act.put, List.setIfInBounds_toArray, List.set_cons_zero, List.set_cons_succ]
  refine only_ 25 rfl (by as_aux_lemma => kernel_rfl) (by rfl) (fun K hK => ?_)
  go_simp
  refine (S_nil 5 _).mono ?_
  rintro e w' ⟨rfl, rfl⟩
  refine hK.out _ _ ⟨NU.out.c0, NU.out.c1⟩ (fun hHeld2 => ?_)
  clear hK K hHeld
  have hHeld := hHeld2
  clear hHeld2
  try simp only [Act.put, List.setIfInBounds_toArray, List.set_cons_zero, List.set_cons_succ]
  refine' take_ 26 rfl (by as_aux_lemma => kernel_rfl) (by as_aux_lemma => kernel_rfl) (by as_aux_lemma => kernel_rfl) (fun _ _ _ h => h) (by rfl) (fun wS hSw => ?_) hHeld ?_
  rotate_left
  focus (obtain ⟨k1, k2⟩ := hSw; go_simp; (try with_reducible rfl); done)
  try simp only [Act.put, List.setIfInBounds_toArray, List.set_cons_zero, List.set_cons_succ]
  refine' take_ 27 rfl (by as_aux_lemma => kernel_rfl) (by as_aux_lemma => kernel_rfl) (by as_aux_lemma => kernel_rfl) (fun _ _ _ h => h) (by rfl) (fun wS hSw => ?_) hHeld ?_
  rotate_left
  focus (obtain ⟨k1, k2⟩ := hSw; go_simp; (try with_reducible rfl); done)
  try simp only [Act.put, List.setIfInBounds_toArray, List.set_cons_zero, List.set_cons_succ]
  refine' take_ 28 rfl (by as_aux_lemma => kernel_rfl) (by as_aux_lemma => kernel_rfl) (by as_aux_lemma => kernel_rfl) (fun _ _ _ h => h) (by rfl) (fun wS hSw => ?_) hHeld ?_
  rotate_left
  focus (obtain ⟨k1, k2⟩ := hSw; go_simp; (try with_reducible rfl); done)
  try simp only [Act.put, List.setIfInBounds_toArray, List.set_cons_zero, List.set_cons_succ]
  refine' take_ 29 rfl (by as_aux_lemma => kernel_rfl) (by as_aux_lemma => kernel_rfl) (by as_aux_lemma => kernel_rfl) (fun _ _ _ h => h) (by rfl) (fun wS hSw => ?_) hHeld ?_
  rotate_left
  focus (obtain ⟨k1, k2⟩ := hSw; go_simp; (try with_reducible rfl); done)
  try simp only [Act.put, List.setIfInBounds_toArray, List.set_cons_zero, List.set_cons_succ]
  refine only_ 30 rfl (by as_aux_lemma => kernel_rfl) (by rfl) (fun K hK => ?_)
  go_simp
  refine (Many_nil 5 _).mono ?_
  rintro e w' ⟨rfl, rfl⟩
  refine hK.out _ _ ⟨NU.out.c0, NU.out.c1⟩ (fun hHeld2 => ?_)
  clear hK K hHeld
  have hHeld := hHeld2
  clear hHeld2
  try simp only [Act.put, List.setIfInBounds_toArray, List.set_cons_zero, List.set_cons_succ]
  refine' take_ 31 rfl (by as_aux_lemma => kernel_rfl) (by as_aux_lemma => kernel_rfl) (by as_aux_lemma => kernel_rfl) (fun _ _ _ h => h) (by rfl) (fun wS hSw => ?_) hHeld ?_
  rotate_left
  focus (obtain ⟨k1, k2⟩ := hSw; go_simp; (try with_reducible rfl); done)
  try simp only [Act.put, List.setIfInBounds_toArray, List.set_cons_zero, List.set_cons_succ]
  refine' take_ 32 rfl (by as_aux_lemma => kernel_rfl) (by as_aux_lemma => kernel_rfl) (by as_aux_lemma => kernel_rfl) (fun _ _ _ h => h) (by rfl) (fun wS hSw => ?_) hHeld ?_
  rotate_left
  focus (obtain ⟨k1, k2⟩ := hSw; go_simp; (try with_reducible rfl); done)
  try simp only [Act.put, List.setIfInBounds_toArray, List.set_cons_zero, List.set_cons_succ]
  refine' take_ 33 rfl (by as_aux_lemma => kernel_rfl) (by as_aux_lemma => kernel_rfl) (by as_aux_lemma => kernel_rfl) (fun _ _ _ h => h) (by rfl) (fun wS hSw => ?_) hHeld ?_
  rotate_left
  focus (obtain ⟨k1, k2⟩ := hSw; go_simp; (try with_reducible rfl); done)
  try simp only [Act.put, List.setIfInBounds_toArray, List.set_cons_zero, List.set_cons_succ]
  refine' take_ 34 rfl (by as_aux_lemma => kernel_rfl) (by as_aux_lemma => kernel_rfl) (by as_aux_lemma => kernel_rfl) (fun _ _ _ h => h) (by rfl) (fun wS hSw => ?_) hHeld ?_
  rotate_left
  focus (obtain ⟨k1, k2⟩ := hSw; go_simp; (try with_reducible rfl); done)
  try simp only [Act.put, List.setIfInBounds_toArray, List.set_cons_zero, List.set_cons_succ]
  refine only_ 35 rfl (by as_aux_lemma => kernel_rfl) (by rfl) (fun K hK => ?_)
  go_simp
  refine (Place_nil _).mono ?_
  rintro e w' ⟨rfl, rfl⟩
  refine hK.out _ _ ⟨NU.out.c0, NU.out.c1⟩ (fun hHeld2 => ?_)
  clear hK K hHeld
  have hHeld := hHeld2
  clear hHeld2
  try simp only [Act.put, List.setIfInBounds_toArray, List.set_cons_zero, List.set_cons_succ]
  refine' take_ 36 rfl (by as_aux_lemma => kernel_rfl) (by as_aux_lemma => kernel_rfl) (by as_aux_lemma => kernel_rfl) (fun _ _ _ h => h) (by rfl) (fun wS hSw => ?_) hHeld ?_
  rotate_left
  focus (obtain ⟨k1, k2⟩ := hSw; go_simp; (try with_reducible rfl); done)
  try simp only [Act.put, List.setIfInBounds_toArray, List.set_cons_zero, List.set_cons_succ]
  refine' take_ 37 rfl (by as_aux_lemma => kernel_rfl) (by as_aux_lemma => kernel_rfl) (by as_aux_lemma => kernel_rfl) (fun _ _ _ h => h) (by rfl) (fun wS hSw => ?_) hHeld ?_
  rotate_left
  focus (obtain ⟨k1, k2⟩ := hSw; go_simp; (try with_reducible rfl); done)
  try simp only [Act.put, List.setIfInBounds_toArray, List.set_cons_zero, List.set_cons_succ]
  refine' take_ 38 rfl (by as_aux_lemma => kernel_rfl) (by as_aux_lemma => kernel_rfl) (by as_aux_lemma => kernel_rfl) (fun _ _ _ h => h) (by rfl) (fun wS hSw => ?_) hHeld ?_
  rotate_left
  focus (obtain ⟨k1, k2⟩ := hSw; go_simp; (try with_reducible rfl); done)
  try simp only [Act.put, List.setIfInBounds_toArray, List.set_cons_zero, List.set_cons_succ]
  refine' take_ 39 rfl (by as_aux_lemma => kernel_rfl) (by as_aux_lemma => kernel_rfl) (by as_aux_lemma => kernel_rfl) (fun _ _ _ h => h) (by rfl) (fun wS hSw => ?_) hHeld ?_
  rotate_left
  focus (obtain ⟨k1, k2⟩ := hSw; go_simp; (try with_reducible rfl); done)
  try simp only [Act.put, List.setIfInBounds_toArray, List.set_cons_zero, List.set_cons_succ]
  refine only_ 40 rfl (by as_aux_lemma => kernel_rfl) (by rfl) (fun K hK => ?_)
  go_simp
  refine (Left_nil _).mono ?_
  rintro e w' ⟨rfl, rfl⟩
  refine hK.out _ _ ⟨NU.out.c0, NU.out.c1⟩ (fun hHeld2 => ?_)
  clear hK K hHeld
  have hHeld := hHeld2
  clear hHeld2
  try simp only [Act.put, List.setIfInBounds_toArray, List.set_cons_zero, List.set_cons_succ]
  refine' take_ 41 rfl (by as_aux_lemma => kernel_rfl) (by as_aux_lemma => kernel_rfl) (by as_aux_lemma => kernel_rfl) (fun _ _ _ h => h) (by rfl) (fun wS hSw => ?_) hHeld ?_
  rotate_left
  focus (obtain ⟨k1, k2⟩ := hSw; go_simp; (try with_reducible rfl); done)
  try simp only [Act.put, List.setIfInBounds_toArray, List.set_cons_zero, List.set_cons_succ]
  refine' take_ 42 rfl (by as_aux_lemma => kernel_rfl) (by as_aux_lemma => kernel_rfl) (by as_aux_lemma => kernel_rfl) (fun _ _ _ h => h) (by rfl) (fun wS hSw => ?_) hHeld ?_
  rotate_left
  focus (obtain ⟨k1, k2⟩ := hSw; go_simp; (try with_reducible rfl); done)
  try simp only [Act.put, List.setIfInBounds_toArray, List.set_cons_zero, List.set_cons_succ]
  refine' take_ 43 rfl (by as_aux_lemma => kernel_rfl) (by as_aux_lemma => kernel_rfl) (by as_aux_lemma => kernel_rfl) (fun _ _ _ h => h) (by rfl) (fun wS hSw => ?_) hHeld ?_
  rotate_left
  focus (obtain ⟨k1, k2⟩ := hSw; go_simp; (try with_reducible rfl); done)
  try simp only [Act.put, List.setIfInBounds_toArray, List.set_cons_zero, List.set_cons_succ]
  refine' take_ 44 rfl (by as_aux_lemma => kernel_rfl) (by as_aux_lemma => kernel_rfl) (by as_aux_lemma => kernel_rfl) (fun _ _ _ h => h) (by rfl) (fun wS hSw => ?_) hHeld ?_
  rotate_left
  focus (obtain ⟨k1, k2⟩ := hSw; go_simp; (try with_reducible rfl); done)
  try simp only [Act.put, List.setIfInBounds_toArray, List.set_cons_zero, List.set_cons_succ]
  refine' take_ 46 rfl (by as_aux_lemma => kernel_rfl) (by as_aux_lemma => kernel_rfl) (by as_aux_lemma => kernel_rfl) (fun _ _ _ h => h) (by rfl) (fun wS hSw => ?_) hHeld ?_
  rotate_left
  focus (obtain ⟨k1, k2⟩ := hSw; go_simp; (try with_reducible rfl); done)
  try simp only [Act.put, List.setIfInBounds_toArray, List.set_cons_zero, List.set_cons_succ]
  refine only_ 45 rfl (by as_aux_lemma => kernel_rfl) (by rfl) (fun K hK => ?_)
  go_simp
  refine (Err_none _).mono ?_
  rintro e w22 ⟨v22, rfl, he, hb⟩
  have L' := Lib.hid (L.out.below hb L.out.lt)
  have Bw' := Lib.hid (Bw.out.trans (hb.mono Bw.out.size))
  have NU' := Lib.hid (NU.out.below hb (Nat.le_refl _))
  have Ie' := Lib.hid (Ie.out.below hb (Nat.le_refl _))
  have Ii' := Lib.hid (Ii.out.below hb (Nat.le_refl _))
  have D' := Lib.hid (D.out.below hb (Nat.le_refl _))
  have Ix' := Lib.hid (Ix.out.below hb (Nat.le_refl _))
  have Iu' := Lib.hid (Iu.out.below hb (Nat.le_refl _))
  have Iz' := Lib.hid (Iz.out.below hb (Nat.le_refl _))
  have Iq' := Lib.hid (Iq.out.below hb (Nat.le_refl _))
  have RR' := Lib.hid ((RR.out.below hb (Nat.le_refl _)).more hb.size)
  have Rp' := Lib.hid ((Rp.out.below hb (Nat.le_refl _)).more hb.size)
  have Rr' := Lib.hid ((Rr.out.below hb (Nat.le_refl _)).more hb.size)
  clear Rr Rp RR Iq Iz Iu Ix D Ii Ie NU Bw L hb
  have L := L'
  have Bw := Bw'
  have NU := NU'
  have Ie := Ie'
  have Ii := Ii'
  have D := D'
  have Ix := Ix'
  have Iu := Iu'
  have Iz := Iz'
  have Iq := Iq'
  have RR := RR'
  have Rp := Rp'
  have Rr := Rr'
  clear L' Bw' NU' Ie' Ii' D' Ix' Iu' Iz' Iq' RR' Rp' Rr'
  have E := Lib.hid he
  clear he
  refine hK.out _ _ ⟨NU.out.c0, NU.out.c1⟩ (fun hHeld2 => ?_)
  clear hK K hHeld
  have hHeld := hHeld2
  clear hHeld2
  try simp only [Act.put, List.setIfInBounds_toArray, List.set_cons_zero, List.set_cons_succ]
  refine only_ 47 rfl (by as_aux_lemma => kernel_rfl) (by rfl) (fun K hK => ?_)
  go_simp
  refine (fault_of v22 (some (1, 0)) _ _ L.out E.out (by intro c' a' h; injection h with h; injection h with h _; omega)).mono ?_
  rintro e w23 ⟨rfl, hb⟩
  clear E
  have L' := Lib.hid (L.out.below hb L.out.lt)
  have Bw' := Lib.hid (Bw.out.trans (hb.mono Bw.out.size))
  have NU' := Lib.hid (NU.out.below hb (Nat.le_refl _))
  have Ie' := Lib.hid (Ie.out.below hb (Nat.le_refl _))
  have Ii' := Lib.hid (Ii.out.below hb (Nat.le_refl _))
  have D' := Lib.hid (D.out.below hb (Nat.le_refl _))
  have Ix' := Lib.hid (Ix.out.below hb (Nat.le_refl _))
  have Iu' := Lib.hid (Iu.out.below hb (Nat.le_refl _))
  have Iz' := Lib.hid (Iz.out.below hb (Nat.le_refl _))
  have Iq' := Lib.hid (Iq.out.below hb (Nat.le_refl _))
  have RR' := Lib.hid ((RR.out.below hb (Nat.le_refl _)).more hb.size)
  have Rp' := Lib.hid ((Rp.out.below hb (Nat.le_refl _)).more hb.size)
  have Rr' := Lib.hid ((Rr.out.below hb (Nat.le_refl _)).more hb.size)
  clear Rr Rp RR Iq Iz Iu Ix D Ii Ie NU Bw L hb
  have L := L'
  have Bw := Bw'
  have NU := NU'
  have Ie := Ie'
  have Ii := Ii'
  have D := D'
  have Ix := Ix'
  have Iu := Iu'
  have Iz := Iz'
  have Iq := Iq'
  have RR := RR'
  have Rp := Rp'
  have Rr := Rr'
  clear L' Bw' NU' Ie' Ii' D' Ix' Iu' Iz' Iq' RR' Rp' Rr'
  refine hK.out _ _ ⟨NU.out.c0, NU.out.c1⟩ (fun hHeld2 => ?_)
  clear hK K hHeld
  have hHeld := hHeld2
  clear hHeld2
  try simp only [Act.put, List.setIfInBounds_toArray, List.set_cons_zero, List.set_cons_succ]
  refine' take_ 48 rfl (by as_aux_lemma => kernel_rfl) (by as_aux_lemma => kernel_rfl) (by as_aux_lemma => kernel_rfl) (fun _ _ _ h => h) (by rfl) (fun wS hSw => ?_) hHeld ?_
  rotate_left
  focus (obtain ⟨k1, k2⟩ := hSw; go_simp; (try with_reducible rfl); done)
  try simp only [Act.put, List.setIfInBounds_toArray, List.set_cons_zero, List.set_cons_succ]
  refine' take_ 49 rfl (by as_aux_lemma => kernel_rfl) (by as_aux_lemma => kernel_rfl) (by as_aux_lemma => kernel_rfl) (fun _ _ _ h => h) (by rfl) (fun wS hSw => ?_) hHeld ?_
  rotate_left
  focus (obtain ⟨k1, k2⟩ := hSw; go_simp; (try with_reducible rfl); done)
  try simp only [Act.put, List.setIfInBounds_toArray, List.set_cons_zero, List.set_cons_succ]
  refine' take_ 50 rfl (by as_aux_lemma => kernel_rfl) (by as_aux_lemma => kernel_rfl) (by as_aux_lemma => kernel_rfl) (fun _ _ _ h => h) (by rfl) (fun wS hSw => ?_) hHeld ?_
  rotate_left
  focus (obtain ⟨k1, k2⟩ := hSw; go_simp; (try with_reducible rfl); done)
  try simp only [Act.put, List.setIfInBounds_toArray, List.set_cons_zero, List.set_cons_succ]
  refine' take_ 52 rfl (by as_aux_lemma => kernel_rfl) (by as_aux_lemma => kernel_rfl) (by as_aux_lemma => kernel_rfl) (fun _ _ _ h => h) (by rfl) (fun wS hSw => ?_) hHeld ?_
  rotate_left
  focus (obtain ⟨k1, k2⟩ := hSw; go_simp; (try with_reducible rfl); done)
  try simp only [Act.put, List.setIfInBounds_toArray, List.set_cons_zero, List.set_cons_succ]
  refine only_ 51 rfl (by as_aux_lemma => kernel_rfl) (by rfl) (fun K hK => ?_)
  go_simp
  refine (End_none _).mono ?_
  rintro e w24 ⟨v24, rfl, he, hb⟩
  have L' := Lib.hid (L.out.below hb L.out.lt)
  have Bw' := Lib.hid (Bw.out.trans (hb.mono Bw.out.size))
  have NU' := Lib.hid (NU.out.below hb (Nat.le_refl _))
  have Ie' := Lib.hid (Ie.out.below hb (Nat.le_refl _))
  have Ii' := Lib.hid (Ii.out.below hb (Nat.le_refl _))
  have D' := Lib.hid (D.out.below hb (Nat.le_refl _))
  have Ix' := Lib.hid (Ix.out.below hb (Nat.le_refl _))
  have Iu' := Lib.hid (Iu.out.below hb (Nat.le_refl _))
  have Iz' := Lib.hid (Iz.out.below hb (Nat.le_refl _))
  have Iq' := Lib.hid (Iq.out.below hb (Nat.le_refl _))
  have RR' := Lib.hid ((RR.out.below hb (Nat.le_refl _)).more hb.size)
  have Rp' := Lib.hid ((Rp.out.below hb (Nat.le_refl _)).more hb.size)
  have Rr' := Lib.hid ((Rr.out.below hb (Nat.le_refl _)).more hb.size)
  clear Rr Rp RR Iq Iz Iu Ix D Ii Ie NU Bw L hb
  have L := L'
  have Bw := Bw'
  have NU := NU'
  have Ie := Ie'
  have Ii := Ii'
  have D := D'
  have Ix := Ix'
  have Iu := Iu'
  have Iz := Iz'
  have Iq := Iq'
  have RR := RR'
  have Rp := Rp'
  have Rr := Rr'
  clear L' Bw' NU' Ie' Ii' D' Ix' Iu' Iz' Iq' RR' Rp' Rr'
  have E := Lib.hid he
  clear he
  refine hK.out _ _ ⟨NU.out.c0, NU.out.c1⟩ (fun hHeld2 => ?_)
  clear hK K hHeld
  have hHeld := hHeld2
  clear hHeld2
  try simp only [Act.put, List.setIfInBounds_toArray, List.set_cons_zero, List.set_cons_succ]
  refine only_ 53 rfl (by as_aux_lemma => kernel_rfl) (by rfl) (fun K hK => ?_)
  go_simp
  refine (fault_of v24 (some (1, 0)) _ _ L.out E.out (by intro c' a' h; injection h with h; injection h with h _; omega)).mono ?_
  rintro e w25 ⟨rfl, hb⟩
  clear E
  have L' := Lib.hid (L.out.below hb L.out.lt)
  have Bw' := Lib.hid (Bw.out.trans (hb.mono Bw.out.size))
  have NU' := Lib.hid (NU.out.below hb (Nat.le_refl _))
  have Ie' := Lib.hid (Ie.out.below hb (Nat.le_refl _))
  have Ii' := Lib.hid (Ii.out.below hb (Nat.le_refl _))
  have D' := Lib.hid (D.out.below hb (Nat.le_refl _))
  have Ix' := Lib.hid (Ix.out.below hb (Nat.le_refl _))
  have Iu' := Lib.hid (Iu.out.below hb (Nat.le_refl _))
  have Iz' := Lib.hid (Iz.out.below hb (Nat.le_refl _))
  have Iq' := Lib.hid (Iq.out.below hb (Nat.le_refl _))
  have RR' := Lib.hid ((RR.out.below hb (Nat.le_refl _)).more hb.size)
  have Rp' := Lib.hid ((Rp.out.below hb (Nat.le_refl _)).more hb.size)
  have Rr' := Lib.hid ((Rr.out.below hb (Nat.le_refl _)).more hb.size)
  clear Rr Rp RR Iq Iz Iu Ix D Ii Ie NU Bw L hb
  have L := L'
  have Bw := Bw'
  have NU := NU'
  have Ie := Ie'
  have Ii := Ii'
  have D := D'
  have Ix := Ix'
  have Iu := Iu'
  have Iz := Iz'
  have Iq := Iq'
  have RR := RR'
  have Rp := Rp'
  have Rr := Rr'
  clear L' Bw' NU' Ie' Ii' D' Ix' Iu' Iz' Iq' RR' Rp' Rr'
  refine hK.out _ _ ⟨NU.out.c0, NU.out.c1⟩ (fun hHeld2 => ?_)
  clear hK K hHeld
  have hHeld := hHeld2
  clear hHeld2
  try simp only [Act.put, List.setIfInBounds_toArray, List.set_cons_zero, List.set_cons_succ]
  refine' take_ 54 rfl (by as_aux_lemma => kernel_rfl) (by as_aux_lemma => kernel_rfl) (by as_aux_lemma => kernel_rfl) (fun _ _ _ h => h) (by rfl) (fun wS hSw => ?_) hHeld ?_
  rotate_left
  focus (obtain ⟨k1, k2⟩ := hSw; go_simp; (try with_reducible rfl); done)
  try simp only [Act.put, List.setIfInBounds_toArray, List.set_cons_zero, List.set_cons_succ]
  refine' take_ 55 rfl (by as_aux_lemma => kernel_rfl) (by as_aux_lemma => kernel_rfl) (by as_aux_lemma => kernel_rfl) (fun _ _ _ h => h) (by rfl) (fun wS hSw => ?_) hHeld ?_
  rotate_left
  focus (obtain ⟨k1, k2⟩ := hSw; go_simp; (try with_reducible rfl); done)
  try simp only [Act.put, List.setIfInBounds_toArray, List.set_cons_zero, List.set_cons_succ]
  refine' take_ 56 rfl (by as_aux_lemma => kernel_rfl) (by as_aux_lemma => kernel_rfl) (by as_aux_lemma => kernel_rfl) (fun _ _ _ h => h) (by rfl) (fun wS hSw => ?_) hHeld ?_
  rotate_left
  focus (obtain ⟨k1, k2⟩ := hSw; go_simp; (try with_reducible rfl); done)
  try simp only [Act.put, List.setIfInBounds_toArray, List.set_cons_zero, List.set_cons_succ]
  refine' take_ 57 rfl (by as_aux_lemma => kernel_rfl) (by as_aux_lemma => kernel_rfl) (by as_aux_lemma => kernel_rfl) (fun _ _ _ h => h) (by rfl) (fun wS hSw => ?_) hHeld ?_
  rotate_left
  focus (obtain ⟨k1, k2⟩ := hSw; go_simp; (try with_reducible rfl); done)
  try simp only [Act.put, List.setIfInBounds_toArray, List.set_cons_zero, List.set_cons_succ]
  refine' take_ 58 rfl (by as_aux_lemma => kernel_rfl) (by as_aux_lemma => kernel_rfl) (by as_aux_lemma => kernel_rfl) (fun _ _ _ h => h) (by rfl) (fun wS hSw => ?_) hHeld ?_
  rotate_left
  focus (obtain ⟨k1, k2⟩ := hSw; go_simp; (try with_reducible rfl); done)
  try simp only [Act.put, List.setIfInBounds_toArray, List.set_cons_zero, List.set_cons_succ]
  refine' take_ 59 rfl (by as_aux_lemma => kernel_rfl) (by as_aux_lemma => kernel_rfl) (by as_aux_lemma => kernel_rfl) (fun _ _ _ h => h) (by rfl) (fun wS hSw => ?_) hHeld ?_
  rotate_left
  focus (obtain ⟨k1, k2⟩ := hSw; go_simp; (try with_reducible rfl); done)
  try simp only [Act.put, List.setIfInBounds_toArray, List.set_cons_zero, List.set_cons_succ]
  refine' take_ 60 rfl (by as_aux_lemma => kernel_rfl) (by as_aux_lemma => kernel_rfl) (by as_aux_lemma => kernel_rfl) (fun _ _ _ h => h) (by rfl) (fun wS hSw => ?_) hHeld ?_
  rotate_left
  focus (obtain ⟨k1, k2⟩ := hSw; go_simp; (try with_reducible rfl); done)
  try simp only [Act.put, List.setIfInBounds_toArray, List.set_cons_zero, List.set_cons_succ]
  refine' take_ 62 rfl (by as_aux_lemma => kernel_rfl) (by as_aux_lemma => kernel_rfl) (by as_aux_lemma => kernel_rfl) (fun _ _ _ h => h) (by rfl) (fun wS hSw => ?_) hHeld ?_
  rotate_left
  focus (obtain ⟨k1, k2⟩ := hSw; go_simp; (try with_reducible rfl); done)
  try simp only [Act.put, List.setIfInBounds_toArray, List.set_cons_zero, List.set_cons_succ]
  refine only_ 61 rfl (by as_aux_lemma => kernel_rfl) (by rfl) (fun K hK => ?_)
  go_simp
  refine (Err_any be { data := #[] } 0 (some (3, 0)) _ Ie.out).mono ?_
  rintro e w26 ⟨v26, rfl, he, hb⟩
  have L' := Lib.hid (L.out.below hb L.out.lt)
  have Bw' := Lib.hid (Bw.out.trans (hb.mono Bw.out.size))
  have NU' := Lib.hid (NU.out.below hb (Nat.le_refl _))
  have Ie' := Lib.hid (Ie.out.below hb (Nat.le_refl _))
  have Ii' := Lib.hid (Ii.out.below hb (Nat.le_refl _))
  have D' := Lib.hid (D.out.below hb (Nat.le_refl _))
  have Ix' := Lib.hid (Ix.out.below hb (Nat.le_refl _))
  have Iu' := Lib.hid (Iu.out.below hb (Nat.le_refl _))
  have Iz' := Lib.hid (Iz.out.below hb (Nat.le_refl _))
  have Iq' := Lib.hid (Iq.out.below hb (Nat.le_refl _))
  have RR' := Lib.hid ((RR.out.below hb (Nat.le_refl _)).more hb.size)
  have Rp' := Lib.hid ((Rp.out.below hb (Nat.le_refl _)).more hb.size)
  have Rr' := Lib.hid ((Rr.out.below hb (Nat.le_refl _)).more hb.size)
  clear Rr Rp RR Iq Iz Iu Ix D Ii Ie NU Bw L hb
  have L := L'
  have Bw := Bw'
  have NU := NU'
  have Ie := Ie'
  have Ii := Ii'
  have D := D'
  have Ix := Ix'
  have Iu := Iu'
  have Iz := Iz'
  have Iq := Iq'
  have RR := RR'
  have Rp := Rp'
  have Rr := Rr'
  clear L' Bw' NU' Ie' Ii' D' Ix' Iu' Iz' Iq' RR' Rp' Rr'
  have E := Lib.hid he
  clear he
  refine hK.out _ _ ⟨NU.out.c0, NU.out.c1⟩ (fun hHeld2 => ?_)
  clear hK K hHeld
  have hHeld := hHeld2
  clear hHeld2
  try simp only [Act.put, List.setIfInBounds_toArray, List.set_cons_zero, List.set_cons_succ]
  refine only_ 63 rfl (by as_aux_lemma => kernel_rfl) (by rfl) (fun K hK => ?_)
  go_simp
  refine (fault_of v26 (some (3, 0)) _ _ L.out E.out (by intro c' a' h; injection h with h; injection h with h _; omega)).mono ?_
  rintro e w27 ⟨rfl, hb⟩
  clear E
  have L' := Lib.hid (L.out.below hb L.out.lt)
  have Bw' := Lib.hid (Bw.out.trans (hb.mono Bw.out.size))
  have NU' := Lib.hid (NU.out.below hb (Nat.le_refl _))
  have Ie' := Lib.hid (Ie.out.below hb (Nat.le_refl _))
  have Ii' := Lib.hid (Ii.out.below hb (Nat.le_refl _))
  have D' := Lib.hid (D.out.below hb (Nat.le_refl _))
  have Ix' := Lib.hid (Ix.out.below hb (Nat.le_refl _))
  have Iu' := Lib.hid (Iu.out.below hb (Nat.le_refl _))
  have Iz' := Lib.hid (Iz.out.below hb (Nat.le_refl _))
  have Iq' := Lib.hid (Iq.out.below hb (Nat.le_refl _))
  have RR' := Lib.hid ((RR.out.below hb (Nat.le_refl _)).more hb.size)
  have Rp' := Lib.hid ((Rp.out.below hb (Nat.le_refl _)).more hb.size)
  have Rr' := Lib.hid ((Rr.out.below hb (Nat.le_refl _)).more hb.size)
  clear Rr Rp RR Iq Iz Iu Ix D Ii Ie NU Bw L hb
  have L := L'
  have Bw := Bw'
  have NU := NU'
  have Ie := Ie'
  have Ii := Ii'
  have D := D'
  have Ix := Ix'
  have Iu := Iu'
  have Iz := Iz'
  have Iq := Iq'
  have RR := RR'
  have Rp := Rp'
  have Rr := Rr'
  clear L' Bw' NU' Ie' Ii' D' Ix' Iu' Iz' Iq' RR' Rp' Rr'
  refine hK.out _ _ ⟨NU.out.c0, NU.out.c1⟩ (fun hHeld2 => ?_)
  clear hK K hHeld
  have hHeld := hHeld2
  clear hHeld2
  try simp only [Act.put, List.setIfInBounds_toArray, List.set_cons_zero, List.set_cons_succ]
  refine' take_ 64 rfl (by as_aux_lemma => kernel_rfl) (by as_aux_lemma => kernel_rfl) (by as_aux_lemma => kernel_rfl) (fun _ _ _ h => h) (by rfl) (fun wS hSw => ?_) hHeld ?_
  rotate_left
  focus (obtain ⟨k1, k2⟩ := hSw; go_simp; (try with_reducible rfl); done)
  try simp only [Act.put, List.setIfInBounds_toArray, List.set_cons_zero, List.set_cons_succ]
  refine' take_ 65 rfl (by as_aux_lemma => kernel_rfl) (by as_aux_lemma => kernel_rfl) (by as_aux_lemma => kernel_rfl) (fun _ _ _ h => h) (by rfl) (fun wS hSw => ?_) hHeld ?_
  rotate_left
  focus (obtain ⟨k1, k2⟩ := hSw; go_simp; (try with_reducible rfl); done)
  try simp only [Act.put, List.setIfInBounds_toArray, List.set_cons_zero, List.set_cons_succ]
  refine' take_ 66 rfl (by as_aux_lemma => kernel_rfl) (by as_aux_lemma => kernel_rfl) (by as_aux_lemma => kernel_rfl) (fun _ _ _ h => h) (by rfl) (fun wS hSw => ?_) hHeld ?_
  rotate_left
  focus (obtain ⟨k1, k2⟩ := hSw; go_simp; (try with_reducible rfl); done)
  try simp only [Act.put, List.setIfInBounds_toArray, List.set_cons_zero, List.set_cons_succ]
  refine' take_ 67 rfl (by as_aux_lemma => kernel_rfl) (by as_aux_lemma => kernel_rfl) (by as_aux_lemma => kernel_rfl) (fun _ _ _ h => h) (by rfl) (fun wS hSw => ?_) hHeld ?_
  rotate_left
  focus (obtain ⟨k1, k2⟩ := hSw; go_simp; (try with_reducible rfl); done)
  try simp only [Act.put, List.setIfInBounds_toArray, List.set_cons_zero, List.set_cons_succ]
  refine' take_ 68 rfl (by as_aux_lemma => kernel_rfl) (by as_aux_lemma => kernel_rfl) (by as_aux_lemma => kernel_rfl) (fun _ _ _ h => h) (by rfl) (fun wS hSw => ?_) hHeld ?_
  rotate_left
  focus (obtain ⟨k1, k2⟩ := hSw; go_simp; (try with_reducible rfl); done)
  try simp only [Act.put, List.setIfInBounds_toArray, List.set_cons_zero, List.set_cons_succ]
  refine' take_ 69 rfl (by as_aux_lemma => kernel_rfl) (by as_aux_lemma => kernel_rfl) (by as_aux_lemma => kernel_rfl) (fun _ _ _ h => h) (by rfl) (fun wS hSw => ?_) hHeld ?_
  rotate_left
  focus (obtain ⟨k1, k2⟩ := hSw; go_simp; (try with_reducible rfl); done)
  try simp only [Act.put, List.setIfInBounds_toArray, List.set_cons_zero, List.set_cons_succ]
  refine' take_ 70 rfl (by as_aux_lemma => kernel_rfl) (by as_aux_lemma => kernel_rfl) (by as_aux_lemma => kernel_rfl) (fun _ _ _ h => h) (by rfl) (fun wS hSw => ?_) hHeld ?_
  rotate_left
  focus (obtain ⟨k1, k2⟩ := hSw; go_simp; (try with_reducible rfl); done)
  try simp only [Act.put, List.setIfInBounds_toArray, List.set_cons_zero, List.set_cons_succ]
  refine' take_ 71 rfl (by as_aux_lemma => kernel_rfl) (by as_aux_lemma => kernel_rfl) (by as_aux_lemma => kernel_rfl) (fun _ _ _ h => h) (by rfl) (fun wS hSw => ?_) hHeld ?_
  rotate_left
  focus (obtain ⟨k1, k2⟩ := hSw; go_simp; (try with_reducible rfl); done)
  try simp only [Act.put, List.setIfInBounds_toArray, List.set_cons_zero, List.set_cons_succ]
  refine' take_ 72 rfl (by as_aux_lemma => kernel_rfl) (by as_aux_lemma => kernel_rfl) (by as_aux_lemma => kernel_rfl) (fun _ _ _ h => h) (by rfl) (fun wS hSw => ?_) hHeld ?_
  rotate_left
  focus (obtain ⟨k1, k2⟩ := hSw; go_simp; (try with_reducible rfl); done)
  try simp only [Act.put, List.setIfInBounds_toArray, List.set_cons_zero, List.set_cons_succ]
  refine' take_ 73 rfl (by as_aux_lemma => kernel_rfl) (by as_aux_lemma => kernel_rfl) (by as_aux_lemma => kernel_rfl) (fun _ _ _ h => h) (by rfl) (fun wS hSw => ?_) hHeld ?_
  rotate_left
  focus (obtain ⟨k1, k2⟩ := hSw; go_simp; (try with_reducible rfl); done)
  try simp only [Act.put, List.setIfInBounds_toArray, List.set_cons_zero, List.set_cons_succ]
  refine' take_ 74 rfl (by as_aux_lemma => kernel_rfl) (by as_aux_lemma => kernel_rfl) (by as_aux_lemma => kernel_rfl) (fun _ _ _ h => h) (by rfl) (fun wS hSw => ?_) hHeld ?_
  rotate_left
  focus (obtain ⟨k1, k2⟩ := hSw; go_simp; (try with_reducible rfl); done)
  try simp only [Act.put, List.setIfInBounds_toArray, List.set_cons_zero, List.set_cons_succ]
  refine' take_ 75 rfl (by as_aux_lemma => kernel_rfl) (by as_aux_lemma => kernel_rfl) (by as_aux_lemma => kernel_rfl) (fun _ _ _ h => h) (by rfl) (fun wS hSw => ?_) hHeld ?_
  rotate_left
  focus (obtain ⟨k1, k2⟩ := hSw; go_simp; (try with_reducible rfl); done)
  try simp only [Act.put, List.setIfInBounds_toArray, List.set_cons_zero, List.set_cons_succ]
  refine only_ 76 rfl (by as_aux_lemma => kernel_rfl) (by rfl) (fun K hK => ?_)
  go_simp
  refine (fault_of v6 (some (5, 1)) _ _ L.out D.out (by intro c' a' h; injection h with h; injection h with h _; omega)).mono ?_
  rintro e w28 ⟨rfl, hb⟩
  have L' := Lib.hid (L.out.below hb L.out.lt)
  have Bw' := Lib.hid (Bw.out.trans (hb.mono Bw.out.size))
  have NU' := Lib.hid (NU.out.below hb (Nat.le_refl _))
  have Ie' := Lib.hid (Ie.out.below hb (Nat.le_refl _))
  have Ii' := Lib.hid (Ii.out.below hb (Nat.le_refl _))
  have D' := Lib.hid (D.out.below hb (Nat.le_refl _))
  have Ix' := Lib.hid (Ix.out.below hb (Nat.le_refl _))
  have Iu' := Lib.hid (Iu.out.below hb (Nat.le_refl _))
  have Iz' := Lib.hid (Iz.out.below hb (Nat.le_refl _))
  have Iq' := Lib.hid (Iq.out.below hb (Nat.le_refl _))
  have RR' := Lib.hid ((RR.out.below hb (Nat.le_refl _)).more hb.size)
  have Rp' := Lib.hid ((Rp.out.below hb (Nat.le_refl _)).more hb.size)
  have Rr' := Lib.hid ((Rr.out.below hb (Nat.le_refl _)).more hb.size)
  clear Rr Rp RR Iq Iz Iu Ix D Ii Ie NU Bw L hb
  have L := L'
  have Bw := Bw'
  have NU := NU'
  have Ie := Ie'
  have Ii := Ii'
  have D := D'
  have Ix := Ix'
  have Iu := Iu'
  have Iz := Iz'
  have Iq := Iq'
  have RR := RR'
  have Rp := Rp'
  have Rr := Rr'
  clear L' Bw' NU' Ie' Ii' D' Ix' Iu' Iz' Iq' RR' Rp' Rr'
  refine hK.out _ _ ⟨NU.out.c0, NU.out.c1⟩ (fun hHeld2 => ?_)
  clear hK K hHeld
  have hHeld := hHeld2
  clear hHeld2
  try simp only [Act.put, List.setIfInBounds_toArray, List.set_cons_zero, List.set_cons_succ]
  refine' take_ 77 rfl (by as_aux_lemma => kernel_rfl) (by as_aux_lemma => kernel_rfl) (by as_aux_lemma => kernel_rfl) (fun _ _ _ h => h) (by rfl) (fun wS hSw => ?_) hHeld ?_
  rotate_left
  focus (obtain ⟨k1, k2⟩ := hSw; go_simp; (try with_reducible rfl); done)
  try simp only [Act.put, List.setIfInBounds_toArray, List.set_cons_zero, List.set_cons_succ]
  refine' take_ 78 rfl (by as_aux_lemma => kernel_rfl) (by as_aux_lemma => kernel_rfl) (by as_aux_lemma => kernel_rfl) (fun _ _ _ h => h) (by rfl) (fun wS hSw => ?_) hHeld ?_
  rotate_left
  focus (obtain ⟨k1, k2⟩ := hSw; go_simp; (try with_reducible rfl); done)
  try simp only [Act.put, List.setIfInBounds_toArray, List.set_cons_zero, List.set_cons_succ]
  refine' take_ 79 rfl (by as_aux_lemma => kernel_rfl) (by as_aux_lemma => kernel_rfl) (by as_aux_lemma => kernel_rfl) (fun _ _ _ h => h) (by rfl) (fun wS hSw => ?_) hHeld ?_
  rotate_left
  focus (obtain ⟨k1, k2⟩ := hSw; go_simp; (try with_reducible rfl); done)
  try simp only [Act.put, List.setIfInBounds_toArray, List.set_cons_zero, List.set_cons_succ]
  refine' take_ 80 rfl (by as_aux_lemma => kernel_rfl) (by as_aux_lemma => kernel_rfl) (by as_aux_lemma => kernel_rfl) (fun _ _ _ h => h) (by rfl) (fun wS hSw => ?_) hHeld ?_
  rotate_left
  focus (obtain ⟨k1, k2⟩ := hSw; go_simp; (try with_reducible rfl); done)
  try simp only [Act.put, List.setIfInBounds_toArray, List.set_cons_zero, List.set_cons_succ]
  refine' take_ 81 rfl (by as_aux_lemma => kernel_rfl) (by as_aux_lemma => kernel_rfl) (by as_aux_lemma => kernel_rfl) (fun _ _ _ h => h) (by rfl) (fun wS hSw => ?_) hHeld ?_
  rotate_left
  focus (obtain ⟨k1, k2⟩ := hSw; go_simp; (try with_reducible rfl); done)
  try simp only [Act.put, List.setIfInBounds_toArray, List.set_cons_zero, List.set_cons_succ]
  refine' take_ 82 rfl (by as_aux_lemma => kernel_rfl) (by as_aux_lemma => kernel_rfl) (by as_aux_lemma => kernel_rfl) (fun _ _ _ h => h) (by rfl) (fun wS hSw => ?_) hHeld ?_
  rotate_left
  focus (obtain ⟨k1, k2⟩ := hSw; go_simp; (try with_reducible rfl); done)
  try simp only [Act.put, List.setIfInBounds_toArray, List.set_cons_zero, List.set_cons_succ]
  refine' take_ 83 rfl (by as_aux_lemma => kernel_rfl) (by as_aux_lemma => kernel_rfl) (by as_aux_lemma => kernel_rfl) (fun _ _ _ h => h) (by rfl) (fun wS hSw => ?_) hHeld ?_
  rotate_left
  focus (obtain ⟨k1, k2⟩ := hSw; go_simp; (try with_reducible rfl); done)
  try simp only [Act.put, List.setIfInBounds_toArray, List.set_cons_zero, List.set_cons_succ]
  refine' take_ 84 rfl (by as_aux_lemma => kernel_rfl) (by as_aux_lemma => kernel_rfl) (by as_aux_lemma => kernel_rfl) (fun _ _ _ h => h) (by rfl) (fun wS hSw => ?_) hHeld ?_
  rotate_left
  focus (obtain ⟨k1, k2⟩ := hSw; go_simp; (try with_reducible rfl); done)
  try simp only [Act.put, List.setIfInBounds_toArray, List.set_cons_zero, List.set_cons_succ]
  refine' take_ 85 rfl (by as_aux_lemma => kernel_rfl) (by as_aux_lemma => kernel_rfl) (by as_aux_lemma => kernel_rfl) (fun _ _ _ h => h) (by rfl) (fun wS hSw => ?_) hHeld ?_
  rotate_left
  focus (obtain ⟨k1, k2⟩ := hSw; go_simp; (try with_reducible rfl); done)
  try simp only [Act.put, List.setIfInBounds_toArray, List.set_cons_zero, List.set_cons_succ]
  refine' take_ 86 rfl (by as_aux_lemma => kernel_rfl) (by as_aux_lemma => kernel_rfl) (by as_aux_lemma => kernel_rfl) (fun _ _ _ h => h) (by rfl) (fun wS hSw => ?_) hHeld ?_
  rotate_left
  focus (obtain ⟨k1, k2⟩ := hSw; go_simp; (try with_reducible rfl); done)
  try simp only [Act.put, List.setIfInBounds_toArray, List.set_cons_zero, List.set_cons_succ]
  refine' take_ 87 rfl (by as_aux_lemma => kernel_rfl) (by as_aux_lemma => kernel_rfl) (by as_aux_lemma => kernel_rfl) (fun _ _ _ h => h) (by rfl) (fun wS hSw => ?_) hHeld ?_
  rotate_left
  focus (obtain ⟨k1, k2⟩ := hSw; go_simp; (try with_reducible rfl); done)
  try simp only [Act.put, List.setIfInBounds_toArray, List.set_cons_zero, List.set_cons_succ]
  refine' take_ 88 rfl (by as_aux_lemma => kernel_rfl) (by as_aux_lemma => kernel_rfl) (by as_aux_lemma => kernel_rfl) (fun _ _ _ h => h) (by rfl) (fun wS hSw => ?_) hHeld ?_
  rotate_left
  focus (obtain ⟨k1, k2⟩ := hSw; go_simp; (try with_reducible rfl); done)
  try simp only [Act.put, List.setIfInBounds_toArray, List.set_cons_zero, List.set_cons_succ]
  refine' take_ 89 rfl (by as_aux_lemma => kernel_rfl) (by as_aux_lemma => kernel_rfl) (by as_aux_lemma => kernel_rfl) (fun _ _ _ h => h) (by rfl) (fun wS hSw => ?_) hHeld ?_
  rotate_left
  focus (obtain ⟨k1, k2⟩ := hSw; go_simp; (try with_reducible rfl); done)
  try simp only [Act.put, List.setIfInBounds_toArray, List.set_cons_zero, List.set_cons_succ]
  refine' take_ 90 rfl (by as_aux_lemma => kernel_rfl) (by as_aux_lemma => kernel_rfl) (by as_aux_lemma => kernel_rfl) (fun _ _ _ h => h) (by rfl) (fun wS hSw => ?_) hHeld ?_
  rotate_left
  focus (obtain ⟨k1, k2⟩ := hSw; go_simp; (try with_reducible rfl); done)
  try simp only [Act.put, List.setIfInBounds_toArray, List.set_cons_zero, List.set_cons_succ]
  refine' take_ 91 rfl (by as_aux_lemma => kernel_rfl) (by as_aux_lemma => kernel_rfl) (by as_aux_lemma => kernel_rfl) (fun _ _ _ h => h) (by rfl) (fun wS hSw => ?_) hHeld ?_
  rotate_left
  focus (obtain ⟨k1, k2⟩ := hSw; go_simp; (try with_reducible rfl); done)
  try simp only [Act.put, List.setIfInBounds_toArray, List.set_cons_zero, List.set_cons_succ]
  refine only_ 92 rfl (by as_aux_lemma => kernel_rfl) (by rfl) (fun K hK => ?_)
  go_simp
  refine (Left_k bi { data := #[5, 2, 3, 97, 98, 99, 7] } 1 (some (5, 1)) _ Ii.out 6 (by decide) (by decide) (by decide)).mono ?_
  rintro e w29 ⟨rfl, hb⟩
  have L' := Lib.hid (L.out.below hb L.out.lt)
  have Bw' := Lib.hid (Bw.out.trans (hb.mono Bw.out.size))
  have NU' := Lib.hid (NU.out.below hb (Nat.le_refl _))
  have Ie' := Lib.hid (Ie.out.below hb (Nat.le_refl _))
  have Ii' := Lib.hid (Ii.out.below hb (Nat.le_refl _))
  have D' := Lib.hid (D.out.below hb (Nat.le_refl _))
  have Ix' := Lib.hid (Ix.out.below hb (Nat.le_refl _))
  have Iu' := Lib.hid (Iu.out.below hb (Nat.le_refl _))
  have Iz' := Lib.hid (Iz.out.below hb (Nat.le_refl _))
  have Iq' := Lib.hid (Iq.out.below hb (Nat.le_refl _))
  have RR' := Lib.hid ((RR.out.below hb (Nat.le_refl _)).more hb.size)
  have Rp' := Lib.hid ((Rp.out.below hb (Nat.le_refl _)).more hb.size)
  have Rr' := Lib.hid ((Rr.out.below hb (Nat.le_refl _)).more hb.size)
  clear Rr Rp RR Iq Iz Iu Ix D Ii Ie NU Bw L hb
  have L := L'
  have Bw := Bw'
  have NU := NU'
  have Ie := Ie'
  have Ii := Ii'
  have D := D'
  have Ix := Ix'
  have Iu := Iu'
  have Iz := Iz'
  have Iq := Iq'
  have RR := RR'
  have Rp := Rp'
  have Rr := Rr'
  clear L' Bw' NU' Ie' Ii' D' Ix' Iu' Iz' Iq' RR' Rp' Rr'
  refine hK.out _ _ ⟨NU.out.c0, NU.out.c1⟩ (fun hHeld2 => ?_)
  clear hK K hHeld
  have hHeld := hHeld2
  clear hHeld2
  try simp only [Act.put, List.setIfInBounds_toArray, List.set_cons_zero, List.set_cons_succ]
  refine' take_ 93 rfl (by as_aux_lemma => kernel_rfl) (by as_aux_lemma => kernel_rfl) (by as_aux_lemma => kernel_rfl) (fun _ _ _ h => h) (by rfl) (fun wS hSw => ?_) hHeld ?_
  rotate_left
  focus (obtain ⟨k1, k2⟩ := hSw; go_simp; (try with_reducible rfl); done)
  try simp only [Act.put, List.setIfInBounds_toArray, List.set_cons_zero, List.set_cons_succ]
  refine' take_ 94 rfl (by as_aux_lemma => kernel_rfl) (by as_aux_lemma => kernel_rfl) (by as_aux_lemma => kernel_rfl) (fun _ _ _ h => h) (by rfl) (fun wS hSw => ?_) hHeld ?_
  rotate_left
  focus (obtain ⟨k1, k2⟩ := hSw; go_simp; (try with_reducible rfl); done)
  try simp only [Act.put, List.setIfInBounds_toArray, List.set_cons_zero, List.set_cons_succ]
  refine' take_ 95 rfl (by as_aux_lemma => kernel_rfl) (by as_aux_lemma => kernel_rfl) (by as_aux_lemma => kernel_rfl) (fun _ _ _ h => h) (by rfl) (fun wS hSw => ?_) hHeld ?_
  rotate_left
  focus (obtain ⟨k1, k2⟩ := hSw; go_simp; (try with_reducible rfl); done)
  try simp only [Act.put, List.setIfInBounds_toArray, List.set_cons_zero, List.set_cons_succ]
  refine' take_ 96 rfl (by as_aux_lemma => kernel_rfl) (by as_aux_lemma => kernel_rfl) (by as_aux_lemma => kernel_rfl) (fun _ _ _ h => h) (by rfl) (fun wS hSw => ?_) hHeld ?_
  rotate_left
  focus (obtain ⟨k1, k2⟩ := hSw; go_simp; (try with_reducible rfl); done)
  try simp only [Act.put, List.setIfInBounds_toArray, List.set_cons_zero, List.set_cons_succ]
  refine' take_ 98 rfl (by as_aux_lemma => kernel_rfl) (by as_aux_lemma => kernel_rfl) (by as_aux_lemma => kernel_rfl) (fun _ _ _ h => h) (by rfl) (fun wS hSw => ?_) hHeld ?_
  rotate_left
  focus (obtain ⟨k1, k2⟩ := hSw; go_simp; (try with_reducible rfl); done)
  try simp only [Act.put, List.setIfInBounds_toArray, List.set_cons_zero, List.set_cons_succ]
  refine only_ 97 rfl (by as_aux_lemma => kernel_rfl) (by rfl) (fun K hK => ?_)
  go_simp
  refine (End_k bi { data := #[5, 2, 3, 97, 98, 99, 7] } 1 (some (5, 1)) _ Ii.out (some (5, 1)) (by rfl) (by decide) (by decide)).mono ?_
  rintro e w30 ⟨v30, rfl, he, hb⟩
  have L' := Lib.hid (L.out.below hb L.out.lt)
  have Bw' := Lib.hid (Bw.out.trans (hb.mono Bw.out.size))
  have NU' := Lib.hid (NU.out.below hb (Nat.le_refl _))
  have Ie' := Lib.hid (Ie.out.below hb (Nat.le_refl _))
  have Ii' := Lib.hid (Ii.out.below hb (Nat.le_refl _))
  have D' := Lib.hid (D.out.below hb (Nat.le_refl _))
  have Ix' := Lib.hid (Ix.out.below hb (Nat.le_refl _))
  have Iu' := Lib.hid (Iu.out.below hb (Nat.le_refl _))
  have Iz' := Lib.hid (Iz.out.below hb (Nat.le_refl _))
  have Iq' := Lib.hid (Iq.out.below hb (Nat.le_refl _))
  have RR' := Lib.hid ((RR.out.below hb (Nat.le_refl _)).more hb.size)
  have Rp' := Lib.hid ((Rp.out.below hb (Nat.le_refl _)).more hb.size)
  have Rr' := Lib.hid ((Rr.out.below hb (Nat.le_refl _)).more hb.size)
  clear Rr Rp RR Iq Iz Iu Ix D Ii Ie NU Bw L hb
  have L := L'
  have Bw := Bw'
  have NU := NU'
  have Ie := Ie'
  have Ii := Ii'
  have D := D'
  have Ix := Ix'
  have Iu := Iu'
  have Iz := Iz'
  have Iq := Iq'
  have RR := RR'
  have Rp := Rp'
  have Rr := Rr'
  clear L' Bw' NU' Ie' Ii' D' Ix' Iu' Iz' Iq' RR' Rp' Rr'
  have E := Lib.hid he
  clear he
  refine hK.out _ _ ⟨NU.out.c0, NU.out.c1⟩ (fun hHeld2 => ?_)
  clear hK K hHeld
  have hHeld := hHeld2
  clear hHeld2
  try simp only [Act.put, List.setIfInBounds_toArray, List.set_cons_zero, List.set_cons_succ]
  refine only_ 99 rfl (by as_aux_lemma => kernel_rfl) (by rfl) (fun K hK => ?_)
  go_simp
  refine (fault_of v30 (some (5, 1)) _ _ L.out E.out (by intro c' a' h; injection h with h; injection h with h _; omega)).mono ?_
  rintro e w31 ⟨rfl, hb⟩
  clear E
  have L' := Lib.hid (L.out.below hb L.out.lt)
  have Bw' := Lib.hid (Bw.out.trans (hb.mono Bw.out.size))
  have NU' := Lib.hid (NU.out.below hb (Nat.le_refl _))
  have Ie' := Lib.hid (Ie.out.below hb (Nat.le_refl _))
  have Ii' := Lib.hid (Ii.out.below hb (Nat.le_refl _))
  have D' := Lib.hid (D.out.below hb (Nat.le_refl _))
  have Ix' := Lib.hid (Ix.out.below hb (Nat.le_refl _))
  have Iu' := Lib.hid (Iu.out.below hb (Nat.le_refl _))
  have Iz' := Lib.hid (Iz.out.below hb (Nat.le_refl _))
  have Iq' := Lib.hid (Iq.out.below hb (Nat.le_refl _))
  have RR' := Lib.hid ((RR.out.below hb (Nat.le_refl _)).more hb.size)
  have Rp' := Lib.hid ((Rp.out.below hb (Nat.le_refl _)).more hb.size)
  have Rr' := Lib.hid ((Rr.out.below hb (Nat.le_refl _)).more hb.size)
  clear Rr Rp RR Iq Iz Iu Ix D Ii Ie NU Bw L hb
  have L := L'
  have Bw := Bw'
  have NU := NU'
  have Ie := Ie'
  have Ii := Ii'
  have D := D'
  have Ix := Ix'
  have Iu := Iu'
  have Iz := Iz'
  have Iq := Iq'
  have RR := RR'
  have Rp := Rp'
  have Rr := Rr'
  clear L' Bw' NU' Ie' Ii' D' Ix' Iu' Iz' Iq' RR' Rp' Rr'
  refine hK.out _ _ ⟨NU.out.c0, NU.out.c1⟩ (fun hHeld2 => ?_)
  clear hK K hHeld
  have hHeld := hHeld2
  clear hHeld2
  try simp only [Act.put, List.setIfInBounds_toArray, List.set_cons_zero, List.set_cons_succ]
  refine' take_ 100 rfl (by as_aux_lemma => kernel_rfl) (by as_aux_lemma => kernel_rfl) (by as_aux_lemma => kernel_rfl) (fun _ _ _ h => h) (by rfl) (fun wS hSw => ?_) hHeld ?_
  rotate_left
  focus (obtain ⟨k1, k2⟩ := hSw; go_simp; (try with_reducible rfl); done)
  try simp only [Act.put, List.setIfInBounds_toArray, List.set_cons_zero, List.set_cons_succ]
  refine' take_ 101 rfl (by as_aux_lemma => kernel_rfl) (by as_aux_lemma => kernel_rfl) (by as_aux_lemma => kernel_rfl) (fun _ _ _ h => h) (by rfl) (fun wS hSw => ?_) hHeld ?_
  rotate_left
  focus (obtain ⟨k1, k2⟩ := hSw; go_simp; (try with_reducible rfl); done)
  try simp only [Act.put, List.setIfInBounds_toArray, List.set_cons_zero, List.set_cons_succ]
  refine' take_ 102 rfl (by as_aux_lemma => kernel_rfl) (by as_aux_lemma => kernel_rfl) (by as_aux_lemma => kernel_rfl) (fun _ _ _ h => h) (by rfl) (fun wS hSw => ?_) hHeld ?_
  rotate_left
  focus (obtain ⟨k1, k2⟩ := hSw; go_simp; (try with_reducible rfl); done)
  try simp only [Act.put, List.setIfInBounds_toArray, List.set_cons_zero, List.set_cons_succ]
  refine' take_ 103 rfl (by as_aux_lemma => kernel_rfl) (by as_aux_lemma => kernel_rfl) (by as_aux_lemma => kernel_rfl) (fun _ _ _ h => h) (by rfl) (fun wS hSw => ?_) hHeld ?_
  rotate_left
  focus (obtain ⟨k1, k2⟩ := hSw; go_simp; (try with_reducible rfl); done)
  try simp only [Act.put, List.setIfInBounds_toArray, List.set_cons_zero, List.set_cons_succ]
  refine' take_ 104 rfl (by as_aux_lemma => kernel_rfl) (by as_aux_lemma => kernel_rfl) (by as_aux_lemma => kernel_rfl) (fun _ _ _ h => h) (by rfl) (fun wS hSw => ?_) hHeld ?_
  rotate_left
  focus (obtain ⟨k1, k2⟩ := hSw; go_simp; (try with_reducible rfl); done)
  try simp only [Act.put, List.setIfInBounds_toArray, List.set_cons_zero, List.set_cons_succ]
  refine' take_ 105 rfl (by as_aux_lemma => kernel_rfl) (by as_aux_lemma => kernel_rfl) (by as_aux_lemma => kernel_rfl) (fun _ _ _ h => h) (by rfl) (fun wS hSw => ?_) hHeld ?_
  rotate_left
  focus (obtain ⟨k1, k2⟩ := hSw; go_simp; (try with_reducible rfl); done)
  try simp only [Act.put, List.setIfInBounds_toArray, List.set_cons_zero, List.set_cons_succ]
  refine' take_ 106 rfl (by as_aux_lemma => kernel_rfl) (by as_aux_lemma => kernel_rfl) (by as_aux_lemma => kernel_rfl) (fun _ _ _ h => h) (by rfl) (fun wS hSw => ?_) hHeld ?_
  rotate_left
  focus (obtain ⟨k1, k2⟩ := hSw; go_simp; (try with_reducible rfl); done)
  try simp only [Act.put, List.setIfInBounds_toArray, List.set_cons_zero, List.set_cons_succ]
  refine' take_ 107 rfl (by as_aux_lemma => kernel_rfl) (by as_aux_lemma => kernel_rfl) (by as_aux_lemma => kernel_rfl) (fun _ _ _ h => h) (by rfl) (fun wS hSw => ?_) hHeld ?_
  rotate_left
  focus (obtain ⟨k1, k2⟩ := hSw; go_simp; (try with_reducible rfl); done)
  try simp only [Act.put, List.setIfInBounds_toArray, List.set_cons_zero, List.set_cons_succ]
  refine' take_ 108 rfl (by as_aux_lemma => kernel_rfl) (by as_aux_lemma => kernel_rfl) (by as_aux_lemma => kernel_rfl) (fun _ _ _ h => h) (by rfl) (fun wS hSw => ?_) hHeld ?_
  rotate_left
  focus (obtain ⟨k1, k2⟩ := hSw; go_simp; (try with_reducible rfl); done)
  try simp only [Act.put, List.setIfInBounds_toArray, List.set_cons_zero, List.set_cons_succ]
  refine' take_ 109 rfl (by as_aux_lemma => kernel_rfl) (by as_aux_lemma => kernel_rfl) (by as_aux_lemma => kernel_rfl) (fun _ _ _ h => h) (by rfl) (fun wS hSw => ?_) hHeld ?_
  rotate_left
  focus (obtain ⟨k1, k2⟩ := hSw; go_simp; (try with_reducible rfl); done)
  try simp only [Act.put, List.setIfInBounds_toArray, List.set_cons_zero, List.set_cons_succ]
  refine' take_ 110 rfl (by as_aux_lemma => kernel_rfl) (by as_aux_lemma => kernel_rfl) (by as_aux_lemma => kernel_rfl) (fun _ _ _ h => h) (by rfl) (fun wS hSw => ?_) hHeld ?_
  rotate_left
  focus (obtain ⟨k1, k2⟩ := hSw; go_simp; (try with_reducible rfl); done)
  try simp only [Act.put, List.setIfInBounds_toArray, List.set_cons_zero, List.set_cons_succ]
  refine only_ 111 rfl (by as_aux_lemma => kernel_rfl) (by rfl) (fun K hK => ?_)
  go_simp
  refine (End_k bx { data := #[3, 97, 98, 99, 64, 64] } 6 none _ Ix.out none (by rfl) (by decide) (by decide)).mono ?_
  rintro e w32 ⟨v, rfl, he, hb⟩
  obtain rfl : v = .nilIface := he
  have L' := Lib.hid (L.out.below hb L.out.lt)
  have Bw' := Lib.hid (Bw.out.trans (hb.mono Bw.out.size))
  have NU' := Lib.hid (NU.out.below hb (Nat.le_refl _))
  have Ie' := Lib.hid (Ie.out.below hb (Nat.le_refl _))
  have Ii' := Lib.hid (Ii.out.below hb (Nat.le_refl _))
  have D' := Lib.hid (D.out.below hb (Nat.le_refl _))
  have Ix' := Lib.hid (Ix.out.below hb (Nat.le_refl _))
  have Iu' := Lib.hid (Iu.out.below hb (Nat.le_refl _))
  have Iz' := Lib.hid (Iz.out.below hb (Nat.le_refl _))
  have Iq' := Lib.hid (Iq.out.below hb (Nat.le_refl _))
  have RR' := Lib.hid ((RR.out.below hb (Nat.le_refl _)).more hb.size)
  have Rp' := Lib.hid ((Rp.out.below hb (Nat.le_refl _)).more hb.size)
  have Rr' := Lib.hid ((Rr.out.below hb (Nat.le_refl _)).more hb.size)
  clear Rr Rp RR Iq Iz Iu Ix D Ii Ie NU Bw L hb
  have L := L'
  have Bw := Bw'
  have NU := NU'
  have Ie := Ie'
  have Ii := Ii'
  have D := D'
  have Ix := Ix'
  have Iu := Iu'
  have Iz := Iz'
  have Iq := Iq'
  have RR := RR'
  have Rp := Rp'
  have Rr := Rr'
  clear L' Bw' NU' Ie' Ii' D' Ix' Iu' Iz' Iq' RR' Rp' Rr'
  refine hK.out _ _ ⟨NU.out.c0, NU.out.c1⟩ (fun hHeld2 => ?_)
  clear hK K hHeld
  have hHeld := hHeld2
  clear hHeld2
  try simp only [Act.put, List.setIfInBounds_toArray, List.set_cons_zero, List.set_cons_succ]
  refine' take_ 112 rfl (by as_aux_lemma => kernel_rfl) (by as_aux_lemma => kernel_rfl) (by as_aux_lemma => kernel_rfl) (fun _ _ _ h => h) (by rfl) (fun wS hSw => ?_) hHeld ?_
  rotate_left
  focus (obtain ⟨k1, k2⟩ := hSw; go_simp; (try with_reducible rfl); done)
  try simp only [Act.put, List.setIfInBounds_toArray, List.set_cons_zero, List.set_cons_succ]
  refine' take_ 113 rfl (by as_aux_lemma => kernel_rfl) (by as_aux_lemma => kernel_rfl) (by as_aux_lemma => kernel_rfl) (fun _ _ _ h => h) (by rfl) (fun wS hSw => ?_) hHeld ?_
  rotate_left
  focus (obtain ⟨k1, k2⟩ := hSw; go_simp; (try with_reducible rfl); done)
  try simp only [Act.put, List.setIfInBounds_toArray, List.set_cons_zero, List.set_cons_succ]
  refine' take_ 114 rfl (by as_aux_lemma => kernel_rfl) (by as_aux_lemma => kernel_rfl) (by as_aux_lemma => kernel_rfl) (fun _ _ _ h => h) (by rfl) (fun wS hSw => ?_) hHeld ?_
  rotate_left
  focus (obtain ⟨k1, k2⟩ := hSw; go_simp; (try with_reducible rfl); done)
  try simp only [Act.put, List.setIfInBounds_toArray, List.set_cons_zero, List.set_cons_succ]
  refine' take_ 115 rfl (by as_aux_lemma => kernel_rfl) (by as_aux_lemma => kernel_rfl) (by as_aux_lemma => kernel_rfl) (fun _ _ _ h => h) (by rfl) (fun wS hSw => ?_) hHeld ?_
  rotate_left
  focus (obtain ⟨k1, k2⟩ := hSw; go_simp; (try with_reducible rfl); done)
  try simp only [Act.put, List.setIfInBounds_toArray, List.set_cons_zero, List.set_cons_succ]
  refine' take_ 116 rfl (by as_aux_lemma => kernel_rfl) (by as_aux_lemma => kernel_rfl) (by as_aux_lemma => kernel_rfl) (fun _ _ _ h => h) (by rfl) (fun wS hSw => ?_) hHeld ?_
  rotate_left
  focus (obtain ⟨k1, k2⟩ := hSw; go_simp; (try with_reducible rfl); done)
  try simp only [Act.put, List.setIfInBounds_toArray, List.set_cons_zero, List.set_cons_succ]
  refine' take_ 117 rfl (by as_aux_lemma => kernel_rfl) (by as_aux_lemma => kernel_rfl) (by as_aux_lemma => kernel_rfl) (fun _ _ _ h => h) (by rfl) (fun wS hSw => ?_) hHeld ?_
  rotate_left
  focus (obtain ⟨k1, k2⟩ := hSw; go_simp; (try with_reducible rfl); done)
  try simp only [Act.put, List.setIfInBounds_toArray, List.set_cons_zero, List.set_cons_succ]
  refine' take_ 118 rfl (by as_aux_lemma => kernel_rfl) (by as_aux_lemma => kernel_rfl) (by as_aux_lemma => kernel_rfl) (fun _ _ _ h => h) (by rfl) (fun wS hSw => ?_) hHeld ?_
  rotate_left
  focus (obtain ⟨k1, k2⟩ := hSw; go_simp; (try with_reducible rfl); done)
  try simp only [Act.put, List.setIfInBounds_toArray, List.set_cons_zero, List.set_cons_succ]
  refine' take_ 119 rfl (by as_aux_lemma => kernel_rfl) (by as_aux_lemma => kernel_rfl) (by as_aux_lemma => kernel_rfl) (fun _ _ _ h => h) (by rfl) (fun wS hSw => ?_) hHeld ?_
  rotate_left
  focus (obtain ⟨k1, k2⟩ := hSw; go_simp; (try with_reducible rfl); done)
  try simp only [Act.put, List.setIfInBounds_toArray, List.set_cons_zero, List.set_cons_succ]
  refine' take_ 121 rfl (by as_aux_lemma => kernel_rfl) (by as_aux_lemma => kernel_rfl) (by as_aux_lemma => kernel_rfl) (fun _ _ _ h => h) (by rfl) (fun wS hSw => ?_) hHeld ?_
  rotate_left
  focus (obtain ⟨k1, k2⟩ := hSw; go_simp; (try with_reducible rfl); done)
  try simp only [Act.put, List.setIfInBounds_toArray, List.set_cons_zero, List.set_cons_succ]
  refine only_ 120 rfl (by as_aux_lemma => kernel_rfl) (by rfl) (fun K hK => ?_)
  go_simp
  refine (Err_any bu { data := #[3, 97, 98, 99] } 0 (some (4, 0)) _ Iu.out).mono ?_
  rintro e w33 ⟨v33, rfl, he, hb⟩
  have L' := Lib.hid (L.out.below hb L.out.lt)
  have Bw' := Lib.hid (Bw.out.trans (hb.mono Bw.out.size))
  have NU' := Lib.hid (NU.out.below hb (Nat.le_refl _))
  have Ie' := Lib.hid (Ie.out.below hb (Nat.le_refl _))
  have Ii' := Lib.hid (Ii.out.below hb (Nat.le_refl _))
  have D' := Lib.hid (D.out.below hb (Nat.le_refl _))
  have Ix' := Lib.hid (Ix.out.below hb (Nat.le_refl _))
  have Iu' := Lib.hid (Iu.out.below hb (Nat.le_refl _))
  have Iz' := Lib.hid (Iz.out.below hb (Nat.le_refl _))
  have Iq' := Lib.hid (Iq.out.below hb (Nat.le_refl _))
  have RR' := Lib.hid ((RR.out.below hb (Nat.le_refl _)).more hb.size)
  have Rp' := Lib.hid ((Rp.out.below hb (Nat.le_refl _)).more hb.size)
  have Rr' := Lib.hid ((Rr.out.below hb (Nat.le_refl _)).more hb.size)
  clear Rr Rp RR Iq Iz Iu Ix D Ii Ie NU Bw L hb
  have L := L'
  have Bw := Bw'
  have NU := NU'
  have Ie := Ie'
  have Ii := Ii'
  have D := D'
  have Ix := Ix'
  have Iu := Iu'
  have Iz := Iz'
  have Iq := Iq'
  have RR := RR'
  have Rp := Rp'
  have Rr := Rr'
  clear L' Bw' NU' Ie' Ii' D' Ix' Iu' Iz' Iq' RR' Rp' Rr'
  have E := Lib.hid he
  clear he
  refine hK.out _ _ ⟨NU.out.c0, NU.out.c1⟩ (fun hHeld2 => ?_)
  clear hK K hHeld
  have hHeld := hHeld2
  clear hHeld2
  try simp only [Act.put, List.setIfInBounds_toArray, List.set_cons_zero, List.set_cons_succ]
  refine only_ 122 rfl (by as_aux_lemma => kernel_rfl) (by rfl) (fun K hK => ?_)
  go_simp
  refine (fault_of v33 (some (4, 0)) _ _ L.out E.out (by intro c' a' h; injection h with h; injection h with h _; omega)).mono ?_
  rintro e w34 ⟨rfl, hb⟩
  clear E
  have L' := Lib.hid (L.out.below hb L.out.lt)
  have Bw' := Lib.hid (Bw.out.trans (hb.mono Bw.out.size))
  have NU' := Lib.hid (NU.out.below hb (Nat.le_refl _))
  have Ie' := Lib.hid (Ie.out.below hb (Nat.le_refl _))
  have Ii' := Lib.hid (Ii.out.below hb (Nat.le_refl _))
  have D' := Lib.hid (D.out.below hb (Nat.le_refl _))
  have Ix' := Lib.hid (Ix.out.below hb (Nat.le_refl _))
  have Iu' := Lib.hid (Iu.out.below hb (Nat.le_refl _))
  have Iz' := Lib.hid (Iz.out.below hb (Nat.le_refl _))
  have Iq' := Lib.hid (Iq.out.below hb (Nat.le_refl _))
  have RR' := Lib.hid ((RR.out.below hb (Nat.le_refl _)).more hb.size)
  have Rp' := Lib.hid ((Rp.out.below hb (Nat.le_refl _)).more hb.size)
  have Rr' := Lib.hid ((Rr.out.below hb (Nat.le_refl _)).more hb.size)
  clear Rr Rp RR Iq Iz Iu Ix D Ii Ie NU Bw L hb
  have L := L'
  have Bw := Bw'
  have NU := NU'
  have Ie := Ie'
  have Ii := Ii'
  have D := D'
  have Ix := Ix'
  have Iu := Iu'
  have Iz := Iz'
  have Iq := Iq'
  have RR := RR'
  have Rp := Rp'
  have Rr := Rr'
  clear L' Bw' NU' Ie' Ii' D' Ix' Iu' Iz' Iq' RR' Rp' Rr'
  refine hK.out _ _ ⟨NU.out.c0, NU.out.c1⟩ (fun hHeld2 => ?_)
  clear hK K hHeld
  have hHeld := hHeld2
  clear hHeld2
  try simp only [Act.put, List.setIfInBounds_toArray, List.set_cons_zero, List.set_cons_succ]
  refine' take_ 123 rfl (by as_aux_lemma => kernel_rfl) (by as_aux_lemma => kernel_rfl) (by as_aux_lemma => kernel_rfl) (fun _ _ _ h => h) (by rfl) (fun wS hSw => ?_) hHeld ?_
  rotate_left
  focus (obtain ⟨k1, k2⟩ := hSw; go_simp; (try with_reducible rfl); done)
  try simp only [Act.put, List.setIfInBounds_toArray, List.set_cons_zero, List.set_cons_succ]
  refine' take_ 124 rfl (by as_aux_lemma => kernel_rfl) (by as_aux_lemma => kernel_rfl) (by as_aux_lemma => kernel_rfl) (fun _ _ _ h => h) (by rfl) (fun wS hSw => ?_) hHeld ?_
  rotate_left
  focus (obtain ⟨k1, k2⟩ := hSw; go_simp; (try with_reducible rfl); done)
  try simp only [Act.put, List.setIfInBounds_toArray, List.set_cons_zero, List.set_cons_succ]
  refine' take_ 125 rfl (by as_aux_lemma => kernel_rfl) (by as_aux_lemma => kernel_rfl) (by as_aux_lemma => kernel_rfl) (fun _ _ _ h => h) (by rfl) (fun wS hSw => ?_) hHeld ?_
  rotate_left
  focus (obtain ⟨k1, k2⟩ := hSw; go_simp; (try with_reducible rfl); done)
  try simp only [Act.put, List.setIfInBounds_toArray, List.set_cons_zero, List.set_cons_succ]
  refine' take_ 126 rfl (by as_aux_lemma => kernel_rfl) (by as_aux_lemma => kernel_rfl) (by as_aux_lemma => kernel_rfl) (fun _ _ _ h => h) (by rfl) (fun wS hSw => ?_) hHeld ?_
  rotate_left
  focus (obtain ⟨k1, k2⟩ := hSw; go_simp; (try with_reducible rfl); done)
  try simp only [Act.put, List.setIfInBounds_toArray, List.set_cons_zero, List.set_cons_succ]
  refine' take_ 127 rfl (by as_aux_lemma => kernel_rfl) (by as_aux_lemma => kernel_rfl) (by as_aux_lemma => kernel_rfl) (fun _ _ _ h => h) (by rfl) (fun wS hSw => ?_) hHeld ?_
  rotate_left
  focus (obtain ⟨k1, k2⟩ := hSw; go_simp; (try with_reducible rfl); done)
  try simp only [Act.put, List.setIfInBounds_toArray, List.set_cons_zero, List.set_cons_succ]
  refine' take_ 128 rfl (by as_aux_lemma => kernel_rfl) (by as_aux_lemma => kernel_rfl) (by as_aux_lemma => kernel_rfl) (fun _ _ _ h => h) (by rfl) (fun wS hSw => ?_) hHeld ?_
  rotate_left
  focus (obtain ⟨k1, k2⟩ := hSw; go_simp; (try with_reducible rfl); done)
  try simp only [Act.put, List.setIfInBounds_toArray, List.set_cons_zero, List.set_cons_succ]
  refine' take_ 129 rfl (by as_aux_lemma => kernel_rfl) (by as_aux_lemma => kernel_rfl) (by as_aux_lemma => kernel_rfl) (fun _ _ _ h => h) (by rfl) (fun wS hSw => ?_) hHeld ?_
  rotate_left
  focus (obtain ⟨k1, k2⟩ := hSw; go_simp; (try with_reducible rfl); done)
  try simp only [Act.put, List.setIfInBounds_toArray, List.set_cons_zero, List.set_cons_succ]
  refine' take_ 131 rfl (by as_aux_lemma => kernel_rfl) (by as_aux_lemma => kernel_rfl) (by as_aux_lemma => kernel_rfl) (fun _ _ _ h => h) (by rfl) (fun wS hSw => ?_) hHeld ?_
  rotate_left
  focus (obtain ⟨k1, k2⟩ := hSw; go_simp; (try with_reducible rfl); done)
  try simp only [Act.put, List.setIfInBounds_toArray, List.set_cons_zero, List.set_cons_succ]
  refine only_ 130 rfl (by as_aux_lemma => kernel_rfl) (by rfl) (fun K hK => ?_)
  go_simp
  refine (Err_any bz { data := #[5, 97, 98, 99] } 0 (some (3, 0)) _ Iz.out).mono ?_
  rintro e w35 ⟨v35, rfl, he, hb⟩
  have L' := Lib.hid (L.out.below hb L.out.lt)
  have Bw' := Lib.hid (Bw.out.trans (hb.mono Bw.out.size))
  have NU' := Lib.hid (NU.out.below hb (Nat.le_refl _))
  have Ie' := Lib.hid (Ie.out.below hb (Nat.le_refl _))
  have Ii' := Lib.hid (Ii.out.below hb (Nat.le_refl _))
  have D' := Lib.hid (D.out.below hb (Nat.le_refl _))
  have Ix' := Lib.hid (Ix.out.below hb (Nat.le_refl _))
  have Iu' := Lib.hid (Iu.out.below hb (Nat.le_refl _))
  have Iz' := Lib.hid (Iz.out.below hb (Nat.le_refl _))
  have Iq' := Lib.hid (Iq.out.below hb (Nat.le_refl _))
  have RR' := Lib.hid ((RR.out.below hb (Nat.le_refl _)).more hb.size)
  have Rp' := Lib.hid ((Rp.out.below hb (Nat.le_refl _)).more hb.size)
  have Rr' := Lib.hid ((Rr.out.below hb (Nat.le_refl _)).more hb.size)
  clear Rr Rp RR Iq Iz Iu Ix D Ii Ie NU Bw L hb
  have L := L'
  have Bw := Bw'
  have NU := NU'
  have Ie := Ie'
  have Ii := Ii'
  have D := D'
  have Ix := Ix'
  have Iu := Iu'
  have Iz := Iz'
  have Iq := Iq'
  have RR := RR'
  have Rp := Rp'
  have Rr := Rr'
  clear L' Bw' NU' Ie' Ii' D' Ix' Iu' Iz' Iq' RR' Rp' Rr'
  have E := Lib.hid he
  clear he
  refine hK.out _ _ ⟨NU.out.c0, NU.out.c1⟩ (fun hHeld2 => ?_)
  clear hK K hHeld
  have hHeld := hHeld2
  clear hHeld2
  try simp only [Act.put, List.setIfInBounds_toArray, List.set_cons_zero, List.set_cons_succ]
  refine only_ 132 rfl (by as_aux_lemma => kernel_rfl) (by rfl) (fun K hK => ?_)
  go_simp
  refine (fault_of v35 (some (3, 0)) _ _ L.out E.out (by intro c' a' h; injection h with h; injection h with h _; omega)).mono ?_
  rintro e w36 ⟨rfl, hb⟩
  clear E
  have L' := Lib.hid (L.out.below hb L.out.lt)
  have Bw' := Lib.hid (Bw.out.trans (hb.mono Bw.out.size))
  have NU' := Lib.hid (NU.out.below hb (Nat.le_refl _))
  have Ie' := Lib.hid (Ie.out.below hb (Nat.le_refl _))
  have Ii' := Lib.hid (Ii.out.below hb (Nat.le_refl _))
  have D' := Lib.hid (D.out.below hb (Nat.le_refl _))
  have Ix' := Lib.hid (Ix.out.below hb (Nat.le_refl _))
  have Iu' := Lib.hid (Iu.out.below hb (Nat.le_refl _))
  have Iz' := Lib.hid (Iz.out.below hb (Nat.le_refl _))
  have Iq' := Lib.hid (Iq.out.below hb (Nat.le_refl _))
  have RR' := Lib.hid ((RR.out.below hb (Nat.le_refl _)).more hb.size)
  have Rp' := Lib.hid ((Rp.out.below hb (Nat.le_refl _)).more hb.size)
  have Rr' := Lib.hid ((Rr.out.below hb (Nat.le_refl _)).more hb.size)
  clear Rr Rp RR Iq Iz Iu Ix D Ii Ie NU Bw L hb
  have L := L'
  have Bw := Bw'
  have NU := NU'
  have Ie := Ie'
  have Ii := Ii'
  have D := D'
  have Ix := Ix'
  have Iu := Iu'
  have Iz := Iz'
  have Iq := Iq'
  have RR := RR'
  have Rp := Rp'
  have Rr := Rr'
  clear L' Bw' NU' Ie' Ii' D' Ix' Iu' Iz' Iq' RR' Rp' Rr'
  refine hK.out _ _ ⟨NU.out.c0, NU.out.c1⟩ (fun hHeld2 => ?_)
  clear hK K hHeld
  have hHeld := hHeld2
  clear hHeld2
  try simp only [Act.put, List.setIfInBounds_toArray, List.set_cons_zero, List.set_cons_succ]
  refine' take_ 133 rfl (by as_aux_lemma => kernel_rfl) (by as_aux_lemma => kernel_rfl) (by as_aux_lemma => kernel_rfl) (fun _ _ _ h => h) (by rfl) (fun wS hSw => ?_) hHeld ?_
  rotate_left
  focus (obtain ⟨k1, k2⟩ := hSw; go_simp; (try with_reducible rfl); done)
  try simp only [Act.put, List.setIfInBounds_toArray, List.set_cons_zero, List.set_cons_succ]
  refine' take_ 134 rfl (by as_aux_lemma => kernel_rfl) (by as_aux_lemma => kernel_rfl) (by as_aux_lemma => kernel_rfl) (fun _ _ _ h => h) (by rfl) (fun wS hSw => ?_) hHeld ?_
  rotate_left
  focus (obtain ⟨k1, k2⟩ := hSw; go_simp; (try with_reducible rfl); done)
  try simp only [Act.put, List.setIfInBounds_toArray, List.set_cons_zero, List.set_cons_succ]
  refine' take_ 135 rfl (by as_aux_lemma => kernel_rfl) (by as_aux_lemma => kernel_rfl) (by as_aux_lemma => kernel_rfl) (fun _ _ _ h => h) (by rfl) (fun wS hSw => ?_) hHeld ?_
  rotate_left
  focus (obtain ⟨k1, k2⟩ := hSw; go_simp; (try with_reducible rfl); done)
  try simp only [Act.put, List.setIfInBounds_toArray, List.set_cons_zero, List.set_cons_succ]
  refine' take_ 136 rfl (by as_aux_lemma => kernel_rfl) (by as_aux_lemma => kernel_rfl) (by as_aux_lemma => kernel_rfl) (fun _ _ _ h => h) (by rfl) (fun wS hSw => ?_) hHeld ?_
  rotate_left
  focus (obtain ⟨k1, k2⟩ := hSw; go_simp; (try with_reducible rfl); done)
  try simp only [Act.put, List.setIfInBounds_toArray, List.set_cons_zero, List.set_cons_succ]
  refine' take_ 137 rfl (by as_aux_lemma => kernel_rfl) (by as_aux_lemma => kernel_rfl) (by as_aux_lemma => kernel_rfl) (fun _ _ _ h => h) (by rfl) (fun wS hSw => ?_) hHeld ?_
  rotate_left
  focus (obtain ⟨k1, k2⟩ := hSw; go_simp; (try with_reducible rfl); done)
  try simp only [Act.put, List.setIfInBounds_toArray, List.set_cons_zero, List.set_cons_succ]
  refine' take_ 138 rfl (by as_aux_lemma => kernel_rfl) (by as_aux_lemma => kernel_rfl) (by as_aux_lemma => kernel_rfl) (fun _ _ _ h => h) (by rfl) (fun wS hSw => ?_) hHeld ?_
  rotate_left
  focus (obtain ⟨k1, k2⟩ := hSw; go_simp; (try with_reducible rfl); done)
  try simp only [Act.put, List.setIfInBounds_toArray, List.set_cons_zero, List.set_cons_succ]
  refine' take_ 139 rfl (by as_aux_lemma => kernel_rfl) (by as_aux_lemma => kernel_rfl) (by as_aux_lemma => kernel_rfl) (fun _ _ _ h => h) (by rfl) (fun wS hSw => ?_) hHeld ?_
  rotate_left
  focus (obtain ⟨k1, k2⟩ := hSw; go_simp; (try with_reducible rfl); done)
  try simp only [Act.put, List.setIfInBounds_toArray, List.set_cons_zero, List.set_cons_succ]
  refine' take_ 141 rfl (by as_aux_lemma => kernel_rfl) (by as_aux_lemma => kernel_rfl) (by as_aux_lemma => kernel_rfl) (fun _ _ _ h => h) (by rfl) (fun wS hSw => ?_) hHeld ?_
  rotate_left
  focus (obtain ⟨k1, k2⟩ := hSw; go_simp; (try with_reducible rfl); done)
  try simp only [Act.put, List.setIfInBounds_toArray, List.set_cons_zero, List.set_cons_succ]
  refine only_ 140 rfl (by as_aux_lemma => kernel_rfl) (by rfl) (fun K hK => ?_)
  go_simp
  refine (Err_any bq { data := #[64, 65] } 0 (some (4, 0)) _ Iq.out).mono ?_
  rintro e w37 ⟨v37, rfl, he, hb⟩
  have L' := Lib.hid (L.out.below hb L.out.lt)
  have Bw' := Lib.hid (Bw.out.trans (hb.mono Bw.out.size))
  have NU' := Lib.hid (NU.out.below hb (Nat.le_refl _))
  have Ie' := Lib.hid (Ie.out.below hb (Nat.le_refl _))
  have Ii' := Lib.hid (Ii.out.below hb (Nat.le_refl _))
  have D' := Lib.hid (D.out.below hb (Nat.le_refl _))
  have Ix' := Lib.hid (Ix.out.below hb (Nat.le_refl _))
  have Iu' := Lib.hid (Iu.out.below hb (Nat.le_refl _))
  have Iz' := Lib.hid (Iz.out.below hb (Nat.le_refl _))
  have Iq' := Lib.hid (Iq.out.below hb (Nat.le_refl _))
  have RR' := Lib.hid ((RR.out.below hb (Nat.le_refl _)).more hb.size)
  have Rp' := Lib.hid ((Rp.out.below hb (Nat.le_refl _)).more hb.size)
  have Rr' := Lib.hid ((Rr.out.below hb (Nat.le_refl _)).more hb.size)
  clear Rr Rp RR Iq Iz Iu Ix D Ii Ie NU Bw L hb
  have L := L'
  have Bw := Bw'
  have NU := NU'
  have Ie := Ie'
  have Ii := Ii'
  have D := D'
  have Ix := Ix'
  have Iu := Iu'
  have Iz := Iz'
  have Iq := Iq'
  have RR := RR'
  have Rp := Rp'
  have Rr := Rr'
  clear L' Bw' NU' Ie' Ii' D' Ix' Iu' Iz' Iq' RR' Rp' Rr'
  have E := Lib.hid he
  clear he
  refine hK.out _ _ ⟨NU.out.c0, NU.out.c1⟩ (fun hHeld2 => ?_)
  clear hK K hHeld
  have hHeld := hHeld2
  clear hHeld2
  try simp only [Act.put, List.setIfInBounds_toArray, List.set_cons_zero, List.set_cons_succ]
  refine only_ 142 rfl (by as_aux_lemma => kernel_rfl) (by rfl) (fun K hK => ?_)
  go_simp
  refine (fault_of v37 (some (4, 0)) _ _ L.out E.out (by intro c' a' h; injection h with h; injection h with h _; omega)).mono ?_
  rintro e w38 ⟨rfl, hb⟩
  clear E
  have L' := Lib.hid (L.out.below hb L.out.lt)
  have Bw' := Lib.hid (Bw.out.trans (hb.mono Bw.out.size))
  have NU' := Lib.hid (NU.out.below hb (Nat.le_refl _))
  have Ie' := Lib.hid (Ie.out.below hb (Nat.le_refl _))
  have Ii' := Lib.hid (Ii.out.below hb (Nat.le_refl _))
  have D' := Lib.hid (D.out.below hb (Nat.le_refl _))
  have Ix' := Lib.hid (Ix.out.below hb (Nat.le_refl _))
  have Iu' := Lib.hid (Iu.out.below hb (Nat.le_refl _))
  have Iz' := Lib.hid (Iz.out.below hb (Nat.le_refl _))
  have Iq' := Lib.hid (Iq.out.below hb (Nat.le_refl _))
  have RR' := Lib.hid ((RR.out.below hb (Nat.le_refl _)).more hb.size)
  have Rp' := Lib.hid ((Rp.out.below hb (Nat.le_refl _)).more hb.size)
  have Rr' := Lib.hid ((Rr.out.below hb (Nat.le_refl _)).more hb.size)
  clear Rr Rp RR Iq Iz Iu Ix D Ii Ie NU Bw L hb
  have L := L'
  have Bw := Bw'
  have NU := NU'
  have Ie := Ie'
  have Ii := Ii'
  have D := D'
  have Ix := Ix'
  have Iu := Iu'
  have Iz := Iz'
  have Iq := Iq'
  have RR := RR'
  have Rp := Rp'
  have Rr := Rr'
  clear L' Bw' NU' Ie' Ii' D' Ix' Iu' Iz' Iq' RR' Rp' Rr'
  have cv1 : (convert 43 9 (.slice Ap 2 cp)).run Tryd.prog w38 = .ok (.string { data := #[0, 1] }) w38 := conv_rd w38 _ Ap cp [0, 1] Rp.out (by decide)
  have cv2 : (convert 43 9 (.slice Ar 2 cr)).run Tryd.prog w38 = .ok (.string { data := #[0, 2] }) w38 := conv_rd w38 _ Ar cr [0, 2] Rr.out (by decide)
  refine hK.out _ _ ⟨NU.out.c0, NU.out.c1⟩ (fun hHeld2 => ?_)
  clear hK K hHeld
  have hHeld := hHeld2
  clear hHeld2
  try simp only [Act.put, List.setIfInBounds_toArray, List.set_cons_zero, List.set_cons_succ]
  refine' take_ 143 rfl (by as_aux_lemma => kernel_rfl) (by as_aux_lemma => kernel_rfl) (by as_aux_lemma => kernel_rfl) (fun _ _ _ h => h) (by rfl) (fun wS hSw => ?_) hHeld ?_
  rotate_left
  focus (obtain ⟨k1, k2⟩ := hSw; go_simp; (try with_reducible rfl); done)
  try simp only [Act.put, List.setIfInBounds_toArray, List.set_cons_zero, List.set_cons_succ]
  refine' take_ 144 rfl (by as_aux_lemma => kernel_rfl) (by as_aux_lemma => kernel_rfl) (by as_aux_lemma => kernel_rfl) (fun _ _ _ h => h) (by rfl) (fun wS hSw => ?_) hHeld ?_
  rotate_left
  focus (obtain ⟨k1, k2⟩ := hSw; go_simp; (try with_reducible rfl); done)
  try simp only [Act.put, List.setIfInBounds_toArray, List.set_cons_zero, List.set_cons_succ]
  refine' take_ 145 rfl (by as_aux_lemma => kernel_rfl) (by as_aux_lemma => kernel_rfl) (by as_aux_lemma => kernel_rfl) (fun _ _ _ h => h) (by rfl) (fun wS hSw => ?_) hHeld ?_
  rotate_left
  focus (obtain ⟨k1, k2⟩ := hSw; go_simp; (try with_reducible rfl); done)
  try simp only [Act.put, List.setIfInBounds_toArray, List.set_cons_zero, List.set_cons_succ]
  refine only_ 146 rfl (by as_aux_lemma => kernel_rfl) (by rfl) (fun K hK => ?_)
  go_simp
  refine hK.out _ _ ⟨NU.out.c0, NU.out.c1⟩ (fun hHeld2 => ?_)
  clear hK K hHeld
  have hHeld := hHeld2
  clear hHeld2
  try simp only [Act.put, List.setIfInBounds_toArray, List.set_cons_zero, List.set_cons_succ]
  refine' take_ 147 rfl (by as_aux_lemma => kernel_rfl) (by as_aux_lemma => kernel_rfl) (by as_aux_lemma => kernel_rfl) (fun _ _ _ h => h) (by rfl) (fun wS hSw => ?_) hHeld ?_
  rotate_left
  focus (obtain ⟨k1, k2⟩ := hSw; go_simp; (try with_reducible rfl); done)
  try simp only [Act.put, List.setIfInBounds_toArray, List.set_cons_zero, List.set_cons_succ]
  refine' take_ 148 rfl (by as_aux_lemma => kernel_rfl) (by as_aux_lemma => kernel_rfl) (by as_aux_lemma => kernel_rfl) (fun _ _ _ h => h) (by rfl) (fun wS hSw => ?_) hHeld ?_
  rotate_left
  focus (obtain ⟨k1, k2⟩ := hSw; go_simp; (try with_reducible rfl); done)
  try simp only [Act.put, List.setIfInBounds_toArray, List.set_cons_zero, List.set_cons_succ]
  refine' take_ 149 rfl (by as_aux_lemma => kernel_rfl) (by as_aux_lemma => kernel_rfl) (by as_aux_lemma => kernel_rfl) (fun _ _ _ h => h) (by rfl) (fun wS hSw => ?_) hHeld ?_
  rotate_left
  focus (obtain ⟨k1, k2⟩ := hSw; go_simp; (try with_reducible rfl); done)
  try simp only [Act.put, List.setIfInBounds_toArray, List.set_cons_zero, List.set_cons_succ]
  refine' take_ 150 rfl (by as_aux_lemma => kernel_rfl) (by as_aux_lemma => kernel_rfl) (by as_aux_lemma => kernel_rfl) (fun _ _ _ h => h) (by rfl) (fun wS hSw => ?_) hHeld ?_
  rotate_left
  focus (obtain ⟨k1, k2⟩ := hSw; go_simp; (try with_reducible rfl); done)
  try simp only [Act.put, List.setIfInBounds_toArray, List.set_cons_zero, List.set_cons_succ]
  refine only_ 151 rfl (by as_aux_lemma => kernel_rfl) (by rfl) (fun K hK => ?_)
  go_simp
  refine hK.out _ _ ⟨NU.out.c0, NU.out.c1⟩ (fun hHeld2 => ?_)
  clear hK K hHeld
  have hHeld := hHeld2
  clear hHeld2
  try simp only [Act.put, List.setIfInBounds_toArray, List.set_cons_zero, List.set_cons_succ]
  refine' take_ 152 rfl (by as_aux_lemma => kernel_rfl) (by as_aux_lemma => kernel_rfl) (by as_aux_lemma => kernel_rfl) (fun _ _ _ h => h) (by rfl) (fun wS hSw => ?_) hHeld ?_
  rotate_left
  focus (obtain ⟨k1, k2⟩ := hSw; go_simp; (try with_reducible rfl); done)
  try simp only [Act.put, List.setIfInBounds_toArray, List.set_cons_zero, List.set_cons_succ]
  refine' take_ 153 rfl (by as_aux_lemma => kernel_rfl) (by as_aux_lemma => kernel_rfl) (by as_aux_lemma => kernel_rfl) (fun _ _ _ h => h) (by rfl) (fun wS hSw => ?_) hHeld ?_
  rotate_left
  focus (obtain ⟨k1, k2⟩ := hSw; go_simp; (try with_reducible rfl); done)
  try simp only [Act.put, List.setIfInBounds_toArray, List.set_cons_zero, List.set_cons_succ]
  refine' take_ 154 rfl (by as_aux_lemma => kernel_rfl) (by as_aux_lemma => kernel_rfl) (by as_aux_lemma => kernel_rfl) (fun _ _ _ h => h) (by rfl) (fun wS hSw => ?_) hHeld ?_
  rotate_left
  focus (obtain ⟨k1, k2⟩ := hSw; go_simp; (try with_reducible rfl); done)
  try simp only [Act.put, List.setIfInBounds_toArray, List.set_cons_zero, List.set_cons_succ]
  refine only_ 155 rfl (by as_aux_lemma => kernel_rfl) (by rfl) (fun K hK => ?_)
  go_simp
  refine (P_any none 0 0 [] 4611686018427387904 (by decide) _ L.out rfl (Nat.le_refl _) (RdB.nil_ _ _) (Nat.zero_le _)).mono ?_
  rintro e w39 ⟨vv39, rfl, ho, hb⟩
  have hcv := conv_own _ _ vv39 _ ho (lt_append (fun x hx => by cases hx) (numB_lt _))
  rw [show ofB ([] ++ numB 4611686018427387904) = { data := #[0] } from by rfl] at hcv
  clear ho
  have L' := Lib.hid (L.out.below hb L.out.lt)
  have Bw' := Lib.hid (Bw.out.trans (hb.mono Bw.out.size))
  have NU' := Lib.hid (NU.out.below hb (Nat.le_refl _))
  have D' := Lib.hid (D.out.below hb (Nat.le_refl _))
  clear D NU Bw L hb
  have L := L'
  have Bw := Bw'
  have NU := NU'
  have D := D'
  clear L' Bw' NU' D'
  refine hK.out _ _ ⟨NU.out.c0, NU.out.c1⟩ (fun hHeld2 => ?_)
  clear hK K hHeld
  have hHeld := hHeld2
  clear hHeld2
  try simp only [Act.put, List.setIfInBounds_toArray, List.set_cons_zero, List.set_cons_succ]
  refine only_ 156 rfl (by as_aux_lemma => kernel_rfl) (by rfl) (fun K hK => ?_)
  go_simp
  refine hK.out _ _ ⟨NU.out.c0, NU.out.c1⟩ (fun hHeld2 => ?_)
  clear hK K hHeld
  have hHeld := hHeld2
  clear hHeld2
  try simp only [Act.put, List.setIfInBounds_toArray, List.set_cons_zero, List.set_cons_succ]
  refine' take_ 157 rfl (by as_aux_lemma => kernel_rfl) (by as_aux_lemma => kernel_rfl) (by as_aux_lemma => kernel_rfl) (fun _ _ _ h => h) (by rfl) (fun wS hSw => ?_) hHeld ?_
  rotate_left
  focus (obtain ⟨k1, k2⟩ := hSw; go_simp; (try with_reducible rfl); done)
  try simp only [Act.put, List.setIfInBounds_toArray, List.set_cons_zero, List.set_cons_succ]
  refine' take_ 158 rfl (by as_aux_lemma => kernel_rfl) (by as_aux_lemma => kernel_rfl) (by as_aux_lemma => kernel_rfl) (fun _ _ _ h => h) (by rfl) (fun wS hSw => ?_) hHeld ?_
  rotate_left
  focus (obtain ⟨k1, k2⟩ := hSw; go_simp; (try with_reducible rfl); done)
  try simp only [Act.put, List.setIfInBounds_toArray, List.set_cons_zero, List.set_cons_succ]
  refine' take_ 159 rfl (by as_aux_lemma => kernel_rfl) (by as_aux_lemma => kernel_rfl) (by as_aux_lemma => kernel_rfl) (fun _ _ _ h => h) (by rfl) (fun wS hSw => ?_) hHeld ?_
  rotate_left
  focus (obtain ⟨k1, k2⟩ := hSw; go_simp; (try with_reducible rfl); done)
  try simp only [Act.put, List.setIfInBounds_toArray, List.set_cons_zero, List.set_cons_succ]
  refine only_ 160 rfl (by as_aux_lemma => kernel_rfl) (by rfl) (fun K hK => ?_)
  go_simp
  clear hcv
  refine (P_any none 0 0 [] 4611686018427387903 (by decide) _ L.out rfl (Nat.le_refl _) (RdB.nil_ _ _) (Nat.zero_le _)).mono ?_
  rintro e w40 ⟨vv40, rfl, ho, hb⟩
  have hcv := conv_own _ _ vv40 _ ho (lt_append (fun x hx => by cases hx) (numB_lt _))
  rw [show ofB ([] ++ numB 4611686018427387903) = { data := #[255, 255, 255, 255, 255, 255, 255, 255] } from by rfl] at hcv
  clear ho
  have L' := Lib.hid (L.out.below hb L.out.lt)
  have Bw' := Lib.hid (Bw.out.trans (hb.mono Bw.out.size))
  have NU' := Lib.hid (NU.out.below hb (Nat.le_refl _))
  have D' := Lib.hid (D.out.below hb (Nat.le_refl _))
  clear D NU Bw L hb
  have L := L'
  have Bw := Bw'
  have NU := NU'
  have D := D'
  clear L' Bw' NU' D'
  refine hK.out _ _ ⟨NU.out.c0, NU.out.c1⟩ (fun hHeld2 => ?_)
  clear hK K hHeld
  have hHeld := hHeld2
  clear hHeld2
  try simp only [Act.put, List.setIfInBounds_toArray, List.set_cons_zero, List.set_cons_succ]
  refine only_ 161 rfl (by as_aux_lemma => kernel_rfl) (by rfl) (fun K hK => ?_)
  go_simp
  refine hK.out _ _ ⟨NU.out.c0, NU.out.c1⟩ (fun hHeld2 => ?_)
  clear hK K hHeld
  have hHeld := hHeld2
  clear hHeld2
  try simp only [Act.put, List.setIfInBounds_toArray, List.set_cons_zero, List.set_cons_succ]
  refine' take_ 162 rfl (by as_aux_lemma => kernel_rfl) (by as_aux_lemma => kernel_rfl) (by as_aux_lemma => kernel_rfl) (fun _ _ _ h => h) (by rfl) (fun wS hSw => ?_) hHeld ?_
  rotate_left
  focus (obtain ⟨k1, k2⟩ := hSw; go_simp; (try with_reducible rfl); done)
  try simp only [Act.put, List.setIfInBounds_toArray, List.set_cons_zero, List.set_cons_succ]
  refine' take_ 163 rfl (by as_aux_lemma => kernel_rfl) (by as_aux_lemma => kernel_rfl) (by as_aux_lemma => kernel_rfl) (fun _ _ _ h => h) (by rfl) (fun wS hSw => ?_) hHeld ?_
  rotate_left
  focus (obtain ⟨k1, k2⟩ := hSw; go_simp; (try with_reducible rfl); done)
  try simp only [Act.put, List.setIfInBounds_toArray, List.set_cons_zero, List.set_cons_succ]
  refine' take_ 164 rfl (by as_aux_lemma => kernel_rfl) (by as_aux_lemma => kernel_rfl) (by as_aux_lemma => kernel_rfl) (fun _ _ _ h => h) (by rfl) (fun wS hSw => ?_) hHeld ?_
  rotate_left
  focus (obtain ⟨k1, k2⟩ := hSw; go_simp; (try with_reducible rfl); done)
  try simp only [Act.put, List.setIfInBounds_toArray, List.set_cons_zero, List.set_cons_succ]
  refine only_ 165 rfl (by as_aux_lemma => kernel_rfl) (by rfl) (fun K hK => ?_)
  go_simp
  clear hcv
  refine (PT_any none 0 0 [] true _ rfl (Nat.le_refl _) (RdB.nil_ _ _) (Nat.zero_le _)).mono ?_
  rintro e w41 ⟨vv41, rfl, ho, hb⟩
  have hcv := conv_own _ _ vv41 _ ho (by decide)
  rw [show ofB ([] ++ truB true) = { data := #[1] } from rfl] at hcv
  clear ho
  have L' := Lib.hid (L.out.below hb L.out.lt)
  have Bw' := Lib.hid (Bw.out.trans (hb.mono Bw.out.size))
  have NU' := Lib.hid (NU.out.below hb (Nat.le_refl _))
  have D' := Lib.hid (D.out.below hb (Nat.le_refl _))
  clear D NU Bw L hb
  have L := L'
  have Bw := Bw'
  have NU := NU'
  have D := D'
  clear L' Bw' NU' D'
  refine hK.out _ _ ⟨NU.out.c0, NU.out.c1⟩ (fun hHeld2 => ?_)
  clear hK K hHeld
  have hHeld := hHeld2
  clear hHeld2
  try simp only [Act.put, List.setIfInBounds_toArray, List.set_cons_zero, List.set_cons_succ]
  refine only_ 166 rfl (by as_aux_lemma => kernel_rfl) (by rfl) (fun K hK => ?_)
  go_simp
  refine hK.out _ _ ⟨NU.out.c0, NU.out.c1⟩ (fun hHeld2 => ?_)
  clear hK K hHeld
  have hHeld := hHeld2
  clear hHeld2
  try simp only [Act.put, List.setIfInBounds_toArray, List.set_cons_zero, List.set_cons_succ]
  refine' take_ 167 rfl (by as_aux_lemma => kernel_rfl) (by as_aux_lemma => kernel_rfl) (by as_aux_lemma => kernel_rfl) (fun _ _ _ h => h) (by rfl) (fun wS hSw => ?_) hHeld ?_
  rotate_left
  focus (obtain ⟨k1, k2⟩ := hSw; go_simp; (try with_reducible rfl); done)
  try simp only [Act.put, List.setIfInBounds_toArray, List.set_cons_zero, List.set_cons_succ]
  refine' take_ 168 rfl (by as_aux_lemma => kernel_rfl) (by as_aux_lemma => kernel_rfl) (by as_aux_lemma => kernel_rfl) (fun _ _ _ h => h) (by rfl) (fun wS hSw => ?_) hHeld ?_
  rotate_left
  focus (obtain ⟨k1, k2⟩ := hSw; go_simp; (try with_reducible rfl); done)
  try simp only [Act.put, List.setIfInBounds_toArray, List.set_cons_zero, List.set_cons_succ]
  refine' take_ 169 rfl (by as_aux_lemma => kernel_rfl) (by as_aux_lemma => kernel_rfl) (by as_aux_lemma => kernel_rfl) (fun _ _ _ h => h) (by rfl) (fun wS hSw => ?_) hHeld ?_
  rotate_left
  focus (obtain ⟨k1, k2⟩ := hSw; go_simp; (try with_reducible rfl); done)
  try simp only [Act.put, List.setIfInBounds_toArray, List.set_cons_zero, List.set_cons_succ]
  refine' take_ 172 rfl (by as_aux_lemma => kernel_rfl) (by as_aux_lemma => kernel_rfl) (by as_aux_lemma => kernel_rfl) (fun _ _ _ h => h) (by rfl) (fun wS hSw => ?_) hHeld ?_
  rotate_left
  focus (obtain ⟨k1, k2⟩ := hSw; go_simp; (try with_reducible rfl); done)
  try simp only [Act.put, List.setIfInBounds_toArray, List.set_cons_zero, List.set_cons_succ]
  refine only_ 170 rfl (by as_aux_lemma => kernel_rfl) (by rfl) (fun K hK => ?_)
  go_simp
  clear hcv
  refine (New_abs { data := #[120] } _).mono ?_
  rintro e w42 ⟨bl, rfl, hi, hge, hb⟩
  clear hge
  have L' := Lib.hid (L.out.below hb L.out.lt)
  have Bw' := Lib.hid (Bw.out.trans (hb.mono Bw.out.size))
  have NU' := Lib.hid (NU.out.below hb (Nat.le_refl _))
  have D' := Lib.hid (D.out.below hb (Nat.le_refl _))
  clear D NU Bw L hb
  have L := L'
  have Bw := Bw'
  have NU := NU'
  have D := D'
  clear L' Bw' NU' D'
  have Il := Lib.hid hi
  clear hi
  refine hK.out _ _ ⟨NU.out.c0, NU.out.c1⟩ (fun hHeld2 => ?_)
  clear hK K hHeld
  have hHeld := hHeld2
  clear hHeld2
  try simp only [Act.put, List.setIfInBounds_toArray, List.set_cons_zero, List.set_cons_succ]
  refine only_ 171 rfl (by as_aux_lemma => kernel_rfl) (by rfl) (fun K hK => ?_)
  go_simp
  refine (End_k bl { data := #[120] } 0 none _ Il.out (some (4, 0)) (by rfl) (by decide) (by decide)).mono ?_
  rintro e w43 ⟨v43, rfl, he, hb⟩
  have L' := Lib.hid (L.out.below hb L.out.lt)
  have Bw' := Lib.hid (Bw.out.trans (hb.mono Bw.out.size))
  have NU' := Lib.hid (NU.out.below hb (Nat.le_refl _))
  have D' := Lib.hid (D.out.below hb (Nat.le_refl _))
  have Il' := Lib.hid (Il.out.below hb (Nat.le_refl _))
  clear Il D NU Bw L hb
  have L := L'
  have Bw := Bw'
  have NU := NU'
  have D := D'
  have Il := Il'
  clear L' Bw' NU' D' Il'
  have E := Lib.hid he
  clear he
  refine hK.out _ _ ⟨NU.out.c0, NU.out.c1⟩ (fun hHeld2 => ?_)
  clear hK K hHeld
  have hHeld := hHeld2
  clear hHeld2
  try simp only [Act.put, List.setIfInBounds_toArray, List.set_cons_zero, List.set_cons_succ]
  refine only_ 173 rfl (by as_aux_lemma => kernel_rfl) (by rfl) (fun K hK => ?_)
  go_simp
  refine (fault_of v43 (some (4, 0)) _ _ L.out E.out (by intro c' a' h; injection h with h; injection h with h _; omega)).mono ?_
  rintro e w44 ⟨rfl, hb⟩
  clear E
  have L' := Lib.hid (L.out.below hb L.out.lt)
  have Bw' := Lib.hid (Bw.out.trans (hb.mono Bw.out.size))
  have NU' := Lib.hid (NU.out.below hb (Nat.le_refl _))
  have D' := Lib.hid (D.out.below hb (Nat.le_refl _))
  have Il' := Lib.hid (Il.out.below hb (Nat.le_refl _))
  clear Il D NU Bw L hb
  have L := L'
  have Bw := Bw'
  have NU := NU'
  have D := D'
  have Il := Il'
  clear L' Bw' NU' D' Il'
  refine hK.out _ _ ⟨NU.out.c0, NU.out.c1⟩ (fun hHeld2 => ?_)
  clear hK K hHeld
  have hHeld := hHeld2
  clear hHeld2
  try simp only [Act.put, List.setIfInBounds_toArray, List.set_cons_zero, List.set_cons_succ]
  refine' take_ 174 rfl (by as_aux_lemma => kernel_rfl) (by as_aux_lemma => kernel_rfl) (by as_aux_lemma => kernel_rfl) (fun _ _ _ h => h) (by rfl) (fun wS hSw => ?_) hHeld ?_
  rotate_left
  focus (obtain ⟨k1, k2⟩ := hSw; go_simp; (try with_reducible rfl); done)
  try simp only [Act.put, List.setIfInBounds_toArray, List.set_cons_zero, List.set_cons_succ]
  refine' take_ 175 rfl (by as_aux_lemma => kernel_rfl) (by as_aux_lemma => kernel_rfl) (by as_aux_lemma => kernel_rfl) (fun _ _ _ h => h) (by rfl) (fun wS hSw => ?_) hHeld ?_
  rotate_left
  focus (obtain ⟨k1, k2⟩ := hSw; go_simp; (try with_reducible rfl); done)
  try simp only [Act.put, List.setIfInBounds_toArray, List.set_cons_zero]
  refine wpAnyH_done (by as_aux_lemma => kernel_rfl) ?_ _
  refine NoPanic.normal ?_
  go_wp2
  go_ret
  exact ⟨rfl, Bw.out⟩
end Go.Proofs.YtmmdkoomceikiaaDoor
