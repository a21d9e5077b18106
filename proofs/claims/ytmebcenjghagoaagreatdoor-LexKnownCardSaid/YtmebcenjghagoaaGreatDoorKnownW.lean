/-
  LexKnown, its walk: the closed statement is true. Condition: the listed variables hold what they hold.
-/
import Derived.Test.YtmebcenjghagoaaGreatDoorKnownM
import Derived.Test.YtmebcenjghagoaaGreatDoorShelfB
namespace Go.Proofs.YtmebcenjghagoaaGreatDoor
open Go.RowKit
set_option maxRecDepth 100000 in
set_option maxHeartbeats 8000000 in
theorem known_any (w : World) (hL : LaidL w) : Calls Tryz.prog 6 #[] w fun e w' => e = .returned (.bool true) ∧ Below w.heap.size w w' := by
  have HL := Lib.hid hL
  have hlt := hL.lt
  clear hL
  have HB20 := Lib.hid (lex_blanks 20000 (Nat.le_refl _))
  have HZ20 := Lib.hid (blanks_size 20000)
  have HR := Lib.hid (fun w => Tryz.strings_Repeat ⟨#[32]⟩ 20000 w (by decide) (by decide))
  go_enter Tryz.func6, Tryz.ntmps6
  go_wp2_with fail
  refine (works_any _ HL.out).mono ?_
  rintro e w0 ⟨rfl, hb0⟩
  have B0 := Lib.hid hb0
  clear hb0
  go_wp2_with fail
  refine (HR.out _).mono ?_
  rintro e wa ⟨rfl, hba⟩
  have BA := Lib.hid (B0.out.trans (hba.mono B0.out.size))
  clear hba B0
  obtain ⟨S, hS⟩ : ∃ S : ByteArray, (⟨(Lib.repeatL (⟨#[32]⟩ : ByteArray).data.toList 20000).toArray⟩ : ByteArray) = S := ⟨_, rfl⟩
  rw [show blanks 20000 = S from hS] at HB20 HZ20
  rw [hS]
  clear hS
  have hsz : S.size ≤ 20000 := Nat.le_of_eq HZ20.out
  go_wp2_with fail
  refine (Lex_ok S _ HB20.out (by simp) 1 rfl w wa BA.out (HL.out.below BA.out hlt) (by omega)).mono ?_
  rintro e w1 ⟨g1, cap1, rfl, h1, _⟩
  have A1 := Lib.hid h1
  clear h1 BA
  go_wp2_with fail
  refine (Lex_ok _ T5 ex5_lex (by decide) 3 rfl w w1 A1.out.below A1.out.laid (by decide)).mono ?_
  rintro e w2 ⟨g2, cap2, rfl, h2, hb2⟩
  have A2 := Lib.hid h2
  have B1 := Lib.hid (A1.out.more hb2)
  clear h2 hb2 A1
  go_wp2_with fail
  refine (Lex_ok _ T6 ex6_lex (by decide) 12 rfl w w2 A2.out.below A2.out.laid (by decide)).mono ?_
  rintro e w3 ⟨g3, cap3, rfl, h3, hb3⟩
  have C1 := Lib.hid (B1.out.more hb3)
  have C2 := Lib.hid (A2.out.more hb3)
  have C3 := Lib.hid h3
  clear h3 hb3 A2 B1
  have d0 := C1.out.cells 0 _ rfl 1 _ rfl
  simp only [Nat.reduceMul, Nat.reduceAdd] at d0
  go_wp2_with fail
  refine (fails_any _ 4 20000 _ C3.out.laid (by rw [ByteArray.size_append]; show S.size + 1 ≤ _; omega) (lex_long _ (by rw [ByteArray.size_append, HZ20.out]; decide))).mono ?_
  rintro e w4 ⟨rfl, hb4⟩
  have D2 := Lib.hid (C2.out.more hb4)
  have D3 := Lib.hid (C3.out.more hb4)
  clear hb4 C1 C2 C3 d0
  have l2 := D2.out.lt
  have l3 := D3.out.lt
  have e0 := D2.out.cells 1 _ rfl 2 _ rfl
  have e1 := D2.out.cells 2 _ rfl 2 _ rfl
  have e2 := D3.out.cells 1 _ rfl 4 _ rfl
  have e3 := D3.out.cells 2 _ rfl 4 _ rfl
  have e4 := D3.out.cells 3 _ rfl 4 _ rfl
  simp only [Nat.reduceMul, Nat.reduceAdd] at e0 e1 e2 e3 e4
  go_wp2_with fail
  refine (texts_any (some ⟨g2, 0, none⟩) 3 cap2 w4.heap.size 3 T5 _ (D2.out.own.alloc _).at_.1 rfl (fun k x hx => want_at w4 _ T5 _ rfl k x hx _ rfl) (by decide)).mono ?_
  rintro e w5 ⟨rfl, m, rfl⟩
  go_wp2_with fail
  refine (texts_any (some ⟨g3, 0, none⟩) 12 cap3 (w4.heap.size + 1) 12 T6 _ ((D3.out.more (below_drewN ((Below.refl _ _).alloc (Nat.le_refl _) _) m)).own.alloc _).at_.1 rfl (fun k x hx => want_at _ _ T6 _ rfl k x hx _ (by show (w4.alloc _).heap.size = _; simp)) (by decide)).mono ?_
  rintro e w6 ⟨rfl, m2, rfl⟩
  have BX := Lib.hid (fun o1 o2 => below_drewN ((below_drewN (D3.out.below.alloc D3.out.below.size o1) m).alloc (below_drewN (D3.out.below.alloc D3.out.below.size o1) m).size o2) m2)
  go_wp2_with fail
  refine (fails_any _ 4 2 _ (HL.out.below (BX.out _ _) hlt) (by decide) fy0).mono ?_
  rintro e v0 ⟨rfl, hb0⟩
  have E0 := Lib.hid ((BX.out _ _).trans (hb0.mono (BX.out _ _).size))
  clear hb0 BX D2 D3 e0 e1 e2 e3 e4 l2 l3
  go_wp2_with fail
  refine (fails_any _ 10 0 _ (HL.out.below E0.out hlt) (by decide) fy1).mono ?_
  rintro e v1 ⟨rfl, hb1⟩
  have E1 := Lib.hid (E0.out.trans (hb1.mono E0.out.size))
  clear hb1 E0
  go_wp2_with fail
  refine (fails_any _ 10 0 _ (HL.out.below E1.out hlt) (by decide) fy2).mono ?_
  rintro e v2 ⟨rfl, hb2⟩
  have E2 := Lib.hid (E1.out.trans (hb2.mono E1.out.size))
  clear hb2 E1
  go_wp2_with fail
  refine (fails_any _ 10 0 _ (HL.out.below E2.out hlt) (by decide) fy3).mono ?_
  rintro e v3 ⟨rfl, hb3⟩
  have E3 := Lib.hid (E2.out.trans (hb3.mono E2.out.size))
  clear hb3 E2
  go_wp2_with fail
  refine (fails_any _ 7 2 _ (HL.out.below E3.out hlt) (by decide) fy4).mono ?_
  rintro e v4 ⟨rfl, hb4⟩
  have E4 := Lib.hid (E3.out.trans (hb4.mono E3.out.size))
  clear hb4 E3
  go_wp2_with fail
  refine (fails_any _ 7 3 _ (HL.out.below E4.out hlt) (by decide) fy5).mono ?_
  rintro e v5 ⟨rfl, hb5⟩
  have E5 := Lib.hid (E4.out.trans (hb5.mono E4.out.size))
  clear hb5 E4
  go_wp2_with fail
  refine (fails_any _ 7 1 _ (HL.out.below E5.out hlt) (by decide) fy6).mono ?_
  rintro e v6 ⟨rfl, hb6⟩
  have E6 := Lib.hid (E5.out.trans (hb6.mono E5.out.size))
  clear hb6 E5
  go_wp2_with fail
  refine (fails_any _ 7 0 _ (HL.out.below E6.out hlt) (by decide) fy7).mono ?_
  rintro e v7 ⟨rfl, hb7⟩
  have E7 := Lib.hid (E6.out.trans (hb7.mono E6.out.size))
  clear hb7 E6
  go_wp2_with fail
  refine (fails_any _ 7 2 _ (HL.out.below E7.out hlt) (by decide) fy8).mono ?_
  rintro e v8 ⟨rfl, hb8⟩
  have E8 := Lib.hid (E7.out.trans (hb8.mono E7.out.size))
  clear hb8 E7
  go_wp2_with fail
  refine (Line_any _ (-5) (by decide) _).mono ?_
  rw [ln0]
  rintro e w' ⟨rfl, rfl⟩
  go_wp2_with fail
  refine (Line_any _ (1) (by decide) _).mono ?_
  rw [ln1]
  rintro e w' ⟨rfl, rfl⟩
  go_wp2_with fail
  refine (Line_any _ (2) (by decide) _).mono ?_
  rw [ln2]
  rintro e w' ⟨rfl, rfl⟩
  go_wp2_with fail
  refine (Line_any _ (99) (by decide) _).mono ?_
  rw [ln3]
  rintro e w' ⟨rfl, rfl⟩
  go_wp2
  go_ret
  exact ⟨rfl, E8.out⟩
end Go.Proofs.YtmebcenjghagoaaGreatDoor
