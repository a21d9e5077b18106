/-
  The law's own told and alike by contracts: the program's Lex and the document's own answer alike, of any text. Conditions: the listed variables hold what they hold; the text is shorter than 2^46 bytes.
-/
import Derived.Test.YtmebcenjghagoaaGreatDoorLexAny
import Derived.Test.YtmebcenjghagoaaGreatDoorSame
import Derived.Test.YtmebcenjghagoaaGreatDoorFault
namespace Go.Proofs.YtmebcenjghagoaaGreatDoor
open Go.RowKit

/-- 'told' of what Lex answered, asked of just that fault. -/
theorem told_of (v : Value) (f : Nat × Nat) (base : Nat) (w : World) (hL : LaidL w) (h : ErrL w base v f) :
    Calls Tryz.prog 20 #[v, .agg #[.int .i64 (f.1 : Int), .int .i64 (f.2 : Int)]] w fun e w' => e = .returned (.bool true) ∧ Below w.heap.size w w' := by
  rcases h with ⟨h0, rfl⟩ | ⟨hn, b, _, rfl, hr⟩
  · rw [h0]
    exact told_nil (f.2 : Int) w
  · exact told_hit b (f.1 : Int) (f.2 : Int) w hL (by simp; omega) (by rw [cell_of_row w b 0 _ _ _ hr]; rfl) (by rw [cell_of_row w b 1 _ _ _ hr]; rfl)
theorem ErrL.below {w w' : World} {base B : Nat} {v : Value} {f : Nat × Nat} (h : ErrL w base v f) (hb : Below B w w') (hB : w.heap.size ≤ B) : ErrL w' base v f := by
  rcases h with h | ⟨hn, b, h1, h2, h3⟩
  · exact Or.inl h
  · exact Or.inr ⟨hn, b, h1, h2, (hb.block b (by have := (Array.getElem?_eq_some_iff.1 h3).1; omega)).trans h3⟩
theorem lexA_len (s : ByteArray) (p : Nat) (acc : List Tk) : (lexA s p acc).1.length ≤ acc.length + (s.size - p) + 1 := by
  induction hn : s.size - p using Nat.strongRecOn generalizing p acc with
  | _ n ih =>
    subst hn
    by_cases hp : p < s.size
    · by_cases h2 : (oneT s p).2.1 = 0
      · rw [lexA_step s p acc hp h2]
        have h3 := oneT_ok s p hp h2
        have h4 := gap_ge s (p + (oneT s p).1.t.size)
        have := ih _ (by omega) (gap s (p + (oneT s p).1.t.size)) (acc ++ [(oneT s p).1]) rfl
        rw [List.length_append, List.length_singleton] at this
        omega
      · rw [lexA_bad s p acc hp h2]
        simp
    · rw [lexA_end s p acc hp, List.length_append, List.length_singleton]
      omega
theorem lexS_len (s : ByteArray) : (lexS s).1.length ≤ s.size + 1 := by
  unfold lexS
  split
  · simp
  · have := lexA_len s (gap s 0) []
    rw [List.length_nil] at this
    omega
set_option maxRecDepth 100000 in
set_option maxHeartbeats 1000000 in
theorem alike_any (s : ByteArray) (w : World) (hL : LaidL w) (hs : s.size ≤ 70368744177664) :
    Calls Tryz.prog 9 #[.string s] w fun e w' => e = .returned (.bool true) ∧ Below w.heap.size w w' := by
  have HC := Lib.hid (Lex_any s w hL hs)
  have HL := Lib.hid hL
  have HR := Lib.hid (fun w => rLex_any s w hs)
  have hlt := hL.lt
  have hln := lexS_len s
  have hsz := hs
  clear hL hs
  go_enter Tryz.func9, Tryz.ntmps9
  go_wp2_with fail
  refine HC.out.mono ?_
  rintro e w1 ⟨v, ev, rfl, ho, he, hb1⟩
  have HO := Lib.hid ho
  have HE := Lib.hid he
  have HB1 := Lib.hid hb1
  clear ho he hb1
  go_wp2_with fail
  refine (HR.out _).mono ?_
  rintro e w2 ⟨v2, rfl, ho2, hb2⟩
  unfold fltV
  obtain ⟨A1, c1, rfl⟩ := HO.out.form
  obtain ⟨A2, c2, rfl⟩ := ho2.form
  have HB2 := Lib.hid (HB1.out.trans (hb2.mono HB1.out.size))
  have HE2 := Lib.hid (HE.out.below hb2 (Nat.le_refl _))
  have HO1 := Lib.hid (HO.out.below hb2 (Nat.le_refl _))
  have HO2 := Lib.hid ho2
  clear ho2 hb2
  go_wp2_with fail
  have T1 := (HO1.out.alloc (.cells #[.int .i64 ((lexS s).2.1 : Int), .int .i64 ((lexS s).2.2 : Int)] 49)).at_.1
  have T2 := (HO2.out.alloc (.cells #[.int .i64 ((lexS s).2.1 : Int), .int .i64 ((lexS s).2.2 : Int)] 49)).at_.1
  refine (rSame_any _ _ _ _ _ (lexS s).1 _ T1 T2 rfl (by omega)).mono ?_
  rintro e w3 ⟨rfl, m, rfl⟩
  clear T1 T2
  have hB3 : Below w.heap.size w ((w2.alloc (.cells #[.int .i64 ((lexS s).2.1 : Int), .int .i64 ((lexS s).2.2 : Int)] 49)).drewN m) := below_drewN (HB2.out.alloc HB2.out.size _) m
  have hE3 : ErrL ((w2.alloc (.cells #[.int .i64 ((lexS s).2.1 : Int), .int .i64 ((lexS s).2.2 : Int)] 49)).drewN m) w.heap.size ev (lexS s).2 := HE2.out.below (below_drewN ((Below.refl _ _).alloc (Nat.le_refl _) _) m) (Nat.le_refl _)
  have HT := Lib.hid (told_of ev (lexS s).2 _ _ (HL.out.below hB3 hlt) hE3)
  have HB3 := Lib.hid hB3
  clear hB3 hE3
  go_wp2_with (go_at_call 20; go_must (refine HT.out.mono ?_; rintro e w4 ⟨rfl, hb4⟩; have HB4 := Lib.hid (HB3.out.trans (hb4.mono HB3.out.size)); clear hb4))
  go_ret
  exact ⟨rfl, HB4.out⟩
end Go.Proofs.YtmebcenjghagoaaGreatDoor
