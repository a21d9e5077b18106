/-
  The program's own lineEnd, lineEnds, Line by contracts (over the shelf's strings.IndexByte, strings.Count: the module that the shelf's one command lays at this dump under the alias).
-/
import Derived.Test.YtmebcenjghagoaaGreatDoorSpec
import Derived.Test.YtmebcenjghagoaaGreatDoorShelf
import Derived.IntWalk
import Derived.Lib.Hide
namespace Go.Proofs.YtmebcenjghagoaaGreatDoor
open Go.RowKit

theorem drop_cons (s : ByteArray) (p : Nat) (h : p < s.size) : s.data.toList.drop p = s[p] :: s.data.toList.drop (p + 1) := by
  rw [List.drop_eq_getElem_cons (by simpa using h)]
  rfl
theorem byte_beq (s : ByteArray) (p : Nat) (h : p < s.size) : (s[p] == (10 : UInt8)) = decide (bAt s p = 10) := by
  rw [← bAt_eq s p h]
  by_cases hb : s[p] = (10 : UInt8)
  · rw [hb]; rfl
  · have h2 : s[p].toNat ≠ 10 := fun hc => hb (UInt8.toNat_inj.1 hc)
    simp [hb, h2]
/-- Where the first line end lies, in the shelf's words. -/
theorem idx_endl (s : ByteArray) (p : Nat) (hp : p ≤ s.size) : Lib.indexByte (s.data.toList.drop p) 10 = if endl s p = s.size then -1 else ((endl s p - p : Nat) : Int) := by
  induction h : s.size - p generalizing p with
  | zero =>
    obtain rfl : p = s.size := by omega
    rw [endl_stop s _ (by omega), if_pos rfl, List.drop_eq_nil_of_le (by simp)]
    rfl
  | succ n ih =>
    have hlt : p < s.size := by omega
    rw [drop_cons s p hlt, Lib.indexByte, byte_beq s p hlt]
    by_cases hb : bAt s p = 10
    · rw [if_pos (by simp [hb]), endl_stop s p (by omega), if_neg (by omega)]
      simp
    · rw [if_neg (by simp [hb]), ih (p + 1) (by omega) (by omega), endl_step s p hlt hb]
      have := endl_ge s (p + 1)
      by_cases he : endl s (p + 1) = s.size
      · simp [he]
      · simp only [he, if_false]
        rw [if_neg (by simp)]
        omega
/-- How many line ends lie in a piece, in the shelf's words. -/
theorem count_nls (s : ByteArray) (a b : Nat) (hab : a ≤ b) (hb : b ≤ s.size) : Lib.countByte (s.extract a b).data.toList 10 = nls s a b := by
  induction h : b - a generalizing b with
  | zero =>
    obtain rfl : b = a := by omega
    rw [nls_self]
    simp [Lib.countByte]
  | succ n ih =>
    obtain ⟨b, rfl⟩ : ∃ k, b = k + 1 := ⟨b - 1, by omega⟩
    rw [nls_succ s a b (by omega), ← ih b (by omega) (by omega) (by omega)]
    have e : (s.extract a (b + 1)).data.toList = (s.extract a b).data.toList ++ [s[b]] := by
      simp only [ByteArray.data_extract, Array.toList_extract, List.extract]
      rw [show b + 1 - a = (b - a) + 1 from by omega, List.take_add_one]
      congr 1
      rw [List.getElem?_drop, show a + (b - a) = b from by omega, List.getElem?_eq_getElem (by simp; omega)]
      rfl
    rw [e]
    unfold Lib.countByte
    rw [List.count_append, List.count_singleton, byte_beq s b hb]
    by_cases hc : bAt s b = 10 <;> simp [hc]
set_option maxHeartbeats 1000000 in
theorem lineEnds_any (s : ByteArray) (w : World) : Calls Tryz.prog 29 #[.string s] w fun e w' => e = .returned (.int .i64 (Lib.countByte s.data.toList 10 : Nat)) ∧ w = w' := by
  go_enter Tryz.func29, Tryz.ntmps29
  go_wp2_with (go_at_call 25; refine (Tryz.strings_Count_one _ 10 _).mono ?_; rintro e w' ⟨rfl, rfl⟩)
  go_ret
  exact ⟨rfl, rfl⟩
set_option maxHeartbeats 1000000 in
theorem lineEnd_any (s : ByteArray) (p : Nat) (hs : s.size ≤ 70368744177664) (hp : p ≤ s.size) (w : World) :
    Calls Tryz.prog 64 #[.string s, .int .i64 (p : Int)] w fun e w' => e = .returned (.int .i64 (endl s p : Nat)) ∧ w = w' := by
  have hx := idx_endl s p hp
  have hge := endl_ge s p
  have hle := endl_le s p hp
  have he : (s.extract p s.size).data.toList = s.data.toList.drop p := by
    simp only [ByteArray.data_extract, Array.toList_extract, List.extract]
    exact List.take_of_length_le (by simp)
  have HC : ∀ w, Calls Tryz.prog 19 #[.string (s.extract p s.size), .int .u8 10] w fun e w' => e = .returned (.int .i64 (if endl s p = s.size then -1 else ((endl s p - p : Nat) : Int))) ∧ w = w' := fun w =>
    (Tryz.strings_IndexByte (s.extract p s.size) 10 w).mono (by
      rintro e w' ⟨rfl, rfl⟩
      refine ⟨?_, rfl⟩
      rw [he, show ((10 : Int).toNat.toUInt8) = (10 : UInt8) from rfl, hx])
  have H2 := Lib.hid HC
  clear hx he HC
  by_cases hq : endl s p = s.size
  · rw [hq] at H2 ⊢
    rw [if_pos rfl] at H2
    clear hge hle
    go_enter Tryz.func64, Tryz.ntmps64
    go_wp2_with (go_at_call 19; refine (H2.out _).mono ?_; rintro e w' ⟨rfl, rfl⟩)
    go_ret
    exact ⟨rfl, rfl⟩
  · rw [if_neg hq] at H2
    obtain ⟨d, hd⟩ : ∃ d, endl s p = p + d := ⟨endl s p - p, by omega⟩
    rw [hd] at H2 hle ⊢
    rw [show p + d - p = d from by omega] at H2
    clear hq hd hge
    go_enter Tryz.func64, Tryz.ntmps64
    go_wp2_with (go_at_call 19; refine (H2.out _).mono ?_; rintro e w' ⟨rfl, rfl⟩)
    go_ret
    exact ⟨by go_num, rfl⟩
set_option maxHeartbeats 1000000 in
theorem Line_any (s : ByteArray) (p : Int) (hs : s.size ≤ 70368744177664) (w : World) :
    Calls Tryz.prog 10 #[.string s, .int .i64 p] w fun e w' => e = .returned (.int .i64 (lineS s p.toNat : Nat)) ∧ w = w' := by
  have HC : ∀ (q : Nat), q ≤ s.size → ∀ w, Calls Tryz.prog 29 #[.string (s.extract 0 q)] w fun e w' => e = .returned (.int .i64 (nls s 0 q : Nat)) ∧ w = w' := fun q hq w =>
    (lineEnds_any (s.extract 0 q) w).mono (by
      rintro e w' ⟨rfl, rfl⟩
      rw [count_nls s 0 q (Nat.zero_le _) hq]
      exact ⟨rfl, rfl⟩)
  have hn : ∀ q, nls s 0 q ≤ q := fun q => nls_le s 0 q
  have e : (min (max p 0) (s.size : Int)).toNat = min p.toNat s.size := by omega
  have h5 := HC (min (max p 0) (s.size : Int)).toNat (by omega)
  have h4 := hn (min (max p 0) (s.size : Int)).toNat
  have h6 : (min (max p 0) (s.size : Int)).toNat ≤ s.size := by omega
  unfold lineS
  rw [← e]
  generalize nls s 0 (min (max p 0) (s.size : Int)).toNat = v at h4 h5 ⊢
  have h7 : v ≤ 70368744177664 := by omega
  have H5 := Lib.hid h5
  clear h5 h4 h6 e HC hn
  go_enter Tryz.func10, Tryz.ntmps10
  go_wp2_with (go_at_call 29; refine (H5.out _).mono ?_; rintro e w' ⟨rfl, rfl⟩)
  go_ret
  exact ⟨by go_num, rfl⟩
end Go.Proofs.YtmebcenjghagoaaGreatDoor
