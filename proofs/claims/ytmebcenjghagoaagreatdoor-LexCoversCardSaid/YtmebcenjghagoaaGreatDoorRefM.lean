/-
  The document's own 'one' at what is no name and no number: by its contract. Condition: the text is shorter than 2^46 bytes.
-/
import Derived.Test.YtmebcenjghagoaaGreatDoorRefD
namespace Go.Proofs.YtmebcenjghagoaaGreatDoor
open Go.RowKit

/-- All marks, the longer ones ahead. -/
def marksL : List ByteArray := [⟨#[60, 60]⟩, ⟨#[62, 62]⟩, ⟨#[60, 61]⟩, ⟨#[62, 61]⟩, ⟨#[61, 61]⟩, ⟨#[33, 61]⟩, ⟨#[123]⟩, ⟨#[125]⟩, ⟨#[40]⟩, ⟨#[41]⟩, ⟨#[91]⟩, ⟨#[93]⟩, ⟨#[59]⟩, ⟨#[58]⟩, ⟨#[44]⟩, ⟨#[46]⟩, ⟨#[61]⟩, ⟨#[60]⟩, ⟨#[62]⟩, ⟨#[43]⟩, ⟨#[45]⟩, ⟨#[42]⟩, ⟨#[47]⟩, ⟨#[37]⟩, ⟨#[38]⟩, ⟨#[94]⟩, ⟨#[124]⟩, ⟨#[126]⟩, ⟨#[33]⟩]
def marksA : Array Value := #[.string ⟨#[60, 60]⟩, .string ⟨#[62, 62]⟩, .string ⟨#[60, 61]⟩, .string ⟨#[62, 61]⟩, .string ⟨#[61, 61]⟩, .string ⟨#[33, 61]⟩, .string ⟨#[123]⟩, .string ⟨#[125]⟩, .string ⟨#[40]⟩, .string ⟨#[41]⟩, .string ⟨#[91]⟩, .string ⟨#[93]⟩, .string ⟨#[59]⟩, .string ⟨#[58]⟩, .string ⟨#[44]⟩, .string ⟨#[46]⟩, .string ⟨#[61]⟩, .string ⟨#[60]⟩, .string ⟨#[62]⟩, .string ⟨#[43]⟩, .string ⟨#[45]⟩, .string ⟨#[42]⟩, .string ⟨#[47]⟩, .string ⟨#[37]⟩, .string ⟨#[38]⟩, .string ⟨#[94]⟩, .string ⟨#[124]⟩, .string ⟨#[126]⟩, .string ⟨#[33]⟩]
theorem marksA_eq : marksA = (marksL.map Value.string).toArray := rfl
theorem marksL_len : marksL.length = 29 := rfl
theorem marks_at (w : World) (t : TypeId) (k : Nat) (m : ByteArray) (h : marksL[k]? = some m) : (w.alloc (.cells marksA t)).cell? ⟨w.heap.size, k, none⟩ = some (.string m) := by
  rw [World.cell?_alloc_mark, marksA_eq]
  simp [h]
/-- A mark stands at p. -/
def isM (s : ByteArray) (p : Nat) (m : ByteArray) : Bool := decide (p + m.size ≤ s.size) && (s.extract p (p + m.size)).toList == m.toList
/-- The first mark of these that stands at p. -/
def markS (s : ByteArray) (p : Nat) (l : List ByteArray) : Option ByteArray := l.find? (isM s p)
theorem rMarks_any (w : World) : Calls Tryz.prog 62 #[] w fun e w' => e = .returned (.slice (some ⟨w.heap.size, 0, none⟩) 29 29) ∧ w' = w.alloc (.cells marksA 9) := by
  go_enter Tryz.func62, Tryz.ntmps62
  go_wp2
  go_ret
  exact ⟨rfl, rfl⟩
/-- What 'one' answers where neither a letter nor a digit stands. -/
def markV (s : ByteArray) (p : Nat) : Value := .tuple (
  match markS s p marksL with
  | some m => #[tokV 3 p (lineS s p) m 0, fltV 0 0]
  | none => #[tokV 0 p (lineS s p) ByteArray.empty 0, fltV 7 p])
theorem markV_some (s : ByteArray) (p k : Nat) (m : ByteArray) (h : marksL[k]? = some m) (h2 : isM s p m = true) (h3 : markS s p (marksL.take k) = none) : markV s p = .tuple #[.agg #[.int .i64 3, .int .i64 (p : Int), .int .i64 ((lineS s p : Nat) : Int), .string m, .int .i64 0], .agg #[.int .i64 0, .int .i64 0]] := by
  have e : marksL = marksL.take k ++ (m :: marksL.drop (k + 1)) := by
    obtain ⟨hk, hm⟩ := List.getElem?_eq_some_iff.1 h
    rw [← hm, ← List.drop_eq_getElem_cons hk, List.take_append_drop]
  have e2 : markS s p marksL = some m := by
    rw [e]
    unfold markS at h3 ⊢
    rw [List.find?_append, h3, Option.none_or, List.find?_cons, h2]
  unfold markV; rw [e2]; rfl
theorem markV_none (s : ByteArray) (p : Nat) (h3 : markS s p marksL = none) : markV s p = .tuple #[.agg #[.int .i64 0, .int .i64 (p : Int), .int .i64 ((lineS s p : Nat) : Int), .string ⟨#[]⟩, .int .i64 0], .agg #[.int .i64 7, .int .i64 (p : Int)]] := by
  unfold markV; rw [h3]; rfl
theorem markS_step (s : ByteArray) (p k : Nat) (m : ByteArray) (h : marksL[k]? = some m) (h2 : isM s p m = false) (h3 : markS s p (marksL.take k) = none) : markS s p (marksL.take (k + 1)) = none := by
  unfold markS at h3 ⊢
  rw [List.take_add_one, h, List.find?_append, h3]
  simp [h2]
theorem marks_size (k : Nat) (m : ByteArray) (h : marksL[k]? = some m) : m.size ≤ 2 := by
  have hm := List.mem_of_getElem? h
  have : ∀ x ∈ marksL, x.size ≤ 2 := by decide
  exact this m hm
set_option maxRecDepth 100000 in
set_option maxHeartbeats 8000000 in
theorem rone_mark (s : ByteArray) (p : Nat) (w : World) (hs : s.size ≤ 70368744177664) (hp : p < s.size) (hL : isL (bAt s p) = false) (hD : isD (bAt s p) = false) :
    Calls Tryz.prog 44 #[.string s, .int .i64 (p : Int)] w fun e w' => e = .returned (markV s p) ∧ Below w.heap.size w w' := by
  have HLi := Lib.hid (fun w => rLine_any s (p : Int) w hs (by omega))
  have HLe := Lib.hid rLetter_any
  have HDi := Lib.hid rDigit_any
  have HMa := Lib.hid rMarks_any
  have hbb := bAt_eq s p hp
  go_enter Tryz.func44, Tryz.ntmps44
  go_wp2_with (first | (go_at_call 11; refine (HLi.out _).mono ?_; rintro e w' ⟨rfl, rfl⟩) | (go_at_call 18; refine (HLe.out _ _).mono ?_; rintro e w' ⟨rfl, rfl⟩) | (go_at_call 17; refine (HDi.out _ _).mono ?_; rintro e w' ⟨rfl, rfl⟩) | (go_at_call 62; refine (HMa.out _).mono ?_; rintro e w' ⟨rfl, rfl⟩))
  have HC := Lib.hid (marks_at (((w.alloc (.cells #[.int .i64 0, .int .i64 0, .int .i64 0, .string ⟨#[]⟩, .int .i64 0] 38)).alloc (.cells #[.int .i64 0, .int .i64 0] 49)).alloc (.cells #[.int .i64 0, .int .i64 (p : Int), .int .i64 ((lineS s p : Nat) : Int), .string ⟨#[]⟩, .int .i64 0] 38)) 9)
  go_loop [12, 13] (fun i _ => ∃ k : Nat, k ≤ 29 ∧ i = .int .i64 k ∧ Hid (markS s p (marksL.take k) = none)) (fun i _ => 29 - (intOf i).toNat)
  case atStart => exact ⟨0, Nat.zero_le _, rfl, rfl⟩
  case round =>
    obtain ⟨k, hk, rfl, HN⟩ := hrel
    by_cases hlt : k < 29
    · have hkm : marksL[k]? = some (marksL[k]'(by rw [marksL_len]; exact hlt)) := List.getElem?_eq_getElem _
      generalize (marksL[k]'(by rw [marksL_len]; exact hlt)) = m at hkm
      have hc := HC.out k m hkm
      have hms := marks_size k m hkm
      have HKM := Lib.hid hkm
      simp only [World.size_alloc] at hc
      clear hkm
      by_cases him : isM s p m = true
      · have HV := Lib.hid (markV_some s p k m HKM.out him HN.out)
        simp only [isM, Bool.and_eq_true, decide_eq_true_eq] at him
        obtain ⟨i1, i2⟩ := him
        have k1 : (m.size : Int) ≤ (s.size : Int) - (p : Int) := by omega
        have k2 : (p : Int) + (m.size : Int) ≤ (s.size : Int) := by omega
        have k3 : (p : Int) ≤ (p : Int) + (m.size : Int) := by omega
        go_wp2
        refine bodyPost_ret (v := .tuple #[.agg #[.int .i64 3, .int .i64 (p : Int), .int .i64 ((lineS s p : Nat) : Int), .string m, .int .i64 0], .agg #[.int .i64 0, .int .i64 0]]) (by simp [results, Tryz.results44, go_sem]) rfl ⟨by rw [HV.out], ?_⟩
        exact ((((Below.refl _ _).alloc (Nat.le_refl _) _).alloc (by simp) _).alloc (by simp; omega) _).alloc (by simp; omega) _
      · have HN2 : Hid (markS s p (marksL.take (k + 1)) = none) := Lib.hid (markS_step s p k m HKM.out (by simpa using him) HN.out)
        have hf : isM s p m = false := by simpa using him
        simp only [isM, Bool.and_eq_false_iff, decide_eq_false_iff_not] at hf
        clear him HN
        by_cases i1 : p + m.size ≤ s.size
        · have i2 : ((s.extract p (p + m.size)).toList == m.toList) = false := by
            rcases hf with h | h
            · exact absurd i1 h
            · exact h
          have k1 : (m.size : Int) ≤ (s.size : Int) - (p : Int) := by omega
          have k2 : (p : Int) + (m.size : Int) ≤ (s.size : Int) := by omega
          have k3 : (p : Int) ≤ (p : Int) + (m.size : Int) := by omega
          clear hf
          go_wp2
          go_round
          case rel => exact ⟨k + 1, by omega, by go_num, HN2⟩
          case measure => simp [intOf]; omega
        · have k1 : ¬ (m.size : Int) ≤ (s.size : Int) - (p : Int) := by omega
          clear hf
          go_wp2
          go_round
          case rel => exact ⟨k + 1, by omega, by go_num, HN2⟩
          case measure => simp [intOf]; omega
    · obtain rfl : k = 29 := by omega
      have HV := Lib.hid (markV_none s p HN.out)
      go_wp2
      refine bodyPost_ret (v := .tuple #[.agg #[.int .i64 0, .int .i64 (p : Int), .int .i64 ((lineS s p : Nat) : Int), .string ⟨#[]⟩, .int .i64 0], .agg #[.int .i64 7, .int .i64 (p : Int)]]) (by simp [results, Tryz.results44, go_sem]) rfl ⟨by rw [HV.out], ?_⟩
      exact ((((Below.refl _ _).alloc (Nat.le_refl _) _).alloc (by simp) _).alloc (by simp; omega) _).alloc (by simp; omega) _
/-- What 'one' answers. -/
def oneV (s : ByteArray) (p : Nat) : Value := if isL (bAt s p) = true then nameV s p else if isD (bAt s p) = true then digitV s p else markV s p
theorem rone_any (s : ByteArray) (p : Nat) (w : World) (hs : s.size ≤ 70368744177664) (hp : p < s.size) :
    Calls Tryz.prog 44 #[.string s, .int .i64 (p : Int)] w fun e w' => e = .returned (oneV s p) ∧ Below w.heap.size w w' := by
  unfold oneV
  by_cases h1 : isL (bAt s p) = true
  · rw [if_pos h1]; exact rone_name s p w hs hp h1
  rw [if_neg h1]
  by_cases h2 : isD (bAt s p) = true
  · rw [if_pos h2]; exact rone_digit s p w hs hp (by simpa using h1) h2
  rw [if_neg h2]
  exact rone_mark s p w hs hp (by simpa using h1) (by simpa using h2)
end Go.Proofs.YtmebcenjghagoaaGreatDoor
