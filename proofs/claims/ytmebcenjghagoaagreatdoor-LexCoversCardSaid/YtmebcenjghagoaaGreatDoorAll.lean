/-
  The program's own behindAll, by its contract: the place behind all bytes of some kinds. Conditions: the listed variable marks holds all marks; the text is shorter than 2^46 bytes.
-/
import Derived.Test.YtmebcenjghagoaaGreatDoorKindOf
namespace Go.Proofs.YtmebcenjghagoaaGreatDoor
open Go.RowKit

/-- The place behind all bytes of a kind, from p on. -/
def spanS (f : Nat → Bool) (s : ByteArray) (p : Nat) : Nat := if p < s.size ∧ f (bAt s p) = true then spanS f s (p + 1) else p
termination_by s.size - p
theorem span_step (f : Nat → Bool) (s : ByteArray) (p : Nat) (h : p < s.size) (h2 : f (bAt s p) = true) : spanS f s p = spanS f s (p + 1) := by rw [spanS, if_pos ⟨h, h2⟩]
theorem span_stop (f : Nat → Bool) (s : ByteArray) (p : Nat) (h : p < s.size → f (bAt s p) = false) : spanS f s p = p := by
  rw [spanS, if_neg (fun h2 => by rw [h h2.1] at h2; exact absurd h2.2 (by simp))]
theorem span_ge (f : Nat → Bool) (s : ByteArray) (p : Nat) : p ≤ spanS f s p := by
  induction h : s.size - p generalizing p with
  | zero => rw [spanS, if_neg (by omega)]; exact Nat.le_refl _
  | succ n ih =>
    rw [spanS]
    split
    · have := ih (p + 1) (by omega)
      omega
    · exact Nat.le_refl _
theorem span_le (f : Nat → Bool) (s : ByteArray) (p : Nat) (hp : p ≤ s.size) : spanS f s p ≤ s.size := by
  induction h : s.size - p generalizing p with
  | zero => rw [spanS, if_neg (by omega)]; exact hp
  | succ n ih =>
    rw [spanS]
    split
    · exact ih (p + 1) (by omega) (by omega)
    · exact hp
theorem span_end (f : Nat → Bool) (s : ByteArray) (p : Nat) (h : spanS f s p < s.size) : f (bAt s (spanS f s p)) = false := by
  induction hn : s.size - p generalizing p with
  | zero =>
    have := span_ge f s p
    omega
  | succ n ih =>
    by_cases hc : p < s.size ∧ f (bAt s p) = true
    · rw [span_step f s p hc.1 hc.2] at h ⊢
      exact ih (p + 1) h (by omega)
    · have e : spanS f s p = p := by rw [spanS, if_neg hc]
      rw [e] at h ⊢
      cases hf : f (bAt s p)
      · rfl
      · exact absurd ⟨h, hf⟩ hc
theorem kind_ways (b : Nat) : kindS b = 0 ∨ kindS b = 1 ∨ kindS b = 2 ∨ kindS b = 10 ∨ kindS b = 12 ∨ kindS b = 16 := by
  unfold kindS
  split
  · simp
  split
  · simp
  split
  · simp
  split
  · simp
  split <;> simp
/-- Of these kinds. -/
def ofK (m : Nat) (b : Nat) : Bool := kindS b &&& m != 0
set_option maxHeartbeats 4000000 in
theorem behindAll_1 (s : ByteArray) (p0 : Nat) (w : World) (hM : MarksAt w) (hs : s.size ≤ 70368744177664) (hp : p0 ≤ s.size) :
    Calls Tryz.prog 63 #[.string s, .int .i64 (p0 : Int), .int .u8 1] w fun e w' => e = .returned (.int .i64 (spanS (ofK 1) s p0 : Nat)) ∧ w = w' := by
  have HK := Lib.hid (fun b hb => kindOf_any b hb w hM)
  clear hM
  go_enter Tryz.func63, Tryz.ntmps63
  go_wp2
  go_loop [1] (fun i => ∃ p : Nat, p ≤ s.size ∧ i = .int .i64 p ∧ Hid (spanS (ofK 1) s p = spanS (ofK 1) s p0)) (fun i => s.size - (intOf i).toNat)
  case atStart => exact ⟨p0, hp, rfl, rfl⟩
  case round =>
    obtain ⟨p, hple, rfl, HG⟩ := hrel
    by_cases hlt : p < s.size
    · have hbb := bAt_eq s p hlt
      have HD := Lib.hid (HK.out (bAt s p) (bAt_lt s p))
      have HT := Lib.hid (fun h => span_step (ofK 1) s p hlt h)
      have HF := Lib.hid (fun h => span_stop (ofK 1) s p (fun _ => h))
      rcases kind_ways (bAt s p) with h | h | h | h | h | h
      · have HE : Hid (spanS (ofK 1) s p0 = p) := by rw [Hid, ← HG.out]; exact HF.out (by simp [ofK, h])
        rw [h] at HD
        have kb : (bits BinOp.and IntKind.u8 0 1 != 0) = false := by decide
        clear h HG HT HF
        go_wp2_with (go_at_call 66; refine HD.out.mono ?_; rintro e w' ⟨rfl, rfl⟩)
        go_ret
        exact ⟨by rw [HE.out]; rfl, rfl⟩
      · have HG2 : Hid (spanS (ofK 1) s (p + 1) = spanS (ofK 1) s p0) := by rw [Hid, ← HT.out (by simp [ofK, h])]; exact HG.out
        rw [h] at HD
        have kb : (bits BinOp.and IntKind.u8 1 1 != 0) = true := by decide
        clear h HG HT HF
        go_wp2_with (go_at_call 66; refine HD.out.mono ?_; rintro e w' ⟨rfl, rfl⟩)
        go_round
        case rel => exact ⟨p + 1, by omega, by go_num, HG2⟩
        case measure => simp [intOf]; omega
      · have HE : Hid (spanS (ofK 1) s p0 = p) := by rw [Hid, ← HG.out]; exact HF.out (by simp [ofK, h])
        rw [h] at HD
        have kb : (bits BinOp.and IntKind.u8 2 1 != 0) = false := by decide
        clear h HG HT HF
        go_wp2_with (go_at_call 66; refine HD.out.mono ?_; rintro e w' ⟨rfl, rfl⟩)
        go_ret
        exact ⟨by rw [HE.out]; rfl, rfl⟩
      · have HE : Hid (spanS (ofK 1) s p0 = p) := by rw [Hid, ← HG.out]; exact HF.out (by simp [ofK, h])
        rw [h] at HD
        have kb : (bits BinOp.and IntKind.u8 10 1 != 0) = false := by decide
        clear h HG HT HF
        go_wp2_with (go_at_call 66; refine HD.out.mono ?_; rintro e w' ⟨rfl, rfl⟩)
        go_ret
        exact ⟨by rw [HE.out]; rfl, rfl⟩
      · have HE : Hid (spanS (ofK 1) s p0 = p) := by rw [Hid, ← HG.out]; exact HF.out (by simp [ofK, h])
        rw [h] at HD
        have kb : (bits BinOp.and IntKind.u8 12 1 != 0) = false := by decide
        clear h HG HT HF
        go_wp2_with (go_at_call 66; refine HD.out.mono ?_; rintro e w' ⟨rfl, rfl⟩)
        go_ret
        exact ⟨by rw [HE.out]; rfl, rfl⟩
      · have HE : Hid (spanS (ofK 1) s p0 = p) := by rw [Hid, ← HG.out]; exact HF.out (by simp [ofK, h])
        rw [h] at HD
        have kb : (bits BinOp.and IntKind.u8 16 1 != 0) = false := by decide
        clear h HG HT HF
        go_wp2_with (go_at_call 66; refine HD.out.mono ?_; rintro e w' ⟨rfl, rfl⟩)
        go_ret
        exact ⟨by rw [HE.out]; rfl, rfl⟩
    · have HE : Hid (spanS (ofK 1) s p0 = p) := by rw [Hid, ← HG.out]; exact span_stop (ofK 1) s p (fun h => absurd h hlt)
      go_wp2
      go_ret
      exact ⟨by rw [HE.out]; rfl, rfl⟩
set_option maxHeartbeats 4000000 in
theorem behindAll_4 (s : ByteArray) (p0 : Nat) (w : World) (hM : MarksAt w) (hs : s.size ≤ 70368744177664) (hp : p0 ≤ s.size) :
    Calls Tryz.prog 63 #[.string s, .int .i64 (p0 : Int), .int .u8 4] w fun e w' => e = .returned (.int .i64 (spanS (ofK 4) s p0 : Nat)) ∧ w = w' := by
  have HK := Lib.hid (fun b hb => kindOf_any b hb w hM)
  clear hM
  go_enter Tryz.func63, Tryz.ntmps63
  go_wp2
  go_loop [1] (fun i => ∃ p : Nat, p ≤ s.size ∧ i = .int .i64 p ∧ Hid (spanS (ofK 4) s p = spanS (ofK 4) s p0)) (fun i => s.size - (intOf i).toNat)
  case atStart => exact ⟨p0, hp, rfl, rfl⟩
  case round =>
    obtain ⟨p, hple, rfl, HG⟩ := hrel
    by_cases hlt : p < s.size
    · have hbb := bAt_eq s p hlt
      have HD := Lib.hid (HK.out (bAt s p) (bAt_lt s p))
      have HT := Lib.hid (fun h => span_step (ofK 4) s p hlt h)
      have HF := Lib.hid (fun h => span_stop (ofK 4) s p (fun _ => h))
      rcases kind_ways (bAt s p) with h | h | h | h | h | h
      · have HE : Hid (spanS (ofK 4) s p0 = p) := by rw [Hid, ← HG.out]; exact HF.out (by simp [ofK, h])
        rw [h] at HD
        have kb : (bits BinOp.and IntKind.u8 0 4 != 0) = false := by decide
        clear h HG HT HF
        go_wp2_with (go_at_call 66; refine HD.out.mono ?_; rintro e w' ⟨rfl, rfl⟩)
        go_ret
        exact ⟨by rw [HE.out]; rfl, rfl⟩
      · have HE : Hid (spanS (ofK 4) s p0 = p) := by rw [Hid, ← HG.out]; exact HF.out (by simp [ofK, h])
        rw [h] at HD
        have kb : (bits BinOp.and IntKind.u8 1 4 != 0) = false := by decide
        clear h HG HT HF
        go_wp2_with (go_at_call 66; refine HD.out.mono ?_; rintro e w' ⟨rfl, rfl⟩)
        go_ret
        exact ⟨by rw [HE.out]; rfl, rfl⟩
      · have HE : Hid (spanS (ofK 4) s p0 = p) := by rw [Hid, ← HG.out]; exact HF.out (by simp [ofK, h])
        rw [h] at HD
        have kb : (bits BinOp.and IntKind.u8 2 4 != 0) = false := by decide
        clear h HG HT HF
        go_wp2_with (go_at_call 66; refine HD.out.mono ?_; rintro e w' ⟨rfl, rfl⟩)
        go_ret
        exact ⟨by rw [HE.out]; rfl, rfl⟩
      · have HE : Hid (spanS (ofK 4) s p0 = p) := by rw [Hid, ← HG.out]; exact HF.out (by simp [ofK, h])
        rw [h] at HD
        have kb : (bits BinOp.and IntKind.u8 10 4 != 0) = false := by decide
        clear h HG HT HF
        go_wp2_with (go_at_call 66; refine HD.out.mono ?_; rintro e w' ⟨rfl, rfl⟩)
        go_ret
        exact ⟨by rw [HE.out]; rfl, rfl⟩
      · have HG2 : Hid (spanS (ofK 4) s (p + 1) = spanS (ofK 4) s p0) := by rw [Hid, ← HT.out (by simp [ofK, h])]; exact HG.out
        rw [h] at HD
        have kb : (bits BinOp.and IntKind.u8 12 4 != 0) = true := by decide
        clear h HG HT HF
        go_wp2_with (go_at_call 66; refine HD.out.mono ?_; rintro e w' ⟨rfl, rfl⟩)
        go_round
        case rel => exact ⟨p + 1, by omega, by go_num, HG2⟩
        case measure => simp [intOf]; omega
      · have HE : Hid (spanS (ofK 4) s p0 = p) := by rw [Hid, ← HG.out]; exact HF.out (by simp [ofK, h])
        rw [h] at HD
        have kb : (bits BinOp.and IntKind.u8 16 4 != 0) = false := by decide
        clear h HG HT HF
        go_wp2_with (go_at_call 66; refine HD.out.mono ?_; rintro e w' ⟨rfl, rfl⟩)
        go_ret
        exact ⟨by rw [HE.out]; rfl, rfl⟩
    · have HE : Hid (spanS (ofK 4) s p0 = p) := by rw [Hid, ← HG.out]; exact span_stop (ofK 4) s p (fun h => absurd h hlt)
      go_wp2
      go_ret
      exact ⟨by rw [HE.out]; rfl, rfl⟩
set_option maxHeartbeats 4000000 in
theorem behindAll_6 (s : ByteArray) (p0 : Nat) (w : World) (hM : MarksAt w) (hs : s.size ≤ 70368744177664) (hp : p0 ≤ s.size) :
    Calls Tryz.prog 63 #[.string s, .int .i64 (p0 : Int), .int .u8 6] w fun e w' => e = .returned (.int .i64 (spanS (ofK 6) s p0 : Nat)) ∧ w = w' := by
  have HK := Lib.hid (fun b hb => kindOf_any b hb w hM)
  clear hM
  go_enter Tryz.func63, Tryz.ntmps63
  go_wp2
  go_loop [1] (fun i => ∃ p : Nat, p ≤ s.size ∧ i = .int .i64 p ∧ Hid (spanS (ofK 6) s p = spanS (ofK 6) s p0)) (fun i => s.size - (intOf i).toNat)
  case atStart => exact ⟨p0, hp, rfl, rfl⟩
  case round =>
    obtain ⟨p, hple, rfl, HG⟩ := hrel
    by_cases hlt : p < s.size
    · have hbb := bAt_eq s p hlt
      have HD := Lib.hid (HK.out (bAt s p) (bAt_lt s p))
      have HT := Lib.hid (fun h => span_step (ofK 6) s p hlt h)
      have HF := Lib.hid (fun h => span_stop (ofK 6) s p (fun _ => h))
      rcases kind_ways (bAt s p) with h | h | h | h | h | h
      · have HE : Hid (spanS (ofK 6) s p0 = p) := by rw [Hid, ← HG.out]; exact HF.out (by simp [ofK, h])
        rw [h] at HD
        have kb : (bits BinOp.and IntKind.u8 0 6 != 0) = false := by decide
        clear h HG HT HF
        go_wp2_with (go_at_call 66; refine HD.out.mono ?_; rintro e w' ⟨rfl, rfl⟩)
        go_ret
        exact ⟨by rw [HE.out]; rfl, rfl⟩
      · have HE : Hid (spanS (ofK 6) s p0 = p) := by rw [Hid, ← HG.out]; exact HF.out (by simp [ofK, h])
        rw [h] at HD
        have kb : (bits BinOp.and IntKind.u8 1 6 != 0) = false := by decide
        clear h HG HT HF
        go_wp2_with (go_at_call 66; refine HD.out.mono ?_; rintro e w' ⟨rfl, rfl⟩)
        go_ret
        exact ⟨by rw [HE.out]; rfl, rfl⟩
      · have HG2 : Hid (spanS (ofK 6) s (p + 1) = spanS (ofK 6) s p0) := by rw [Hid, ← HT.out (by simp [ofK, h])]; exact HG.out
        rw [h] at HD
        have kb : (bits BinOp.and IntKind.u8 2 6 != 0) = true := by decide
        clear h HG HT HF
        go_wp2_with (go_at_call 66; refine HD.out.mono ?_; rintro e w' ⟨rfl, rfl⟩)
        go_round
        case rel => exact ⟨p + 1, by omega, by go_num, HG2⟩
        case measure => simp [intOf]; omega
      · have HG2 : Hid (spanS (ofK 6) s (p + 1) = spanS (ofK 6) s p0) := by rw [Hid, ← HT.out (by simp [ofK, h])]; exact HG.out
        rw [h] at HD
        have kb : (bits BinOp.and IntKind.u8 10 6 != 0) = true := by decide
        clear h HG HT HF
        go_wp2_with (go_at_call 66; refine HD.out.mono ?_; rintro e w' ⟨rfl, rfl⟩)
        go_round
        case rel => exact ⟨p + 1, by omega, by go_num, HG2⟩
        case measure => simp [intOf]; omega
      · have HG2 : Hid (spanS (ofK 6) s (p + 1) = spanS (ofK 6) s p0) := by rw [Hid, ← HT.out (by simp [ofK, h])]; exact HG.out
        rw [h] at HD
        have kb : (bits BinOp.and IntKind.u8 12 6 != 0) = true := by decide
        clear h HG HT HF
        go_wp2_with (go_at_call 66; refine HD.out.mono ?_; rintro e w' ⟨rfl, rfl⟩)
        go_round
        case rel => exact ⟨p + 1, by omega, by go_num, HG2⟩
        case measure => simp [intOf]; omega
      · have HE : Hid (spanS (ofK 6) s p0 = p) := by rw [Hid, ← HG.out]; exact HF.out (by simp [ofK, h])
        rw [h] at HD
        have kb : (bits BinOp.and IntKind.u8 16 6 != 0) = false := by decide
        clear h HG HT HF
        go_wp2_with (go_at_call 66; refine HD.out.mono ?_; rintro e w' ⟨rfl, rfl⟩)
        go_ret
        exact ⟨by rw [HE.out]; rfl, rfl⟩
    · have HE : Hid (spanS (ofK 6) s p0 = p) := by rw [Hid, ← HG.out]; exact span_stop (ofK 6) s p (fun h => absurd h hlt)
      go_wp2
      go_ret
      exact ⟨by rw [HE.out]; rfl, rfl⟩
set_option maxHeartbeats 4000000 in
theorem behindAll_8 (s : ByteArray) (p0 : Nat) (w : World) (hM : MarksAt w) (hs : s.size ≤ 70368744177664) (hp : p0 ≤ s.size) :
    Calls Tryz.prog 63 #[.string s, .int .i64 (p0 : Int), .int .u8 8] w fun e w' => e = .returned (.int .i64 (spanS (ofK 8) s p0 : Nat)) ∧ w = w' := by
  have HK := Lib.hid (fun b hb => kindOf_any b hb w hM)
  clear hM
  go_enter Tryz.func63, Tryz.ntmps63
  go_wp2
  go_loop [1] (fun i => ∃ p : Nat, p ≤ s.size ∧ i = .int .i64 p ∧ Hid (spanS (ofK 8) s p = spanS (ofK 8) s p0)) (fun i => s.size - (intOf i).toNat)
  case atStart => exact ⟨p0, hp, rfl, rfl⟩
  case round =>
    obtain ⟨p, hple, rfl, HG⟩ := hrel
    by_cases hlt : p < s.size
    · have hbb := bAt_eq s p hlt
      have HD := Lib.hid (HK.out (bAt s p) (bAt_lt s p))
      have HT := Lib.hid (fun h => span_step (ofK 8) s p hlt h)
      have HF := Lib.hid (fun h => span_stop (ofK 8) s p (fun _ => h))
      rcases kind_ways (bAt s p) with h | h | h | h | h | h
      · have HE : Hid (spanS (ofK 8) s p0 = p) := by rw [Hid, ← HG.out]; exact HF.out (by simp [ofK, h])
        rw [h] at HD
        have kb : (bits BinOp.and IntKind.u8 0 8 != 0) = false := by decide
        clear h HG HT HF
        go_wp2_with (go_at_call 66; refine HD.out.mono ?_; rintro e w' ⟨rfl, rfl⟩)
        go_ret
        exact ⟨by rw [HE.out]; rfl, rfl⟩
      · have HE : Hid (spanS (ofK 8) s p0 = p) := by rw [Hid, ← HG.out]; exact HF.out (by simp [ofK, h])
        rw [h] at HD
        have kb : (bits BinOp.and IntKind.u8 1 8 != 0) = false := by decide
        clear h HG HT HF
        go_wp2_with (go_at_call 66; refine HD.out.mono ?_; rintro e w' ⟨rfl, rfl⟩)
        go_ret
        exact ⟨by rw [HE.out]; rfl, rfl⟩
      · have HE : Hid (spanS (ofK 8) s p0 = p) := by rw [Hid, ← HG.out]; exact HF.out (by simp [ofK, h])
        rw [h] at HD
        have kb : (bits BinOp.and IntKind.u8 2 8 != 0) = false := by decide
        clear h HG HT HF
        go_wp2_with (go_at_call 66; refine HD.out.mono ?_; rintro e w' ⟨rfl, rfl⟩)
        go_ret
        exact ⟨by rw [HE.out]; rfl, rfl⟩
      · have HG2 : Hid (spanS (ofK 8) s (p + 1) = spanS (ofK 8) s p0) := by rw [Hid, ← HT.out (by simp [ofK, h])]; exact HG.out
        rw [h] at HD
        have kb : (bits BinOp.and IntKind.u8 10 8 != 0) = true := by decide
        clear h HG HT HF
        go_wp2_with (go_at_call 66; refine HD.out.mono ?_; rintro e w' ⟨rfl, rfl⟩)
        go_round
        case rel => exact ⟨p + 1, by omega, by go_num, HG2⟩
        case measure => simp [intOf]; omega
      · have HG2 : Hid (spanS (ofK 8) s (p + 1) = spanS (ofK 8) s p0) := by rw [Hid, ← HT.out (by simp [ofK, h])]; exact HG.out
        rw [h] at HD
        have kb : (bits BinOp.and IntKind.u8 12 8 != 0) = true := by decide
        clear h HG HT HF
        go_wp2_with (go_at_call 66; refine HD.out.mono ?_; rintro e w' ⟨rfl, rfl⟩)
        go_round
        case rel => exact ⟨p + 1, by omega, by go_num, HG2⟩
        case measure => simp [intOf]; omega
      · have HE : Hid (spanS (ofK 8) s p0 = p) := by rw [Hid, ← HG.out]; exact HF.out (by simp [ofK, h])
        rw [h] at HD
        have kb : (bits BinOp.and IntKind.u8 16 8 != 0) = false := by decide
        clear h HG HT HF
        go_wp2_with (go_at_call 66; refine HD.out.mono ?_; rintro e w' ⟨rfl, rfl⟩)
        go_ret
        exact ⟨by rw [HE.out]; rfl, rfl⟩
    · have HE : Hid (spanS (ofK 8) s p0 = p) := by rw [Hid, ← HG.out]; exact span_stop (ofK 8) s p (fun h => absurd h hlt)
      go_wp2
      go_ret
      exact ⟨by rw [HE.out]; rfl, rfl⟩
end Go.Proofs.YtmebcenjghagoaaGreatDoor
