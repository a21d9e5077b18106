/-
  The program's own behindMark, by its contract: the place behind the first mark that stands at a place. Conditions: the listed variable marks holds all marks; the text is shorter than 2^46 bytes.
-/
import Derived.Test.YtmebcenjghagoaaGreatDoorAll
import Derived.Deep.LoopGhost
import Derived.WalkMore
import Derived.IntWalk
import Derived.Lib.Strings
namespace Go.Proofs.YtmebcenjghagoaaGreatDoor
open Go.RowKit

theorem isM_of (s : ByteArray) (p : Nat) (m : ByteArray) (h1 : 1 ≤ m.size) (h : ∀ j, j < m.size → p + j < s.size ∧ bAt s (p + j) = bAt m j) : isM s p m = true := by
  have hl := (h (m.size - 1) (by omega)).1
  have hle : p + m.size ≤ s.size := by omega
  simp only [isM, Bool.and_eq_true, decide_eq_true_eq, beq_iff_eq]
  refine ⟨hle, ?_⟩
  rw [Lib.toList_data, Lib.toList_data]
  refine List.ext_getElem ?_ fun j hj hj2 => ?_
  · simp; omega
  · have hj3 : j < m.size := by simpa using hj2
    obtain ⟨hlt, hb⟩ := h j hj3
    rw [← bAt_eq s (p + j) hlt, ← bAt_eq m j hj3] at hb
    have e := UInt8.toNat_inj.1 hb
    simp only [ByteArray.data_extract, Array.toList_extract, List.extract]
    rw [List.getElem_take, List.getElem_drop]
    exact e
theorem isM_not (s : ByteArray) (p : Nat) (m : ByteArray) (j : Nat) (hj : j < m.size) (h : p + j < s.size → bAt s (p + j) ≠ bAt m j) : isM s p m = false := by
  rw [Bool.eq_false_iff]
  intro hc
  simp only [isM, Bool.and_eq_true, decide_eq_true_eq, beq_iff_eq] at hc
  obtain ⟨hle, he⟩ := hc
  rw [Lib.toList_data, Lib.toList_data] at he
  refine h (by omega) ?_
  rw [← bAt_eq s (p + j) (by omega), ← bAt_eq m j hj]
  have e : (s.extract p (p + m.size)).data.toList[j]? = m.data.toList[j]? := by rw [he]
  simp only [ByteArray.data_extract, Array.toList_extract, List.extract] at e
  rw [List.getElem?_take_of_lt (by omega), List.getElem?_drop, List.getElem?_eq_getElem (by simp; omega), List.getElem?_eq_getElem (by simpa using hj)] at e
  exact congrArg UInt8.toNat (Option.some.inj e)
/-- The place behind the first mark at p; p: none stands there. -/
def behM (s : ByteArray) (p : Nat) : Nat := match markS s p marksL with | some m => p + m.size | none => p
theorem behM_some (s : ByteArray) (p k : Nat) (m : ByteArray) (h : marksL[k]? = some m) (h2 : isM s p m = true) (h3 : markS s p (marksL.take k) = none) : behM s p = p + m.size := by
  have e : marksL = marksL.take k ++ (m :: marksL.drop (k + 1)) := by
    obtain ⟨hk, hm⟩ := List.getElem?_eq_some_iff.1 h
    rw [← hm, ← List.drop_eq_getElem_cons hk, List.take_append_drop]
  have e2 : markS s p marksL = some m := by
    rw [e]
    unfold markS at h3 ⊢
    rw [List.find?_append, h3, Option.none_or, List.find?_cons, h2]
  unfold behM; rw [e2]
theorem behM_none (s : ByteArray) (p : Nat) (h : markS s p marksL = none) : behM s p = p := by unfold behM; rw [h]
def RetDrew (v : Nat) (w : World) (e : Ending) (w' : World) : Prop := e = .returned (.int .i64 (v : Int)) ∧ ∃ n, w' = w.drewN n
def MatchTo (s : ByteArray) (p : Nat) (m : ByteArray) (j : Nat) : Prop := ∀ i, i < j → p + i < s.size ∧ bAt s (p + i) = bAt m i
set_option maxRecDepth 100000 in
set_option maxHeartbeats 4000000 in
theorem behindMark_any (s : ByteArray) (p : Nat) (w : World) (hM : MarksAt w) (hs : s.size ≤ 70368744177664) (hp : p ≤ s.size) :
    Calls Tryz.prog 69 #[.string s, .int .i64 (p : Int)] w (RetDrew (behM s p) w) := by
  have HM := Lib.hid hM.row
  have HX := Lib.hid (fun k m h => idx_marks k m h)
  clear hM
  go_enter Tryz.func69, Tryz.ntmps69
  go_wp2
  go_step3
  go_wp2_with (refine wpList_load_cells rfl 130 _ rfl 2 rfl (marksL.map Value.string) _ HM.out Tryz.underlying130 rfl (by kernel_rfl) ?_)
  go_step3
  go_wp2_with (refine wpList_load_cells rfl 130 _ rfl 2 rfl (marksL.map Value.string) _ HM.out Tryz.underlying130 rfl (by kernel_rfl) ?_)
  generalize (marksL.map Value.string).toArray = ms at HX ⊢
  go_loopg [9] 29 (fun g s9 wx => ∃ k : Nat, k + g = 29 ∧ s9 = .int .i64 k ∧ Hid (markS s p (marksL.take k) = none) ∧ ∃ n, wx = w.drewN n)
  case atStart => exact ⟨0, by omega, rfl, rfl, 0, rfl⟩
  case round =>
    obtain ⟨k, hkg, rfl, HN, n, rfl⟩ := hrel
    cases gk with
    | zero =>
      obtain rfl : k = 29 := by omega
      have HE : Hid (behM s p = p) := Lib.hid (behM_none s p HN.out)
      go_wp2
      go_ret
      exact ⟨by rw [HE.out]; rfl, n, rfl⟩
    | succ g =>
      have hkm : marksL[k]? = some (marksL[k]'(by rw [marksL_len]; omega)) := List.getElem?_eq_getElem _
      generalize (marksL[k]'(by rw [marksL_len]; omega)) = m at hkm
      have hix := HX.out k m hkm
      have hms := marks_ge k m hkm
      have hms2 := marks_size k m hkm
      have HKM := Lib.hid hkm
      have hlt : (k : Int) < 29 := by omega
      clear hkm
      go_wp2
      go_loopg [14] m.size (fun g2 s14 wy => ∃ j : Nat, j + g2 = m.size ∧ s14 = .int .i64 j ∧ Hid (MatchTo s p m j) ∧ ∃ n, wy = w.drewN n)
      case atStart => exact ⟨0, by omega, rfl, fun i hi => absurd hi (by omega), n, rfl⟩
      case round =>
        obtain ⟨j, hjg, rfl, HJ, n2, rfl⟩ := hrel
        cases gk with
        | zero =>
          obtain rfl : j = m.size := by omega
          have HE : Hid (behM s p = p + m.size) := Lib.hid (behM_some s p k m HKM.out (isM_of s p m hms HJ.out) HN.out)
          go_wp2
          rw [Exit.noGoto_ret]
          go_ret
          exact ⟨by rw [HE.out]; go_num, n2, rfl⟩
        | succ g2 =>
          have hj : j < m.size := by omega
          have hji : (j : Int) < (m.size : Int) := by omega
          have sw : IntKind.i64.wrap ((p : Int) + (j : Int)) = (p : Int) + (j : Int) := IntWalk.i64_in _ (by omega)
          have s0 : 0 ≤ (p : Int) + (j : Int) := by omega
          have sn : ((p : Int) + (j : Int)).toNat = p + j := by omega
          by_cases hend : p + j = s.size
          · have HB : Hid (isM s p m = false) := Lib.hid (isM_not s p m j hj (by omega))
            have HN2 := Lib.hid (markS_step s p k m HKM.out HB.out HN.out)
            have kb : ((p : Int) + (j : Int) == (s.size : Int)) = true := by simp; omega
            go_wp2
            go_quiet (fail)
            go_wp2
            go_roundg g
            case measure => omega
            case rel => exact ⟨k + 1, by omega, by go_num, HN2, by first | exact ⟨_, rfl⟩ | exact ⟨n2 + _, rfl⟩⟩
          · have hlt2 : p + j < s.size := by
              rcases Nat.eq_zero_or_pos j with h0 | h0
              · omega
              · have := (HJ.out (j - 1) (by omega)).1
                omega
            have kb : ((p : Int) + (j : Int) == (s.size : Int)) = false := by simp; omega
            have hb1 := bAt_eq s (p + j) hlt2
            have hb2 := bAt_eq m j hj
            have hi1 : (p : Int) + (j : Int) < (s.size : Int) := by omega
            by_cases hq : bAt s (p + j) = bAt m j
            · have HJ2 : Hid (MatchTo s p m (j + 1)) := by
                intro i hi
                rcases Nat.lt_or_eq_of_le (Nat.le_of_lt_succ hi) with h | rfl
                · exact HJ.out i h
                · exact ⟨hlt2, hq⟩
              have kc : ((bAt s (p + j) : Int) != (bAt m j : Int)) = false := by simp [hq]
              clear hq HJ
              go_wp2
              go_quiet (fail)
              go_wp2
              go_roundg g2
              case measure => omega
              case rel => exact ⟨j + 1, by omega, by go_num, HJ2, by first | exact ⟨_, rfl⟩ | exact ⟨n2 + _, rfl⟩⟩
            · have HB : Hid (isM s p m = false) := Lib.hid (isM_not s p m j hj (fun _ => hq))
              have HN2 := Lib.hid (markS_step s p k m HKM.out HB.out HN.out)
              have kc : ((bAt s (p + j) : Int) != (bAt m j : Int)) = true := by simp; omega
              clear hq HJ
              go_wp2
              go_quiet (fail)
              go_wp2
              go_roundg g
              case measure => omega
              case rel => exact ⟨k + 1, by omega, by go_num, HN2, by first | exact ⟨_, rfl⟩ | exact ⟨n2 + _, rfl⟩⟩
end Go.Proofs.YtmebcenjghagoaaGreatDoor
