/-
  The program's own tokenAt, by its contract: the document's own token at a place, its line not told yet. Conditions: the listed variables marks and strconv.ErrRange hold what they hold; the text is shorter than 2^46 bytes.
-/
import Derived.Test.YtmebcenjghagoaaGreatDoorNumAt2
import Derived.Test.YtmebcenjghagoaaGreatDoorBMark
namespace Go.Proofs.YtmebcenjghagoaaGreatDoor
open Go.RowKit

/-- The token at a place, also at the text's end. -/
def tokS (s : ByteArray) (p : Nat) : Tk × (Nat × Nat) := if p < s.size then oneT s p else (⟨0, p, lineS s p, ByteArray.empty, 0⟩, (0, 0))
theorem TokAns.ok {r : Tk × (Nat × Nat)} {w w' : World} {e : Ending} (h : TokAns r w e w') (h0 : r.2.1 = 0) : e = .returned (.tuple #[tok0 r.1, .nilIface]) ∧ Below w.heap.size w w' := by
  obtain ⟨v, ev, he, hf, hv, hb⟩ := h
  rcases hf with ⟨_, rfl⟩ | ⟨hn, _⟩
  · rw [if_pos h0] at hv
    subst hv
    exact ⟨he, hb⟩
  · exact absurd h0 hn
theorem TokAns.bad {r : Tk × (Nat × Nat)} {w w' : World} {e : Ending} (h : TokAns r w e w') (h0 : r.2.1 ≠ 0) : ∃ b, e = .returned (.tuple #[.agg #[.int .i64 0, .int .i64 0, .int .i64 0, .string ⟨#[]⟩, .int .i64 0], .iface 68 (.pointer (some ⟨b, 0, none⟩))]) ∧ w.heap.size ≤ b ∧ w'.heap[b]? = some (.cells #[.int .i64 (r.2.1 : Int), .int .i64 (r.2.2 : Int)] 49 (0, 0)) ∧ Below w.heap.size w w' := by
  obtain ⟨v, ev, he, hf, hv, hb⟩ := h
  rcases hf with ⟨h1, _⟩ | ⟨_, b, hb0, rfl, hr⟩
  · exact absurd h1 h0
  · rw [if_neg h0] at hv
    subst hv
    exact ⟨b, he, hb0, hr, hb⟩
theorem row5 {W : World} {b k : Nat} {o : Option Obj} (h : W.heap[b]? = o) (hk : b ≠ k) (v0 v1 v2 v3 v4 : Value) : (((((W.setCell ⟨k, 0, none⟩ v0).setCell ⟨k, 1, none⟩ v1).setCell ⟨k, 2, none⟩ v2).setCell ⟨k, 3, none⟩ v3).setCell ⟨k, 4, none⟩ v4).heap[b]? = o := by
  rw [heap_setCell_other _ _ _ _ hk, heap_setCell_other _ _ _ _ hk, heap_setCell_other _ _ _ _ hk, heap_setCell_other _ _ _ _ hk, heap_setCell_other _ _ _ _ hk]
  exact h
theorem below5 {W w : World} {B k : Nat} (h : Below B w W) (hk : B ≤ k) (v0 v1 v2 v3 v4 : Value) : Below B w (((((W.setCell ⟨k, 0, none⟩ v0).setCell ⟨k, 1, none⟩ v1).setCell ⟨k, 2, none⟩ v2).setCell ⟨k, 3, none⟩ v3).setCell ⟨k, 4, none⟩ v4) :=
  ((((h.setCell (p := ⟨k, 0, none⟩) hk _).setCell (p := ⟨k, 1, none⟩) hk _).setCell (p := ⟨k, 2, none⟩) hk _).setCell (p := ⟨k, 3, none⟩) hk _).setCell (p := ⟨k, 4, none⟩) hk _
theorem extract_self (s : ByteArray) (p : Nat) : s.extract p p = ⟨#[]⟩ := by
  apply ByteArray.ext
  simp
theorem isM_text (s : ByteArray) (p : Nat) (m : ByteArray) (h : isM s p m = true) : s.extract p (p + m.size) = m := by
  simp only [isM, Bool.and_eq_true, decide_eq_true_eq, beq_iff_eq] at h
  have h2 := h.2
  rw [Lib.toList_data, Lib.toList_data] at h2
  apply ByteArray.ext
  exact Array.toList_inj.1 h2
theorem isM_first (s : ByteArray) (p : Nat) (m : ByteArray) (h1 : 1 ≤ m.size) (h : isM s p m = true) : bAt m 0 = bAt s p := by
  by_cases hc : bAt s p = bAt m 0
  · exact hc.symm
  · have := isM_not s p m 0 (by omega) (fun _ => by simpa using hc)
    rw [this] at h
    cases h
theorem marks_single (m : ByteArray) (hm : m ∈ marksL) : (⟨#[UInt8.ofNat (bAt m 0)]⟩ : ByteArray) ∈ marksL := by
  have h : ∀ m ∈ marksL, ∃ x ∈ marksL, x.data.toList = [UInt8.ofNat (bAt m 0)] := by decide
  obtain ⟨x, hx, he⟩ := h m hm
  have e : x = ⟨#[UInt8.ofNat (bAt m 0)]⟩ := ByteArray.ext (Array.toList_inj.1 he)
  rwa [← e]
theorem markS_mk (s : ByteArray) (p : Nat) (hp : p < s.size) (h : isMk (bAt s p) = true) : ∃ m, markS s p marksL = some m ∧ isM s p m = true ∧ behM s p = p + m.size := by
  have hne : markS s p marksL ≠ none := by
    intro hn
    unfold isMk at h
    rw [List.any_eq_true] at h
    obtain ⟨m, hm, hb⟩ := h
    have hb2 : bAt m 0 = bAt s p := by simpa using hb
    have hx := marks_single m hm
    rw [hb2] at hx
    have := List.find?_eq_none.1 hn _ hx
    refine this (isM_of s p _ (Nat.le_refl 1) fun j hj => ?_)
    have hj0 : j = 0 := by simp [ByteArray.size] at hj; omega
    subst hj0
    refine ⟨by omega, ?_⟩
    have hl := bAt_lt s p
    rw [Nat.add_zero]
    have : bAt (⟨#[UInt8.ofNat (bAt s p)]⟩ : ByteArray) 0 = (UInt8.ofNat (bAt s p)).toNat := rfl
    rw [this, UInt8.toNat_ofNat_of_lt' hl]
  cases hm : markS s p marksL with
  | none => exact absurd hm hne
  | some m => exact ⟨m, rfl, List.find?_some hm, by unfold behM; rw [hm]⟩
theorem markS_no (s : ByteArray) (p : Nat) (h : isMk (bAt s p) = false) : markS s p marksL = none := by
  unfold markS
  rw [List.find?_eq_none]
  intro m hm hc
  have h1 : ∀ x ∈ marksL, 1 ≤ x.size := by decide
  have h2 := isM_first s p m (h1 m hm) hc
  have h3 : isMk (bAt s p) = true := by
    unfold isMk
    rw [List.any_eq_true]
    exact ⟨m, hm, by simp [h2]⟩
  rw [h3] at h
  cases h
theorem kind_is (b : Nat) : (kindS b = 2 ∨ kindS b = 10 → isL b = true) ∧ (kindS b = 12 → isL b = false ∧ isD b = true) ∧ (kindS b = 16 → isL b = false ∧ isD b = false ∧ isMk b = true) ∧ (kindS b = 0 ∨ kindS b = 1 → isL b = false ∧ isD b = false ∧ isMk b = false) := by
  have hmk : isB b = true → isMk b = false := by
    intro h
    simp only [isB, Bool.or_eq_true, beq_iff_eq] at h
    rcases h with rfl | rfl | rfl <;> decide
  unfold kindS
  by_cases h1 : isB b = true
  · obtain ⟨a, c, _⟩ := excl_B b h1
    simp [h1, a, c, hmk h1]
  by_cases h2 : isD b = true
  · obtain ⟨a, _⟩ := excl_D b h2
    simp [h1, h2, a]
  by_cases h3 : isH b = true
  · have a := excl_H b h3
    simp [h1, h2, h3, a]
  by_cases h4 : isL b = true
  · simp [h1, h2, h3, h4]
  by_cases h5 : isMk b = true
  · simp [h1, h2, h3, h4, h5]
  · simp [h1, h2, h3, h4, h5]
theorem numberAt_any (s : ByteArray) (p : Nat) (w : World) (hL : LaidL w) (hs : s.size ≤ 70368744177664) (hp : p < s.size) (hD : isD (bAt s p) = true) :
    Calls Tryz.prog 68 #[.string s, .int .i64 (p : Int)] w (TokAns (digitT s p) w) := by
  cases hx : isX s p
  · exact numberAt_dec s p w hL hs hp hx hD
  · exact numberAt_hex s p w hL hs hx
end Go.Proofs.YtmebcenjghagoaaGreatDoor
