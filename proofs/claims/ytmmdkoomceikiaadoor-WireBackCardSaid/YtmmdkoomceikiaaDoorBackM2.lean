/-
  Plain mathematics: a thing that is laid is read back at its place; one whose end is cut off is a fault at its place. No program in sight; no condition.
-/
import Derived.Test.YtmmdkoomceikiaaDoorThing2
namespace Go.Proofs.YtmmdkoomceikiaaDoor
open Go.RowKit

theorem unzig_zig (y : Int) : unzig (zig y) = y := by
  unfold unzig zig
  by_cases h : 0 ≤ y
  · rw [if_pos h, if_pos (by omega)]; omega
  · rw [if_neg h, if_neg (by omega)]; omega
theorem zig_quarter (y : Int) (h1 : -9223372036854775808 ≤ y) (h2 : y ≤ 9223372036854775807) : zig (y / 4) < 4611686018427387904 := by
  unfold zig
  split <;> omega
theorem wrap_quarter (N : Nat) : zig (wrap64 N / 4) < 4611686018427387904 := zig_quarter _ (wrap64_lo _) (wrap64_hi _)
/-- A number that stands at p is read. -/
theorem uS_back (s : ByteArray) (p N : Nat) (hN : N < 4611686018427387904) (hs : p + (numB N).length ≤ s.size) (h : bytesAt s p (numB N).length = numB N) : uS s ⟨p, none⟩ = (N, ⟨p + (numB N).length, none⟩) := by
  simp [uS, numR_back s p N hN hs h]
theorem manyS_back (s : ByteArray) (p N m : Nat) (hm : N ≤ m) (hN : N < 4611686018427387904) (hs : p + (numB N).length ≤ s.size) (h : bytesAt s p (numB N).length = numB N) : numU s p (m : Int) = (N, (numB N).length, 0) := by
  unfold numU
  rw [numR_back s p N hN hs h, if_pos rfl, if_neg (by simp only; omega)]
theorem bytesAt_one (s : ByteArray) (p x : Nat) (h : bytesAt s p 1 = [x]) : bAt s p = x := by
  simpa [bytesAt, List.range_succ] using h
theorem bytesAt_split {s : ByteArray} {p : Nat} {l m : List Nat} (h : bytesAt s p (l ++ m).length = l ++ m) : bytesAt s p l.length = l ∧ bytesAt s (p + l.length) m.length = m := by
  rw [List.length_append, bytesAt_add] at h
  exact List.append_inj h (length_bytesAt _ _ _)
theorem bAt_toNat (s : ByteArray) (i : Nat) (h : i < s.size) : (s.data.toList[i]'(by simpa using h)).toNat = bAt s i := by
  simp only [bAt, h, dif_pos]
  rfl
/-- The bytes of a text from p on as a list. -/
theorem bytesAt_eq (s : ByteArray) (p z : Nat) (h : p + z ≤ s.size) : bytesAt s p z = ((sb s).drop p).take z := by
  apply List.ext_getElem
  · rw [length_bytesAt, List.length_take, List.length_drop, length_sb]; omega
  · intro i h1 h2
    rw [length_bytesAt] at h1
    simp only [bytesAt, List.getElem_map, List.getElem_range, List.getElem_take, List.getElem_drop, sb]
    rw [bAt_toNat]
    omega
theorem sb_extract (s : ByteArray) (a b : Nat) : sb (s.extract a b) = ((sb s).take b).drop a := by
  simp [sb, ByteArray.data_extract, List.map_drop, List.map_take, List.drop_take]
theorem sb_inj {s t : ByteArray} (h : sb s = sb t) : s = t := by
  have h2 : s.data.toList = t.data.toList := List.map_inj_right (f := UInt8.toNat) (fun _ _ h => UInt8.toNat_inj.1 h) |>.1 h
  obtain ⟨a⟩ := s
  obtain ⟨b⟩ := t
  congr 1
  exact Array.toList_inj.1 h2
theorem extract_of (s S : ByteArray) (a : Nat) (hs : a + S.size ≤ s.size) (h : bytesAt s a S.size = sb S) : s.extract a (a + S.size) = S := by
  apply sb_inj
  rw [sb_extract, ← h, bytesAt_eq s a S.size hs, List.drop_take]
  congr 1
  omega
theorem length_numB_lt (N : Nat) : (numB N).length ≤ 8 := (length_numB_bd N).2
theorem numB_mod_len (N : Nat) : (numB N).length = (numB (N % 4611686018427387904)).length := by rw [numB_mod]

/-- A thing that is laid is read back. -/
theorem thing_back (s : ByteArray) (p k N : Nat) (S : ByteArray) (hs : p + (thingB k N S).length ≤ s.size) (h : bytesAt s p (thingB k N S).length = thingB k N S) : BackOk s k N S ⟨p, none⟩ ∧ backS s k ⟨p, none⟩ = ⟨p + (thingB k N S).length, none⟩ := by
  unfold thingB at *
  unfold BackOk backS
  by_cases h0 : k % 6 = 0
  · simp only [h0, if_true] at h hs ⊢
    rw [← numB_mod] at h hs ⊢
    rw [uS_back s p (N % 4611686018427387904) (Nat.mod_lt _ (by decide)) hs h]
    exact ⟨rfl, rfl⟩
  by_cases h1 : k % 6 = 1
  · simp only [h1, if_true, show ((1 : Nat) = 0) = False from by simp, if_false] at h hs ⊢
    rw [uS_back s p _ (wrap_quarter N) hs h]
    exact ⟨unzig_zig _, rfl⟩
  by_cases h2 : k % 6 = 2
  · simp only [h2, if_true, show ((2 : Nat) = 0) = False from by simp, show ((2 : Nat) = 1) = False from by simp, if_false] at h hs ⊢
    have hb := bytesAt_one s p (N % 256) h
    have hp : p < s.size := by simp at hs; omega
    simp [bS, hp, hb]
  by_cases h3 : k % 6 = 3
  · simp only [h3, if_true, show ((3 : Nat) = 0) = False from by simp, show ((3 : Nat) = 1) = False from by simp, show ((3 : Nat) = 2) = False from by simp, if_false] at h hs ⊢
    cases ht : (N % 2 == 1)
    · rw [ht] at h hs
      have hb := bytesAt_one s p 0 h
      have hp : p < s.size := by simp [truB] at hs; omega
      simp [tS, hp, hb, truB]
    · rw [ht] at h hs
      have hb := bytesAt_one s p 1 h
      have hp : p < s.size := by simp [truB] at hs; omega
      simp [tS, hp, hb, truB]
  by_cases h4 : k % 6 = 4
  · simp only [h4, if_true, show ((4 : Nat) = 0) = False from by simp, show ((4 : Nat) = 1) = False from by simp, show ((4 : Nat) = 2) = False from by simp, show ((4 : Nat) = 3) = False from by simp, if_false] at h hs ⊢
    have hm : (S.extract 0 (min (S.size : Int) 99).toNat).size ≤ 99 := by rw [ByteArray.size_extract]; omega
    generalize S.extract 0 (min (S.size : Int) 99).toNat = T at *
    obtain ⟨e1, e2⟩ := bytesAt_split h
    rw [List.length_append, length_sb] at hs
    rw [length_sb] at e2
    have hu := manyS_back s p T.size 99 hm (by omega) (by omega) e1
    have hx := extract_of s T (p + (numB T.size).length) (by omega) e2
    have hu' : numU s p 99 = (T.size, (numB T.size).length, 0) := hu
    have hlt : ¬ s.size - p - (numB T.size).length < T.size := by omega
    simp only [strS, hu', hlt, if_false, if_true, ne_eq, not_true_eq_false, List.length_append, length_sb, Nat.add_assoc]
    rw [Nat.add_assoc] at hx
    exact ⟨hx, trivial⟩
  simp only [h0, h1, h2, h3, h4, if_false] at h hs ⊢
  have hu : numU s p 999 = (N % 1000, (numB (N % 1000)).length, 0) := manyS_back s p (N % 1000) 999 (by omega) (by omega) hs h
  simp [manyS, hu]

/-- One whose end is cut off is a fault at its place. -/
theorem uS_cut (s : ByteArray) (p N : Nat) (hN : N < 4611686018427387904) (hs : s.size < p + (numB N).length) (h : bytesAt s p (s.size - p) = (numB N).take (s.size - p)) : uS s ⟨p, none⟩ = (0, ⟨p, some (3, (p : Int))⟩) := by
  have := numR_cut s p N hN hs h
  simp [uS, this]
theorem thing_cut (s : ByteArray) (p k N : Nat) (S : ByteArray) (hp : p ≤ s.size) (hs : s.size < p + (thingB k N S).length) (h : bytesAt s p (s.size - p) = (thingB k N S).take (s.size - p)) : backS s k ⟨p, none⟩ = ⟨p, some (3, (p : Int))⟩ := by
  unfold thingB at *
  unfold backS
  by_cases h0 : k % 6 = 0
  · simp only [h0, if_true] at h hs ⊢
    rw [← numB_mod] at h hs
    rw [uS_cut s p (N % 4611686018427387904) (Nat.mod_lt _ (by decide)) hs h]
  by_cases h1 : k % 6 = 1
  · simp only [h1, if_true, show ((1 : Nat) = 0) = False from by simp, if_false] at h hs ⊢
    rw [uS_cut s p _ (wrap_quarter N) hs h]
  by_cases h2 : k % 6 = 2
  · simp only [h2, if_true, show ((2 : Nat) = 0) = False from by simp, show ((2 : Nat) = 1) = False from by simp, if_false] at h hs ⊢
    have hp : ¬ p < s.size := by simp at hs; omega
    simp [bS, hp]
  by_cases h3 : k % 6 = 3
  · simp only [h3, if_true, show ((3 : Nat) = 0) = False from by simp, show ((3 : Nat) = 1) = False from by simp, show ((3 : Nat) = 2) = False from by simp, if_false] at h hs ⊢
    have hl : (truB (N % 2 == 1)).length = 1 := by cases (N % 2 == 1) <;> rfl
    have hp : ¬ p < s.size := by omega
    simp [tS, hp]
  by_cases h4 : k % 6 = 4
  · simp only [h4, if_true, show ((4 : Nat) = 0) = False from by simp, show ((4 : Nat) = 1) = False from by simp, show ((4 : Nat) = 2) = False from by simp, show ((4 : Nat) = 3) = False from by simp, if_false] at h hs ⊢
    have hm : (S.extract 0 (min (S.size : Int) 99).toNat).size ≤ 99 := by rw [ByteArray.size_extract]; omega
    generalize S.extract 0 (min (S.size : Int) 99).toNat = T at *
    rw [List.length_append, length_sb] at hs
    by_cases hc : s.size < p + (numB T.size).length
    · rw [List.take_append_of_le_length (by omega)] at h
      have h3 := numR_cut s p T.size (by omega) hc h
      have hu : numU s p 99 = numR s p := by unfold numU; rw [if_neg (by omega)]
      simp [strS, hu, h3]
    · have e1 : bytesAt s p (numB T.size).length = numB T.size := by
        obtain ⟨m, hm⟩ : ∃ m, s.size - p = (numB T.size).length + m := ⟨s.size - p - (numB T.size).length, by omega⟩
        rw [hm, bytesAt_add, List.take_length_add_append] at h
        exact (List.append_inj h (length_bytesAt _ _ _)).1
      have hu : numU s p 99 = (T.size, (numB T.size).length, 0) := manyS_back s p T.size 99 hm (by omega) (by omega) e1
      have hlt : s.size - p - (numB T.size).length < T.size := by omega
      simp [strS, hu, hlt]
  simp only [h0, h1, h2, h3, h4, if_false] at h hs ⊢
  have h3 := numR_cut s p (N % 1000) (by omega) hs h
  have hu : numU s p 999 = numR s p := by unfold numU; rw [if_neg (by omega)]
  simp [manyS, hu, h3]

/-- A row of numbers below 256 as a text: its bytes. -/
theorem sb_ofB (l : List Nat) (h : ∀ x ∈ l, x < 256) : sb (ofB l) = l := by
  simp only [sb, ofB, List.map_map]
  refine (List.map_congr_left fun x hx => ?_).trans (List.map_id _)
  simp [UInt8.toNat_ofNat_of_lt' (h x hx)]
theorem bytesAt_ofB (l : List Nat) (h : ∀ x ∈ l, x < 256) (p z : Nat) (hp : p + z ≤ l.length) : bytesAt (ofB l) p z = (l.drop p).take z := by
  rw [bytesAt_eq _ _ _ (by rw [ofB_size]; exact hp), sb_ofB l h]
theorem ofB_bytesAt (s : ByteArray) (p : Nat) (h : p ≤ s.size) : ofB (bytesAt s 0 p) = s.extract 0 p := by
  apply sb_inj
  rw [sb_ofB _ (bytesAt_lt _ _ _), sb_extract, bytesAt_eq s 0 p (by omega)]
  simp
theorem uS_raw (s : ByteArray) (p : Nat) : (uS s ⟨p, none⟩).2.F = none → bytesAt s 0 (uS s ⟨p, none⟩).2.p = bytesAt s 0 p ++ numB (uS s ⟨p, none⟩).1 ∧ p < (uS s ⟨p, none⟩).2.p := by
  intro hf
  by_cases hc : (numR s p).2.2 = 0
  · have e1 : uS s ⟨p, none⟩ = ((numR s p).1, ⟨p + (numR s p).2.1, none⟩) := by simp [uS, hc]
    rw [e1]
    have := numR_ok s p hc
    refine ⟨?_, by simp only; omega⟩
    rw [numB_read s p hc, bytesAt_add, Nat.zero_add]
  · have e1 : uS s ⟨p, none⟩ = (0, ⟨p, some (((numR s p).2.2 : Int), (p : Int))⟩) := by simp [uS, hc]
    rw [e1] at hf
    cases hf
theorem uS_fault (s : ByteArray) (p : Nat) : (uS s ⟨p, none⟩).2.F ≠ none → (uS s ⟨p, none⟩).2.p = p := by
  intro hf
  by_cases hc : (numR s p).2.2 = 0
  · have e1 : uS s ⟨p, none⟩ = ((numR s p).1, ⟨p + (numR s p).2.1, none⟩) := by simp [uS, hc]
    rw [e1] at hf
    exact absurd rfl hf
  · have e1 : uS s ⟨p, none⟩ = (0, ⟨p, some (((numR s p).2.2 : Int), (p : Int))⟩) := by simp [uS, hc]
    rw [e1]
end Go.Proofs.YtmmdkoomceikiaaDoor
