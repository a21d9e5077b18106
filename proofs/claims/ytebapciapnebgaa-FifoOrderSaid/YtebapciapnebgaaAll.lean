/-
  All, bytes, is: by their contracts. Made by wip/genfifoall.py.
-/
import Derived.Test.YtebapciapnebgaaPop
namespace Go.Proofs.Ytebapciapnebgaa
open Go.RowKit
set_option linter.unusedVariables false
theorem run_make_u8 (m : Nat) (hm : m ≤ 8) (W : World) : (Instr.makeSlice 25 (.int .i64 (m : Int)) (.int .i64 (m : Int))).run Try.prog W = .ok (.slice (some ⟨W.heap.size, 0, none⟩) m m) (W.alloc (.cells (bvals (List.replicate m 0)).toArray 5)) := by
  have h : m = 0 ∨ m = 1 ∨ m = 2 ∨ m = 3 ∨ m = 4 ∨ m = 5 ∨ m = 6 ∨ m = 7 ∨ m = 8 := by omega
  rcases h with rfl | rfl | rfl | rfl | rfl | rfl | rfl | rfl | rfl <;> (show _ = _; kernel_rfl)
theorem splice_all (m : Nat) (L : List Nat) (h : L.length = m) : splice (bvals (List.replicate m 0)) 0 (bvals L) = bvals L := by
  subst h
  simp [splice, bvals]
set_option maxRecDepth 100000 in
theorem all_any (n : Int) (bs : List Nat) (w : World) (hb : bs.length = 8) (hn : -9223372036854775808 ≤ n) (hn' : n ≤ 9223372036854775807) :
    Calls Try.prog 16 #[qv n bs] w fun e w' => ∃ v, e = .returned v ∧ Own w' w.heap.size v (cutL n bs) ∧ Below w.heap.size w w' := by
  have hle := cutL_le n bs hb
  obtain ⟨L, hL⟩ : ∃ L, cutL n bs = L := ⟨_, rfl⟩
  rw [hL] at hle ⊢
  have HM : Hid (∀ W : World, Calls Try.prog 14 #[qv n bs] W fun e w' => e = .returned (qv (L.length : Nat) (pad L)) ∧ Below W.heap.size W w') := Lib.hid (fun W => by
    have h := mend_any n bs W hb hn hn'
    rw [hL, ofV_le L hle] at h
    exact h)
  clear hL
  obtain ⟨b0, b1, b2, b3, b4, b5, b6, b7, rfl⟩ := eight hb
  rw [qv_eq]
  obtain ⟨m, hm⟩ : ∃ m, L.length = m := ⟨_, rfl⟩
  obtain ⟨PL, hPL⟩ : ∃ PL, pad L = PL := ⟨_, rfl⟩
  have hP8 : Hid (PL.length = 8) := Lib.hid (by rw [← hPL]; exact pad_length L)
  rw [hm] at HM hle
  have HT : Hid (PL.take m = L) := Lib.hid (by rw [← hPL, pad_le (by omega), ← hm]; simp)
  have HLM : Hid ((bvals L).length = Nat.min 8 m) := Lib.hid (by rw [bvals_length, hm]; exact (Nat.min_eq_right hle).symm)
  have HZ : Hid ((bvals (List.replicate m 0)).length = m) := Lib.hid (by simp [bvals])
  have HLM2 : Hid ((bvals L).length = m) := Lib.hid (by rw [bvals_length, hm])
  rw [hPL] at HM
  have hmk := fun W => run_make_u8 m hle W
  go_enter Try.func16, Try.ntmps16
  go_wp2_with (first
      | (go_at_call 14; refine (HM.out _).mono ?_; rintro e w1 ⟨rfl, hB⟩
         have HQ1 : Hid (QRow w1 w.heap.size 24 n [b0, b1, b2, b3, b4, b5, b6, b7]) := Lib.hid (QRow.below (QRow.al w n b0 b1 b2 b3 b4 b5 b6 b7 24) hB (by simp))
         have HB1 : Hid (Below w.heap.size w w1) := Lib.hid (((Below.refl _ _).alloc (Nat.le_refl _) _).trans (hB.mono (by simp)))
         clear hB)
      | ((with_reducible show wpList _ _ _ (⟨some 4, .load 24 (.tmp 1), _, _, _, _⟩ :: _) _ _); refine wpList_load_q rfl 24 _ rfl (w.heap.size) (by exact rfl) _ Try.underlying24 (by kernel_rfl) 24 _ _ (QRow.al w n b0 b1 b2 b3 b4 b5 b6 b7 24) (rfl) ?_)
      | ((with_reducible show wpList _ _ _ (⟨none, .store 24 (.tmp 1) (.tmp 5), _, _, _, _⟩ :: _) _ _); refine wpList_store_q rfl 24 _ _ rfl (w.heap.size) (by exact rfl) _ _ (by exact rfl) (hP8.out) (by kernel_rfl) 24 _ _ (HQ1.out) (rfl) ?_; intro w2 HQ2 HO2 HB2
         have HA2 : Hid (Below w.heap.size w w2) := Lib.hid (HB1.out.trans HB2.out)
         have q2 : w2.cell? ⟨w.heap.size, 0, none⟩ = some (.int .i64 m) := row_at HQ2.out 0 _ rfl
         clear HQ1 HB1 HO2 HB2)
      | ((with_reducible refine wpList_copy_splice (o := ⟨some 12, _, _, _, _, _⟩) rfl (.tmp 9) (.tmp 11) 25 25 rfl 5 Try.underlying25 (by kernel_rfl) _ _ _ _ _ _ rfl rfl w2.heap.size 0 (bvals (List.replicate m 0)) 5 (alloc_at _ _) (bvals L) HLM.out (fun h0 => ⟨rfl, _, rfl, fun j v hj => ?hsrc⟩) (by rw [HLM2.out, HZ.out]; omega) (bvals_one _) w2.heap.size _ (Below.refl _ _) (Nat.le_refl _) ?_)
         case hsrc => (obtain ⟨x, hx, rfl⟩ := bvals_at hj; exact (rdb_q (QRow.below HQ2.out ((Below.refl w2.heap.size w2).alloc (Nat.le_refl _) _) HQ2.out.lt) 0 m).cells _ rfl j x (by rw [List.drop_zero, HT.out]; exact hx))
         intro w4 HG4 HB4))
  have hG := HG4.out
  rw [splice_all m L hm] at hG
  go_ret
  refine ⟨_, rfl, ⟨by rw [bvals_length]; simp, .inr ⟨w2.heap.size, m, _, by rw [hm]; rfl, HA2.out.size, hG, by omega, by simp only [maxLen]; omega, by simp [bvals, hm], by rw [Nat.mul_one]; exact List.take_of_length_le (by simp [bvals])⟩⟩, HA2.out.trans ((((Below.refl _ _).alloc (Nat.le_refl _) _).trans HB4).mono HA2.out.size)⟩
/-! ### bytes -/
def ofB (l : List Nat) : ByteArray := ⟨(l.map UInt8.ofNat).toArray⟩
/-- string(b), b a slice that reads as bytes. -/
theorem conv_rd (w : World) (B : Nat) (A : Option Addr) (c : Nat) (l : List Nat) (h : RdB w B A l) (hl : ∀ x ∈ l, x < 256) : (convert 25 9 (.slice A l.length c)).run Try.prog w = .ok (.string (ofB l)) w := by
  rcases A with _ | a
  · have e := h.none_ rfl
    subst e
    show (convert 25 9 (.slice none 0 c)).run Try.prog w = _
    rw [run_convert_bytes_string w 25 9 5 none 0 c Try.underlying25 Try.underlying5 Try.underlying9]
    rfl
  · have hc := run_convert_bytes_back (P := Try.prog) w 25 9 5 a c (l.map UInt8.ofNat) Try.underlying25 Try.underlying5 Try.underlying9 (fun j hj => by
      have hj' : j < l.length := by simpa using hj
      rw [h.cells a rfl j l[j] (List.getElem?_eq_getElem hj')]
      have hx := hl l[j] (List.getElem_mem hj')
      simp only [List.getElem_map]
      rw [UInt8.toNat_ofNat_of_lt' hx])
    rw [List.length_map] at hc
    exact hc
set_option maxRecDepth 100000 in
theorem bytes_same (A1 A2 : Option Addr) (c1 c2 : Nat) (l : List Nat) (w : World) (B1 B2 : Nat) (h1 : RdB w B1 A1 l) (h2 : RdB w B2 A2 l) (hl : ∀ x ∈ l, x < 256) :
    Calls Try.prog 20 #[.slice A1 l.length c1, .slice A2 l.length c2] w fun e w' => e = .returned (.bool true) ∧ Below w.heap.size w w' := by
  have v1 := conv_rd w B1 A1 c1 l h1 hl
  have v2 := conv_rd w B2 A2 c2 l h2 hl
  generalize ofB l = S at *
  generalize l.length = n at *
  clear h1 h2 hl
  go_enter Try.func20, Try.ntmps20
  go_wp2
  go_ret
  exact ⟨by simp, Below.refl _ _⟩
end Go.Proofs.Ytebapciapnebgaa
