/-
  The program's own nameAt, by its contract. Conditions: the listed variable marks holds all marks; the text is shorter than 2^46 bytes.
-/
import Derived.Test.YtmebcenjghagoaaGreatDoorGap
import Derived.Test.YtmebcenjghagoaaGreatDoorTokOf
import Derived.Test.YtmebcenjghagoaaGreatDoorRefT
namespace Go.Proofs.YtmebcenjghagoaaGreatDoor
open Go.RowKit

/-- An error as the program answers it: nil, or a new *api.Fault. -/
def ErrL (w : World) (base : Nat) (v : Value) (f : Nat × Nat) : Prop :=
  (f.1 = 0 ∧ v = .nilIface) ∨ (f.1 ≠ 0 ∧ ∃ b, base ≤ b ∧ v = .iface 68 (.pointer (some ⟨b, 0, none⟩)) ∧ w.heap[b]? = some (.cells #[.int .i64 (f.1 : Int), .int .i64 (f.2 : Int)] 49 (0, 0)))
/-- A token as the program answers it: the line is none yet; with a fault it is zero. -/
def tok0 (x : Tk) : Value := .agg #[.int .i64 (x.k : Int), .int .i64 (x.p : Int), .int .i64 0, .string x.t, .int .i64 x.n]
def TokAns (r : Tk × (Nat × Nat)) (w : World) (e : Ending) (w' : World) : Prop :=
  ∃ v ev, e = .returned (.tuple #[v, ev]) ∧ ErrL w' w.heap.size ev r.2 ∧ v = (if r.2.1 = 0 then tok0 r.1 else .agg #[.int .i64 0, .int .i64 0, .int .i64 0, .string ⟨#[]⟩, .int .i64 0]) ∧ Below w.heap.size w w'
theorem span6_wend (s : ByteArray) (p : Nat) : spanS (ofK 6) s p = wend s p := by
  induction h : s.size - p generalizing p with
  | zero => rw [span_stop (ofK 6) s p (fun hh => absurd hh (by omega)), wend_stop s p (fun hh => absurd hh (by omega))]
  | succ n ih =>
    by_cases hc : p < s.size ∧ ofK 6 (bAt s p) = true
    · have h2 := hc.2
      rw [(ofK_all (bAt s p)).2.2.1, Bool.or_eq_true] at h2
      rw [span_step (ofK 6) s p hc.1 hc.2, wend_step s p hc.1 h2, ih (p + 1) (by omega)]
    · have h2 : p < s.size → ¬ (isL (bAt s p) = true ∨ isD (bAt s p) = true) := fun hh h3 => hc ⟨hh, by rw [(ofK_all (bAt s p)).2.2.1, Bool.or_eq_true]; exact h3⟩
      rw [span_stop (ofK 6) s p (fun hh => Bool.eq_false_iff.2 fun hf => hc ⟨hh, hf⟩), wend_stop s p h2]
theorem fault_any (c a : Int) (w : World) : Calls Tryz.prog 30 #[.int .i64 c, .int .i64 a] w fun e w' => e = .returned (.iface 68 (.pointer (some ⟨w.heap.size, 0, none⟩))) ∧ w' = w.alloc (.cells #[.int .i64 c, .int .i64 a] 49) := by
  go_enter Tryz.func30, Tryz.ntmps30
  go_wp2
  go_ret
  exact ⟨rfl, rfl⟩
/-- The facts on a token's block behind a call that left it alone. -/
theorem tok_block {w w' : World} (hb : Below (w.heap.size + 1) (w.alloc (.cells #[.int .i64 0, .int .i64 0, .int .i64 0, .string ⟨#[]⟩, .int .i64 0] 38)) w') :
    w.heap.size < w'.heap.size ∧ w'.heap[w.heap.size]? = some (.cells #[.int .i64 0, .int .i64 0, .int .i64 0, .string ⟨#[]⟩, .int .i64 0] 38 (0, 0)) ∧ Below w.heap.size w w' := by
  refine ⟨?_, (hb.block w.heap.size (by omega)).trans (heap_alloc_new w _), ?_⟩
  · have := hb.size
    simp only [World.size_alloc] at this
    omega
  · exact ((Below.refl w.heap.size w).alloc (Nat.le_refl _) _).trans (hb.mono (by omega))
set_option maxRecDepth 100000 in
set_option maxHeartbeats 4000000 in
theorem nameAt_any (s : ByteArray) (p : Nat) (w : World) (hM : MarksAt w) (hs : s.size ≤ 70368744177664) (hp : p ≤ s.size) :
    Calls Tryz.prog 67 #[.string s, .int .i64 (p : Int)] w (TokAns (nameT s p) w) := by
  have hMa : MarksAt (w.alloc (.cells #[.int .i64 0, .int .i64 0, .int .i64 0, .string ⟨#[]⟩, .int .i64 0] 38)) := fun k m h => (World.cell?_alloc_lt _ _ ⟨_, k, none⟩ (World.block_lt_of_cell? w _ (hM k m h))).trans (hM k m h)
  have HA := behindAll_6 s p _ hMa hs hp
  rw [span6_wend] at HA
  have HA1 := Lib.hid HA
  have HF := Lib.hid fault_any
  have g1 := wend_ge s p
  have g2 := wend_le s p hp
  have HT := Lib.hid (fun w => tokenOf_any 1 s p (wend s p) hs g1 g2 w)
  obtain ⟨q, hq⟩ : ∃ q, wend s p = q := ⟨_, rfl⟩
  rw [hq] at HA1 HT g1 g2
  clear HA hMa
  by_cases hlong : 16 < q - p
  · have HE : Hid (nameT s p = (⟨0, p, lineS s p, ByteArray.empty, 0⟩, (4, p))) := by unfold nameT; rw [hq, if_pos hlong]; rfl
    have hi : (16 : Int) < (q : Int) - (p : Int) := by omega
    clear hq hlong hM
    go_enter Tryz.func67, Tryz.ntmps67
    go_wp2_with (first | (go_at_call 63; refine HA1.out.mono ?_; rintro e w' ⟨rfl, rfl⟩) | (go_at_call 30; refine (HF.out _ _ _).mono ?_; rintro e w' ⟨rfl, rfl⟩))
    refine bodyPost_ret (v := .tuple #[.agg #[.int .i64 0, .int .i64 0, .int .i64 0, .string ⟨#[]⟩, .int .i64 0], .iface 68 (.pointer (some ⟨w.heap.size + 1, 0, none⟩))]) (by simp [results, Tryz.results67, go_sem]) rfl ⟨_, _, rfl, ?_, ?_, ?_⟩
    · rw [HE.out]
      refine Or.inr ⟨Nat.succ_ne_zero 3, w.heap.size + 1, by omega, rfl, ?_⟩
      exact heap_alloc2_new _ _ _
    · rw [HE.out]; rfl
    · exact ((Below.refl _ _).alloc (Nat.le_refl _) _).alloc (by simp) _
  · have HE : Hid (nameT s p = (⟨1, p, lineS s p, s.extract p q, 0⟩, (0, 0))) := by unfold nameT; rw [hq, if_neg hlong]; rfl
    have hi : ¬ (16 : Int) < (q : Int) - (p : Int) := by omega
    clear hq hlong hM
    go_enter Tryz.func67, Tryz.ntmps67
    go_wp2_with (first | (go_at_call 63; refine HA1.out.mono ?_; rintro e w' ⟨rfl, rfl⟩) | (go_at_call 65; go_must (refine (HT.out _).mono ?_; rintro e w' ⟨rfl, hb⟩; simp only [World.size_alloc] at hb; obtain ⟨hz, hr, hbw⟩ := tok_block hb; have q0 : w'.cell? ⟨w.heap.size, 0, none⟩ = some (.int .i64 0) := (by rw [cell_of_row w' w.heap.size 0 _ _ _ hr]; rfl); have f0 : w'.frozen? ⟨w.heap.size, 0, none⟩ = false := (by simp [World.frozen?, hr]); have q1 : w'.cell? ⟨w.heap.size, 1, none⟩ = some (.int .i64 0) := (by rw [cell_of_row w' w.heap.size 1 _ _ _ hr]; rfl); have f1 : w'.frozen? ⟨w.heap.size, 1, none⟩ = false := (by simp [World.frozen?, hr]); have q2 : w'.cell? ⟨w.heap.size, 2, none⟩ = some (.int .i64 0) := (by rw [cell_of_row w' w.heap.size 2 _ _ _ hr]; rfl); have f2 : w'.frozen? ⟨w.heap.size, 2, none⟩ = false := (by simp [World.frozen?, hr]); have q3 : w'.cell? ⟨w.heap.size, 3, none⟩ = some (.string ⟨#[]⟩) := (by rw [cell_of_row w' w.heap.size 3 _ _ _ hr]; rfl); have f3 : w'.frozen? ⟨w.heap.size, 3, none⟩ = false := (by simp [World.frozen?, hr]); have q4 : w'.cell? ⟨w.heap.size, 4, none⟩ = some (.int .i64 0) := (by rw [cell_of_row w' w.heap.size 4 _ _ _ hr]; rfl); have f4 : w'.frozen? ⟨w.heap.size, 4, none⟩ = false := (by simp [World.frozen?, hr]); have HB := Lib.hid hbw; clear hr hb hbw)))
    refine bodyPost_ret (v := .tuple #[.agg #[.int .i64 1, .int .i64 (p : Int), .int .i64 0, .string (s.extract p q), .int .i64 0], .nilIface]) (by simp [results, Tryz.results67, go_sem, q0, q1, q2, q3, q4]) rfl ⟨_, _, rfl, ?_, ?_, ?_⟩
    · rw [HE.out]; exact Or.inl ⟨rfl, rfl⟩
    · rw [HE.out]; rfl
    · exact ((((HB.out.setCell (p := ⟨w.heap.size, 0, none⟩) (Nat.le_refl _) _).setCell (p := ⟨w.heap.size, 1, none⟩) (Nat.le_refl _) _).setCell (p := ⟨w.heap.size, 2, none⟩) (Nat.le_refl _) _).setCell (p := ⟨w.heap.size, 3, none⟩) (Nat.le_refl _) _).setCell (p := ⟨w.heap.size, 4, none⟩) (Nat.le_refl _) _
end Go.Proofs.YtmebcenjghagoaaGreatDoor
