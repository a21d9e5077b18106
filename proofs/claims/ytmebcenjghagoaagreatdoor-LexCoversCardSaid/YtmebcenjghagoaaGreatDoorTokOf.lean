/-
  The program's own tokenOf, by its contract (over the shelf's internal/stringslite.Clone).
-/
import Derived.Test.YtmebcenjghagoaaGreatDoorRefW
import Derived.Test.YtmebcenjghagoaaGreatDoorShelf
namespace Go.Proofs.YtmebcenjghagoaaGreatDoor
open Go.RowKit
set_option maxRecDepth 100000 in
set_option maxHeartbeats 1000000 in
theorem tokenOf_any (k : Int) (s : ByteArray) (p q : Nat) (hs : s.size ≤ 70368744177664) (hpq : p ≤ q) (hq : q ≤ s.size) (w : World) :
    Calls Tryz.prog 65 #[.int .i64 k, .string s, .int .i64 (p : Int), .int .i64 (q : Int)] w fun e w' => e = .returned (.agg #[.int .i64 k, .int .i64 (p : Int), .int .i64 0, .string (s.extract p q), .int .i64 0]) ∧ Below w.heap.size w w' := by
  have HC := Lib.hid (fun w => Tryz.stringslite_Clone (s.extract p q) w (by rw [ByteArray.size_extract]; omega))
  go_enter Tryz.func65, Tryz.ntmps65
  go_wp2_with (first | (go_at_call 81; go_must (refine (HC.out _).mono ?_; rintro e w' ⟨rfl, hb⟩; have hz : w.heap.size < w'.heap.size := (by have := hb.size; simp at this; omega); have hr := (hb.block w.heap.size (by simp)).trans (heap_alloc_new w _); have q0 : w'.cell? ⟨w.heap.size, 0, none⟩ = some (.int .i64 0) := (by rw [cell_of_row w' w.heap.size 0 _ _ _ hr]; rfl); have f0 : w'.frozen? ⟨w.heap.size, 0, none⟩ = false := (by simp [World.frozen?, hr]); have q1 : w'.cell? ⟨w.heap.size, 1, none⟩ = some (.int .i64 0) := (by rw [cell_of_row w' w.heap.size 1 _ _ _ hr]; rfl); have f1 : w'.frozen? ⟨w.heap.size, 1, none⟩ = false := (by simp [World.frozen?, hr]); have q2 : w'.cell? ⟨w.heap.size, 2, none⟩ = some (.int .i64 0) := (by rw [cell_of_row w' w.heap.size 2 _ _ _ hr]; rfl); have f2 : w'.frozen? ⟨w.heap.size, 2, none⟩ = false := (by simp [World.frozen?, hr]); have q3 : w'.cell? ⟨w.heap.size, 3, none⟩ = some (.string ⟨#[]⟩) := (by rw [cell_of_row w' w.heap.size 3 _ _ _ hr]; rfl); have f3 : w'.frozen? ⟨w.heap.size, 3, none⟩ = false := (by simp [World.frozen?, hr]); have q4 : w'.cell? ⟨w.heap.size, 4, none⟩ = some (.int .i64 0) := (by rw [cell_of_row w' w.heap.size 4 _ _ _ hr]; rfl); have f4 : w'.frozen? ⟨w.heap.size, 4, none⟩ = false := (by simp [World.frozen?, hr]); have HB := Lib.hid hb; have HR := Lib.hid hr; clear hr hb)) | (go_at_call 77; go_in))

  refine bodyPost_ret (v := .agg #[.int .i64 k, .int .i64 (p : Int), .int .i64 0, .string (s.extract p q), .int .i64 0]) (by simp [results, Tryz.results65, go_sem, q0, q1, q2, q3, q4]) rfl ⟨rfl, ?_⟩
  have hb := HB.out
  simp only [World.size_alloc] at hb
  have h0 : Below w.heap.size w w' := ((Below.refl w.heap.size w).alloc (Nat.le_refl _) _).trans (hb.mono (by omega))
  exact ((((h0.setCell (p := ⟨w.heap.size, 0, none⟩) (Nat.le_refl _) _).setCell (p := ⟨w.heap.size, 1, none⟩) (Nat.le_refl _) _).setCell (p := ⟨w.heap.size, 2, none⟩) (Nat.le_refl _) _).setCell (p := ⟨w.heap.size, 3, none⟩) (Nat.le_refl _) _).setCell (p := ⟨w.heap.size, 4, none⟩) (Nat.le_refl _) _
end Go.Proofs.YtmebcenjghagoaaGreatDoor
