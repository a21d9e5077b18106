/-
  What reads an in, by contracts: New, Fail, take, U, I, B, T: each does what the plain functions of State say. Condition: the listed variables hold what they hold; the text is shorter than 2^47 bytes.
-/
import Derived.Test.YtmmdkoomceikiaaDoorState
namespace Go.Proofs.YtmmdkoomceikiaaDoor
open Go.RowKit

theorem New_any (s : ByteArray) (w : World) : Calls Tryd.prog 8 #[.string s] w fun e w' => e = .returned (.pointer (some ⟨w.heap.size, 0, none⟩)) ∧ w' = w.alloc (.cells #[.string s, .int .i64 0, .nilIface] 71) := by
  go_enter Tryd.func8, Tryd.ntmps8
  go_wp2
  go_ret
  exact ⟨rfl, rfl⟩
theorem InS.new (s : ByteArray) (w : World) : InS (w.alloc (.cells #[.string s, .int .i64 0, .nilIface] 71)) w.heap.size s 0 none :=
  ⟨.nilIface, heap_alloc_new w _, rfl⟩

/-- The world behind a fault that is given: the fault's block, and the in's third cell. -/
def failW (w : World) (b : Nat) (c a : Int) : World := (w.alloc (.cells #[.int .i64 c, .int .i64 a] 28)).setCell ⟨b, 2, none⟩ (.iface 72 (.pointer (some ⟨w.heap.size, 0, none⟩)))
theorem failW_in {w : World} {b : Nat} {s : ByteArray} {p : Nat} {f : Value} (h : InB w b s p f) (c a : Int) : InS (failW w b c a) b s p (some (c, a)) := by
  refine ⟨_, (h.alloc _).fault _, w.heap.size, rfl, ?_⟩
  have := h.lt
  unfold FltB failW
  rw [Below.heap_setCell _ _ _ _ (by simp; omega)]
  exact heap_alloc_new w _
theorem failW_chg (w : World) (b : Nat) (c a : Int) : Chg b w (failW w b c a) := (Chg.alloc b w _).trans (Chg.setCell b 2 _ _)

theorem Fail_set (b : Nat) (s : ByteArray) (p : Nat) (c a : Int) (w : World) (h : InB w b s p .nilIface) (hc : (c == 0) = false) :
    Calls Tryd.prog 28 #[.pointer (some ⟨b, 0, none⟩), .int .i64 c, .int .i64 a] w fun e w' => e = .returned (.tuple #[]) ∧ w' = failW w b c a := by
  unfold failW
  have hs := Lib.hid (stopped_no b w h.c2)
  have k2 := (h.alloc (.cells #[.int .i64 c, .int .i64 a] 28)).c2
  have kf := (h.alloc (.cells #[.int .i64 c, .int .i64 a] 28)).fz 2
  go_enter Tryd.func28, Tryd.ntmps28
  go_wp2_with (go_at_call 48; refine hs.out.mono ?_; rintro e w' ⟨rfl, rfl⟩)
  go_end0
  exact ⟨rfl, rfl⟩
theorem Fail_ok (b : Nat) (s : ByteArray) (p : Nat) (a : Int) (w : World) (h : InB w b s p .nilIface) :
    Calls Tryd.prog 28 #[.pointer (some ⟨b, 0, none⟩), .int .i64 0, .int .i64 a] w fun e w' => e = .returned (.tuple #[]) ∧ w = w' := by
  have hs := Lib.hid (stopped_no b w h.c2)
  go_enter Tryd.func28, Tryd.ntmps28
  go_wp2_with (go_at_call 48; refine hs.out.mono ?_; rintro e w' ⟨rfl, rfl⟩)
  refine bodyPost_ret (results_none rfl _ _ _) rfl ?_
  exact ⟨rfl, rfl⟩
theorem Fail_late (b : Nat) (t : TypeId) (v : Value) (c a : Int) (w : World) (h : w.cell? ⟨b, 2, none⟩ = some (.iface t v)) :
    Calls Tryd.prog 28 #[.pointer (some ⟨b, 0, none⟩), .int .i64 c, .int .i64 a] w fun e w' => e = .returned (.tuple #[]) ∧ w = w' := by
  have hs := Lib.hid (stopped_yes b t v w h)
  go_enter Tryd.func28, Tryd.ntmps28
  go_wp2_with (go_at_call 48; refine hs.out.mono ?_; rintro e w' ⟨rfl, rfl⟩)
  refine bodyPost_ret (results_none rfl _ _ _) rfl ?_
  exact ⟨rfl, rfl⟩

theorem take_bad (b : Nat) (s : ByteArray) (p : Nat) (z c : Int) (w : World) (h : InB w b s p .nilIface) (hc : (c == 0) = false) :
    Calls Tryd.prog 50 #[.pointer (some ⟨b, 0, none⟩), .int .i64 z, .int .i64 c] w fun e w' => e = .returned (.bool false) ∧ w' = failW w b c p := by
  have hs := Lib.hid (Fail_set b s p c p w h hc)
  have hc' : (c != 0) = true := by rw [bne, hc]; rfl
  have h1 := h.c1
  go_enter Tryd.func50, Tryd.ntmps50
  go_wp2_with (go_at_call 28; refine hs.out.mono ?_; rintro e w' ⟨rfl, rfl⟩)
  go_ret
  exact ⟨rfl, rfl⟩
theorem take_ok (b : Nat) (s : ByteArray) (p : Nat) (z : Nat) (w : World) (h : InB w b s p .nilIface) (hb : p + z ≤ 140737488355328) :
    Calls Tryd.prog 50 #[.pointer (some ⟨b, 0, none⟩), .int .i64 z, .int .i64 0] w fun e w' => e = .returned (.bool true) ∧ InB w' b s (p + z) .nilIface ∧ Chg b w w' := by
  have h1 := h.c1
  have hf := h.fz 1
  have hW := h.place (p + z)
  rw [show ((p + z : Nat) : Int) = (p : Int) + (z : Int) from by omega] at hW
  have HW := Lib.hid hW
  clear hW
  go_enter Tryd.func50, Tryd.ntmps50
  go_wp2
  go_ret
  exact ⟨rfl, HW.out, Chg.setCell b 1 _ _⟩

/-- The contract of U: both ends. -/
theorem U_late (b : Nat) (t : TypeId) (v : Value) (w : World) (h : w.cell? ⟨b, 2, none⟩ = some (.iface t v)) :
    Calls Tryd.prog 27 #[.pointer (some ⟨b, 0, none⟩)] w fun e w' => e = .returned (.int .u64 0) ∧ w = w' := by
  have hs := Lib.hid (stopped_yes b t v w h)
  go_enter Tryd.func27, Tryd.ntmps27
  go_wp2_with (go_at_call 48; refine hs.out.mono ?_; rintro e w' ⟨rfl, rfl⟩)
  go_ret
  exact ⟨rfl, rfl⟩
set_option maxHeartbeats 1000000 in
theorem U_bad (b p : Nat) (s : ByteArray) (w : World) (hL : Laid w) (h : InB w b s p .nilIface) (hp : p ≤ s.size) (hs : s.size ≤ 140737488355328) (hc : (numR s p).2.2 ≠ 0) :
    Calls Tryd.prog 27 #[.pointer (some ⟨b, 0, none⟩)] w fun e w' => e = .returned (.int .u64 0) ∧ ∃ n, w' = failW (w.drewN n) b (numR s p).2.2 p := by
  have h1 := Lib.hid (stopped_no b w h.c2)
  have h2 := Lib.hid (number_any b p s w hL h.c0 h.c1 hp hs)
  generalize numR s p = R at *
  have h3 := Lib.hid (fun n => take_bad b s p R.2.1 R.2.2 (w.drewN n) (h.drewN n) (by simpa using hc))
  clear hL hc
  go_enter Tryd.func27, Tryd.ntmps27
  go_wp2_with (first | (go_at_call 48; refine h1.out.mono ?_; rintro e w' ⟨rfl, rfl⟩) | (go_at_call 49; refine h2.out.mono ?_; rintro e w' ⟨rfl, n, rfl⟩) | (go_at_call 50; refine (h3.out n).mono ?_; rintro e w' ⟨rfl, rfl⟩))
  go_ret
  exact ⟨rfl, _, rfl⟩
set_option maxHeartbeats 1000000 in
theorem U_ok (b p : Nat) (s : ByteArray) (w : World) (hL : Laid w) (h : InB w b s p .nilIface) (hp : p ≤ s.size) (hs : s.size ≤ 70368744177664) (hc : (numR s p).2.2 = 0) (hz : (numR s p).2.1 ≤ 8) :
    Calls Tryd.prog 27 #[.pointer (some ⟨b, 0, none⟩)] w fun e w' => e = .returned (.int .u64 (numR s p).1) ∧ InB w' b s (p + (numR s p).2.1) .nilIface ∧ Chg b w w' := by
  have h1 := Lib.hid (stopped_no b w h.c2)
  have h2 := number_any b p s w hL h.c0 h.c1 hp (by omega)
  rw [hc] at h2
  have H2 := Lib.hid h2
  clear h2 hc
  generalize numR s p = R at *
  have h3 := Lib.hid (fun n => take_ok b s p R.2.1 (w.drewN n) (h.drewN n) (by omega))
  clear hL
  go_enter Tryd.func27, Tryd.ntmps27
  go_wp2_with (first | (go_at_call 48; refine h1.out.mono ?_; rintro e w' ⟨rfl, rfl⟩) | (go_at_call 49; refine H2.out.mono ?_; rintro e w' ⟨rfl, n, rfl⟩) | (go_at_call 50; refine (h3.out n).mono ?_; rintro e w' ⟨rfl, hin, hch⟩))
  go_ret
  exact ⟨rfl, hin, (Chg.drewN b w n).trans hch⟩
end Go.Proofs.YtmmdkoomceikiaaDoor
