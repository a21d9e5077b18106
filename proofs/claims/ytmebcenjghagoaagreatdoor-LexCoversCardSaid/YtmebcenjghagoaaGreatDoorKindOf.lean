/-
  The program's own kindOf, by its contract. Condition: the listed variable marks holds all marks.
-/
import Derived.Test.YtmebcenjghagoaaGreatDoorKind
namespace Go.Proofs.YtmebcenjghagoaaGreatDoor
open Go.RowKit
def isH (b : Nat) : Bool := (decide (97 ≤ b) && decide (b ≤ 102)) || (decide (65 ≤ b) && decide (b ≤ 70))
/-- What a byte is, as the program numbers it. -/
def kindS (b : Nat) : Nat := if isB b then 1 else if isD b then 12 else if isH b then 10 else if isL b then 2 else if isMk b then 16 else 0
def OkK (v : Nat) (w : World) (e : Ending) (w' : World) : Prop := e = .returned (.int .u8 (v : Int)) ∧ w = w'
set_option maxHeartbeats 1000000 in
theorem kindOf_0 (b : Nat) (w : World) (hM : MarksAt w) (h1 : 0 ≤ b) (h2 : b ≤ 8) (r : Bool) (hr : isMk b = r) : Calls Tryz.prog 66 #[.int .u8 (b : Int)] w (OkK (if r then 16 else 0) w) := by
  have hb := beginsMark_any b w hM
  rw [hr] at hb
  have HB := Lib.hid (fun _ : Unit => hb)
  clear hb hr hM
  have e1 : ((b : Int) == 9) = false := by simp; omega
  have e2 : ((b : Int) == 10) = false := by simp; omega
  have e3 : ((b : Int) == 32) = false := by simp; omega
  have e4 : ((b : Int) == 95) = false := by simp; omega
  have e5 : decide (48 ≤ (b : Int)) = false := by simp; omega
  have e6 : decide (97 ≤ (b : Int)) = false := by simp; omega
  have e7 : decide (65 ≤ (b : Int)) = false := by simp; omega
  have e8 : decide ((b : Int) ≤ 57) = true := by simp; omega
  have e9 : decide ((b : Int) ≤ 102) = true := by simp; omega
  have e10 : decide ((b : Int) ≤ 70) = true := by simp; omega
  have e11 : decide ((b : Int) ≤ 122) = true := by simp; omega
  have e12 : decide ((b : Int) ≤ 90) = true := by simp; omega
  clear h1 h2
  cases r
  · go_enter Tryz.func66, Tryz.ntmps66
    go_wp2_with (go_at_call 78; refine (HB.out ()).mono ?_; rintro e w' ⟨rfl, rfl⟩)
    go_ret
    exact ⟨rfl, rfl⟩
  · go_enter Tryz.func66, Tryz.ntmps66
    go_wp2_with (go_at_call 78; refine (HB.out ()).mono ?_; rintro e w' ⟨rfl, rfl⟩)
    go_ret
    exact ⟨rfl, rfl⟩
set_option maxHeartbeats 1000000 in
theorem kindOf_1 (b : Nat) (w : World) (h1 : 9 ≤ b) (h2 : b ≤ 9) : Calls Tryz.prog 66 #[.int .u8 (b : Int)] w (OkK 1 w) := by
  obtain rfl : b = 9 := by omega
  go_enter Tryz.func66, Tryz.ntmps66
  go_wp2
  go_ret
  exact ⟨rfl, rfl⟩
set_option maxHeartbeats 1000000 in
theorem kindOf_2 (b : Nat) (w : World) (h1 : 10 ≤ b) (h2 : b ≤ 10) : Calls Tryz.prog 66 #[.int .u8 (b : Int)] w (OkK 1 w) := by
  obtain rfl : b = 10 := by omega
  go_enter Tryz.func66, Tryz.ntmps66
  go_wp2
  go_ret
  exact ⟨rfl, rfl⟩
set_option maxHeartbeats 1000000 in
theorem kindOf_3 (b : Nat) (w : World) (hM : MarksAt w) (h1 : 11 ≤ b) (h2 : b ≤ 31) (r : Bool) (hr : isMk b = r) : Calls Tryz.prog 66 #[.int .u8 (b : Int)] w (OkK (if r then 16 else 0) w) := by
  have hb := beginsMark_any b w hM
  rw [hr] at hb
  have HB := Lib.hid (fun _ : Unit => hb)
  clear hb hr hM
  have e1 : ((b : Int) == 9) = false := by simp; omega
  have e2 : ((b : Int) == 10) = false := by simp; omega
  have e3 : ((b : Int) == 32) = false := by simp; omega
  have e4 : ((b : Int) == 95) = false := by simp; omega
  have e5 : decide (48 ≤ (b : Int)) = false := by simp; omega
  have e6 : decide (97 ≤ (b : Int)) = false := by simp; omega
  have e7 : decide (65 ≤ (b : Int)) = false := by simp; omega
  have e8 : decide ((b : Int) ≤ 57) = true := by simp; omega
  have e9 : decide ((b : Int) ≤ 102) = true := by simp; omega
  have e10 : decide ((b : Int) ≤ 70) = true := by simp; omega
  have e11 : decide ((b : Int) ≤ 122) = true := by simp; omega
  have e12 : decide ((b : Int) ≤ 90) = true := by simp; omega
  clear h1 h2
  cases r
  · go_enter Tryz.func66, Tryz.ntmps66
    go_wp2_with (go_at_call 78; refine (HB.out ()).mono ?_; rintro e w' ⟨rfl, rfl⟩)
    go_ret
    exact ⟨rfl, rfl⟩
  · go_enter Tryz.func66, Tryz.ntmps66
    go_wp2_with (go_at_call 78; refine (HB.out ()).mono ?_; rintro e w' ⟨rfl, rfl⟩)
    go_ret
    exact ⟨rfl, rfl⟩
set_option maxHeartbeats 1000000 in
theorem kindOf_4 (b : Nat) (w : World) (h1 : 32 ≤ b) (h2 : b ≤ 32) : Calls Tryz.prog 66 #[.int .u8 (b : Int)] w (OkK 1 w) := by
  obtain rfl : b = 32 := by omega
  go_enter Tryz.func66, Tryz.ntmps66
  go_wp2
  go_ret
  exact ⟨rfl, rfl⟩
set_option maxHeartbeats 1000000 in
theorem kindOf_5 (b : Nat) (w : World) (hM : MarksAt w) (h1 : 33 ≤ b) (h2 : b ≤ 47) (r : Bool) (hr : isMk b = r) : Calls Tryz.prog 66 #[.int .u8 (b : Int)] w (OkK (if r then 16 else 0) w) := by
  have hb := beginsMark_any b w hM
  rw [hr] at hb
  have HB := Lib.hid (fun _ : Unit => hb)
  clear hb hr hM
  have e1 : ((b : Int) == 9) = false := by simp; omega
  have e2 : ((b : Int) == 10) = false := by simp; omega
  have e3 : ((b : Int) == 32) = false := by simp; omega
  have e4 : ((b : Int) == 95) = false := by simp; omega
  have e5 : decide (48 ≤ (b : Int)) = false := by simp; omega
  have e6 : decide (97 ≤ (b : Int)) = false := by simp; omega
  have e7 : decide (65 ≤ (b : Int)) = false := by simp; omega
  have e8 : decide ((b : Int) ≤ 57) = true := by simp; omega
  have e9 : decide ((b : Int) ≤ 102) = true := by simp; omega
  have e10 : decide ((b : Int) ≤ 70) = true := by simp; omega
  have e11 : decide ((b : Int) ≤ 122) = true := by simp; omega
  have e12 : decide ((b : Int) ≤ 90) = true := by simp; omega
  clear h1 h2
  cases r
  · go_enter Tryz.func66, Tryz.ntmps66
    go_wp2_with (go_at_call 78; refine (HB.out ()).mono ?_; rintro e w' ⟨rfl, rfl⟩)
    go_ret
    exact ⟨rfl, rfl⟩
  · go_enter Tryz.func66, Tryz.ntmps66
    go_wp2_with (go_at_call 78; refine (HB.out ()).mono ?_; rintro e w' ⟨rfl, rfl⟩)
    go_ret
    exact ⟨rfl, rfl⟩
set_option maxHeartbeats 1000000 in
theorem kindOf_6 (b : Nat) (w : World) (h1 : 48 ≤ b) (h2 : b ≤ 57) : Calls Tryz.prog 66 #[.int .u8 (b : Int)] w (OkK 12 w) := by
  have e1 : ((b : Int) == 9) = false := by simp; omega
  have e2 : ((b : Int) == 10) = false := by simp; omega
  have e3 : ((b : Int) == 32) = false := by simp; omega
  have e4 : ((b : Int) == 95) = false := by simp; omega
  have e5 : decide (48 ≤ (b : Int)) = true := by simp; omega
  have e6 : decide (97 ≤ (b : Int)) = false := by simp; omega
  have e7 : decide (65 ≤ (b : Int)) = false := by simp; omega
  have e8 : decide ((b : Int) ≤ 57) = true := by simp; omega
  have e9 : decide ((b : Int) ≤ 102) = true := by simp; omega
  have e10 : decide ((b : Int) ≤ 70) = true := by simp; omega
  have e11 : decide ((b : Int) ≤ 122) = true := by simp; omega
  have e12 : decide ((b : Int) ≤ 90) = true := by simp; omega
  clear h1 h2
  go_enter Tryz.func66, Tryz.ntmps66
  go_wp2
  go_ret
  exact ⟨rfl, rfl⟩
set_option maxHeartbeats 1000000 in
theorem kindOf_7 (b : Nat) (w : World) (hM : MarksAt w) (h1 : 58 ≤ b) (h2 : b ≤ 64) (r : Bool) (hr : isMk b = r) : Calls Tryz.prog 66 #[.int .u8 (b : Int)] w (OkK (if r then 16 else 0) w) := by
  have hb := beginsMark_any b w hM
  rw [hr] at hb
  have HB := Lib.hid (fun _ : Unit => hb)
  clear hb hr hM
  have e1 : ((b : Int) == 9) = false := by simp; omega
  have e2 : ((b : Int) == 10) = false := by simp; omega
  have e3 : ((b : Int) == 32) = false := by simp; omega
  have e4 : ((b : Int) == 95) = false := by simp; omega
  have e5 : decide (48 ≤ (b : Int)) = true := by simp; omega
  have e6 : decide (97 ≤ (b : Int)) = false := by simp; omega
  have e7 : decide (65 ≤ (b : Int)) = false := by simp; omega
  have e8 : decide ((b : Int) ≤ 57) = false := by simp; omega
  have e9 : decide ((b : Int) ≤ 102) = true := by simp; omega
  have e10 : decide ((b : Int) ≤ 70) = true := by simp; omega
  have e11 : decide ((b : Int) ≤ 122) = true := by simp; omega
  have e12 : decide ((b : Int) ≤ 90) = true := by simp; omega
  clear h1 h2
  cases r
  · go_enter Tryz.func66, Tryz.ntmps66
    go_wp2_with (go_at_call 78; refine (HB.out ()).mono ?_; rintro e w' ⟨rfl, rfl⟩)
    go_ret
    exact ⟨rfl, rfl⟩
  · go_enter Tryz.func66, Tryz.ntmps66
    go_wp2_with (go_at_call 78; refine (HB.out ()).mono ?_; rintro e w' ⟨rfl, rfl⟩)
    go_ret
    exact ⟨rfl, rfl⟩
set_option maxHeartbeats 1000000 in
theorem kindOf_8 (b : Nat) (w : World) (h1 : 65 ≤ b) (h2 : b ≤ 70) : Calls Tryz.prog 66 #[.int .u8 (b : Int)] w (OkK 10 w) := by
  have e1 : ((b : Int) == 9) = false := by simp; omega
  have e2 : ((b : Int) == 10) = false := by simp; omega
  have e3 : ((b : Int) == 32) = false := by simp; omega
  have e4 : ((b : Int) == 95) = false := by simp; omega
  have e5 : decide (48 ≤ (b : Int)) = true := by simp; omega
  have e6 : decide (97 ≤ (b : Int)) = false := by simp; omega
  have e7 : decide (65 ≤ (b : Int)) = true := by simp; omega
  have e8 : decide ((b : Int) ≤ 57) = false := by simp; omega
  have e9 : decide ((b : Int) ≤ 102) = true := by simp; omega
  have e10 : decide ((b : Int) ≤ 70) = true := by simp; omega
  have e11 : decide ((b : Int) ≤ 122) = true := by simp; omega
  have e12 : decide ((b : Int) ≤ 90) = true := by simp; omega
  clear h1 h2
  go_enter Tryz.func66, Tryz.ntmps66
  go_wp2
  go_ret
  exact ⟨rfl, rfl⟩
set_option maxHeartbeats 1000000 in
theorem kindOf_9 (b : Nat) (w : World) (h1 : 71 ≤ b) (h2 : b ≤ 90) : Calls Tryz.prog 66 #[.int .u8 (b : Int)] w (OkK 2 w) := by
  have e1 : ((b : Int) == 9) = false := by simp; omega
  have e2 : ((b : Int) == 10) = false := by simp; omega
  have e3 : ((b : Int) == 32) = false := by simp; omega
  have e4 : ((b : Int) == 95) = false := by simp; omega
  have e5 : decide (48 ≤ (b : Int)) = true := by simp; omega
  have e6 : decide (97 ≤ (b : Int)) = false := by simp; omega
  have e7 : decide (65 ≤ (b : Int)) = true := by simp; omega
  have e8 : decide ((b : Int) ≤ 57) = false := by simp; omega
  have e9 : decide ((b : Int) ≤ 102) = true := by simp; omega
  have e10 : decide ((b : Int) ≤ 70) = false := by simp; omega
  have e11 : decide ((b : Int) ≤ 122) = true := by simp; omega
  have e12 : decide ((b : Int) ≤ 90) = true := by simp; omega
  clear h1 h2
  go_enter Tryz.func66, Tryz.ntmps66
  go_wp2
  go_ret
  exact ⟨rfl, rfl⟩
set_option maxHeartbeats 1000000 in
theorem kindOf_10 (b : Nat) (w : World) (hM : MarksAt w) (h1 : 91 ≤ b) (h2 : b ≤ 94) (r : Bool) (hr : isMk b = r) : Calls Tryz.prog 66 #[.int .u8 (b : Int)] w (OkK (if r then 16 else 0) w) := by
  have hb := beginsMark_any b w hM
  rw [hr] at hb
  have HB := Lib.hid (fun _ : Unit => hb)
  clear hb hr hM
  have e1 : ((b : Int) == 9) = false := by simp; omega
  have e2 : ((b : Int) == 10) = false := by simp; omega
  have e3 : ((b : Int) == 32) = false := by simp; omega
  have e4 : ((b : Int) == 95) = false := by simp; omega
  have e5 : decide (48 ≤ (b : Int)) = true := by simp; omega
  have e6 : decide (97 ≤ (b : Int)) = false := by simp; omega
  have e7 : decide (65 ≤ (b : Int)) = true := by simp; omega
  have e8 : decide ((b : Int) ≤ 57) = false := by simp; omega
  have e9 : decide ((b : Int) ≤ 102) = true := by simp; omega
  have e10 : decide ((b : Int) ≤ 70) = false := by simp; omega
  have e11 : decide ((b : Int) ≤ 122) = true := by simp; omega
  have e12 : decide ((b : Int) ≤ 90) = false := by simp; omega
  clear h1 h2
  cases r
  · go_enter Tryz.func66, Tryz.ntmps66
    go_wp2_with (go_at_call 78; refine (HB.out ()).mono ?_; rintro e w' ⟨rfl, rfl⟩)
    go_ret
    exact ⟨rfl, rfl⟩
  · go_enter Tryz.func66, Tryz.ntmps66
    go_wp2_with (go_at_call 78; refine (HB.out ()).mono ?_; rintro e w' ⟨rfl, rfl⟩)
    go_ret
    exact ⟨rfl, rfl⟩
set_option maxHeartbeats 1000000 in
theorem kindOf_11 (b : Nat) (w : World) (h1 : 95 ≤ b) (h2 : b ≤ 95) : Calls Tryz.prog 66 #[.int .u8 (b : Int)] w (OkK 2 w) := by
  obtain rfl : b = 95 := by omega
  go_enter Tryz.func66, Tryz.ntmps66
  go_wp2
  go_ret
  exact ⟨rfl, rfl⟩
set_option maxHeartbeats 1000000 in
theorem kindOf_12 (b : Nat) (w : World) (hM : MarksAt w) (h1 : 96 ≤ b) (h2 : b ≤ 96) (r : Bool) (hr : isMk b = r) : Calls Tryz.prog 66 #[.int .u8 (b : Int)] w (OkK (if r then 16 else 0) w) := by
  have hb := beginsMark_any b w hM
  rw [hr] at hb
  obtain rfl : b = 96 := by omega
  have HB := Lib.hid (fun _ : Unit => hb)
  clear hb hr hM
  cases r
  · go_enter Tryz.func66, Tryz.ntmps66
    go_wp2_with (go_at_call 78; refine (HB.out ()).mono ?_; rintro e w' ⟨rfl, rfl⟩)
    go_ret
    exact ⟨rfl, rfl⟩
  · go_enter Tryz.func66, Tryz.ntmps66
    go_wp2_with (go_at_call 78; refine (HB.out ()).mono ?_; rintro e w' ⟨rfl, rfl⟩)
    go_ret
    exact ⟨rfl, rfl⟩
set_option maxHeartbeats 1000000 in
theorem kindOf_13 (b : Nat) (w : World) (h1 : 97 ≤ b) (h2 : b ≤ 102) : Calls Tryz.prog 66 #[.int .u8 (b : Int)] w (OkK 10 w) := by
  have e1 : ((b : Int) == 9) = false := by simp; omega
  have e2 : ((b : Int) == 10) = false := by simp; omega
  have e3 : ((b : Int) == 32) = false := by simp; omega
  have e4 : ((b : Int) == 95) = false := by simp; omega
  have e5 : decide (48 ≤ (b : Int)) = true := by simp; omega
  have e6 : decide (97 ≤ (b : Int)) = true := by simp; omega
  have e7 : decide (65 ≤ (b : Int)) = true := by simp; omega
  have e8 : decide ((b : Int) ≤ 57) = false := by simp; omega
  have e9 : decide ((b : Int) ≤ 102) = true := by simp; omega
  have e10 : decide ((b : Int) ≤ 70) = false := by simp; omega
  have e11 : decide ((b : Int) ≤ 122) = true := by simp; omega
  have e12 : decide ((b : Int) ≤ 90) = false := by simp; omega
  clear h1 h2
  go_enter Tryz.func66, Tryz.ntmps66
  go_wp2
  go_ret
  exact ⟨rfl, rfl⟩
set_option maxHeartbeats 1000000 in
theorem kindOf_14 (b : Nat) (w : World) (h1 : 103 ≤ b) (h2 : b ≤ 122) : Calls Tryz.prog 66 #[.int .u8 (b : Int)] w (OkK 2 w) := by
  have e1 : ((b : Int) == 9) = false := by simp; omega
  have e2 : ((b : Int) == 10) = false := by simp; omega
  have e3 : ((b : Int) == 32) = false := by simp; omega
  have e4 : ((b : Int) == 95) = false := by simp; omega
  have e5 : decide (48 ≤ (b : Int)) = true := by simp; omega
  have e6 : decide (97 ≤ (b : Int)) = true := by simp; omega
  have e7 : decide (65 ≤ (b : Int)) = true := by simp; omega
  have e8 : decide ((b : Int) ≤ 57) = false := by simp; omega
  have e9 : decide ((b : Int) ≤ 102) = false := by simp; omega
  have e10 : decide ((b : Int) ≤ 70) = false := by simp; omega
  have e11 : decide ((b : Int) ≤ 122) = true := by simp; omega
  have e12 : decide ((b : Int) ≤ 90) = false := by simp; omega
  clear h1 h2
  go_enter Tryz.func66, Tryz.ntmps66
  go_wp2
  go_ret
  exact ⟨rfl, rfl⟩
set_option maxHeartbeats 1000000 in
theorem kindOf_15 (b : Nat) (w : World) (hM : MarksAt w) (h1 : 123 ≤ b) (h2 : b ≤ 255) (r : Bool) (hr : isMk b = r) : Calls Tryz.prog 66 #[.int .u8 (b : Int)] w (OkK (if r then 16 else 0) w) := by
  have hb := beginsMark_any b w hM
  rw [hr] at hb
  have HB := Lib.hid (fun _ : Unit => hb)
  clear hb hr hM
  have e1 : ((b : Int) == 9) = false := by simp; omega
  have e2 : ((b : Int) == 10) = false := by simp; omega
  have e3 : ((b : Int) == 32) = false := by simp; omega
  have e4 : ((b : Int) == 95) = false := by simp; omega
  have e5 : decide (48 ≤ (b : Int)) = true := by simp; omega
  have e6 : decide (97 ≤ (b : Int)) = true := by simp; omega
  have e7 : decide (65 ≤ (b : Int)) = true := by simp; omega
  have e8 : decide ((b : Int) ≤ 57) = false := by simp; omega
  have e9 : decide ((b : Int) ≤ 102) = false := by simp; omega
  have e10 : decide ((b : Int) ≤ 70) = false := by simp; omega
  have e11 : decide ((b : Int) ≤ 122) = false := by simp; omega
  have e12 : decide ((b : Int) ≤ 90) = false := by simp; omega
  clear h1 h2
  cases r
  · go_enter Tryz.func66, Tryz.ntmps66
    go_wp2_with (go_at_call 78; refine (HB.out ()).mono ?_; rintro e w' ⟨rfl, rfl⟩)
    go_ret
    exact ⟨rfl, rfl⟩
  · go_enter Tryz.func66, Tryz.ntmps66
    go_wp2_with (go_at_call 78; refine (HB.out ()).mono ?_; rintro e w' ⟨rfl, rfl⟩)
    go_ret
    exact ⟨rfl, rfl⟩
theorem kindOf_any (b : Nat) (hb : b < 256) (w : World) (hM : MarksAt w) : Calls Tryz.prog 66 #[.int .u8 (b : Int)] w (OkK (kindS b) w) := by
  by_cases g0 : b ≤ 8
  · have e : kindS b = if isMk b then 16 else 0 := by
      have a1 : isB b = false := by unfold isB; simp; omega
      have a2 : isD b = false := by unfold isD; simp; omega
      have a3 : isH b = false := by unfold isH; simp; omega
      have a4 : isL b = false := by unfold isL; simp; omega
      unfold kindS; simp [a1, a2, a3, a4]
    rw [e]
    exact kindOf_0 b w hM (by omega) g0 _ rfl
  by_cases g1 : b ≤ 9
  · have e : kindS b = 1 := by
      have a0 : isB b = true := by unfold isB; simp; omega
      unfold kindS; simp [a0]
    rw [e]
    exact kindOf_1 b w (by omega) g1
  by_cases g2 : b ≤ 10
  · have e : kindS b = 1 := by
      have a0 : isB b = true := by unfold isB; simp; omega
      unfold kindS; simp [a0]
    rw [e]
    exact kindOf_2 b w (by omega) g2
  by_cases g3 : b ≤ 31
  · have e : kindS b = if isMk b then 16 else 0 := by
      have a1 : isB b = false := by unfold isB; simp; omega
      have a2 : isD b = false := by unfold isD; simp; omega
      have a3 : isH b = false := by unfold isH; simp; omega
      have a4 : isL b = false := by unfold isL; simp; omega
      unfold kindS; simp [a1, a2, a3, a4]
    rw [e]
    exact kindOf_3 b w hM (by omega) g3 _ rfl
  by_cases g4 : b ≤ 32
  · have e : kindS b = 1 := by
      have a0 : isB b = true := by unfold isB; simp; omega
      unfold kindS; simp [a0]
    rw [e]
    exact kindOf_4 b w (by omega) g4
  by_cases g5 : b ≤ 47
  · have e : kindS b = if isMk b then 16 else 0 := by
      have a1 : isB b = false := by unfold isB; simp; omega
      have a2 : isD b = false := by unfold isD; simp; omega
      have a3 : isH b = false := by unfold isH; simp; omega
      have a4 : isL b = false := by unfold isL; simp; omega
      unfold kindS; simp [a1, a2, a3, a4]
    rw [e]
    exact kindOf_5 b w hM (by omega) g5 _ rfl
  by_cases g6 : b ≤ 57
  · have e : kindS b = 12 := by
      have a0 : isB b = false := by unfold isB; simp; omega
      have a1 : isD b = true := by unfold isD; simp; omega
      unfold kindS; simp [a0, a1]
    rw [e]
    exact kindOf_6 b w (by omega) g6
  by_cases g7 : b ≤ 64
  · have e : kindS b = if isMk b then 16 else 0 := by
      have a1 : isB b = false := by unfold isB; simp; omega
      have a2 : isD b = false := by unfold isD; simp; omega
      have a3 : isH b = false := by unfold isH; simp; omega
      have a4 : isL b = false := by unfold isL; simp; omega
      unfold kindS; simp [a1, a2, a3, a4]
    rw [e]
    exact kindOf_7 b w hM (by omega) g7 _ rfl
  by_cases g8 : b ≤ 70
  · have e : kindS b = 10 := by
      have a0 : isB b = false := by unfold isB; simp; omega
      have a1 : isD b = false := by unfold isD; simp; omega
      have a2 : isH b = true := by unfold isH; simp; omega
      unfold kindS; simp [a0, a1, a2]
    rw [e]
    exact kindOf_8 b w (by omega) g8
  by_cases g9 : b ≤ 90
  · have e : kindS b = 2 := by
      have a0 : isB b = false := by unfold isB; simp; omega
      have a1 : isD b = false := by unfold isD; simp; omega
      have a2 : isH b = false := by unfold isH; simp; omega
      have a3 : isL b = true := by unfold isL; simp; omega
      unfold kindS; simp [a0, a1, a2, a3]
    rw [e]
    exact kindOf_9 b w (by omega) g9
  by_cases g10 : b ≤ 94
  · have e : kindS b = if isMk b then 16 else 0 := by
      have a1 : isB b = false := by unfold isB; simp; omega
      have a2 : isD b = false := by unfold isD; simp; omega
      have a3 : isH b = false := by unfold isH; simp; omega
      have a4 : isL b = false := by unfold isL; simp; omega
      unfold kindS; simp [a1, a2, a3, a4]
    rw [e]
    exact kindOf_10 b w hM (by omega) g10 _ rfl
  by_cases g11 : b ≤ 95
  · have e : kindS b = 2 := by
      have a0 : isB b = false := by unfold isB; simp; omega
      have a1 : isD b = false := by unfold isD; simp; omega
      have a2 : isH b = false := by unfold isH; simp; omega
      have a3 : isL b = true := by unfold isL; simp; omega
      unfold kindS; simp [a0, a1, a2, a3]
    rw [e]
    exact kindOf_11 b w (by omega) g11
  by_cases g12 : b ≤ 96
  · have e : kindS b = if isMk b then 16 else 0 := by
      have a1 : isB b = false := by unfold isB; simp; omega
      have a2 : isD b = false := by unfold isD; simp; omega
      have a3 : isH b = false := by unfold isH; simp; omega
      have a4 : isL b = false := by unfold isL; simp; omega
      unfold kindS; simp [a1, a2, a3, a4]
    rw [e]
    exact kindOf_12 b w hM (by omega) g12 _ rfl
  by_cases g13 : b ≤ 102
  · have e : kindS b = 10 := by
      have a0 : isB b = false := by unfold isB; simp; omega
      have a1 : isD b = false := by unfold isD; simp; omega
      have a2 : isH b = true := by unfold isH; simp; omega
      unfold kindS; simp [a0, a1, a2]
    rw [e]
    exact kindOf_13 b w (by omega) g13
  by_cases g14 : b ≤ 122
  · have e : kindS b = 2 := by
      have a0 : isB b = false := by unfold isB; simp; omega
      have a1 : isD b = false := by unfold isD; simp; omega
      have a2 : isH b = false := by unfold isH; simp; omega
      have a3 : isL b = true := by unfold isL; simp; omega
      unfold kindS; simp [a0, a1, a2, a3]
    rw [e]
    exact kindOf_14 b w (by omega) g14
  have e : kindS b = if isMk b then 16 else 0 := by
    have a1 : isB b = false := by unfold isB; simp; omega
    have a2 : isD b = false := by unfold isD; simp; omega
    have a3 : isH b = false := by unfold isH; simp; omega
    have a4 : isL b = false := by unfold isL; simp; omega
    unfold kindS; simp [a1, a2, a3, a4]
  rw [e]
  exact kindOf_15 b w hM (by omega) (by omega) _ rfl
end Go.Proofs.YtmebcenjghagoaaGreatDoor
