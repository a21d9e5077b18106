/-
  BankPlays' walk, if the program's functions are what they must be: true. Made by wip/genbankplays3.py. Made by wip/genbankref.py.
-/
import Derived.Test.YtkodoldkfeopdaaGreatWorks
import Derived.Test.YtkodoldkfeopdaaGreatAl
import Derived.Test.YtkodoldkfeopdaaGreatDs
namespace Go.Proofs.YtkodoldkfeopdaaGreat
open Go.RowKit
set_option linter.unusedVariables false
set_option maxRecDepth 100000
set_option maxHeartbeats 16000000 in
theorem plays_walk (H : BankOk) (A : Option Addr) (len cap : Nat) (w : World) (hlen : len ≤ 9223372036854775807) (hA : ActsIn w A len) :
    Calls Tryz.prog 3 #[.slice A len cap] w fun e w' => e = .returned (.bool true) ∧ Below w.heap.size w w' := by
  have HA := Lib.hid hA
  have KW := Lib.hid (works_any H)
  clear hA
  go_enter Tryz.func3, Tryz.ntmps3
  go_upto_region 3 with (fail)
  refine name_two (Q := fun X => Code.wp _ _ _ _ X) ?_
  intro W0 hq1 hq2 hB0
  have RB_0 : Hid (BRow W0 w.heap.size 37 bare) := Lib.hid hq1
  have RR_0 : Hid (BRow W0 (w.heap.size + 1) 46 bare) := Lib.hid hq2
  have BB_0 := Lib.hid hB0
  clear hq1 hq2 hB0
  obtain ⟨g, hg⟩ : ∃ g, w.heap.size = g := ⟨_, rfl⟩
  obtain ⟨r, hr⟩ : ∃ r, w.heap.size + 1 = r := ⟨_, rfl⟩
  have NE := Lib.hid (show g ≠ r by omega)
  have LG := Lib.hid (show w.heap.size ≤ g by omega)
  have LR := Lib.hid (show w.heap.size ≤ r by omega)
  rw [hr] at RR_0 ⊢
  rw [hg] at RB_0 ⊢
  clear hr hg
  go_wp2_with fail
  go_loopw [5] (fun iv wr => ∃ (k : Nat) (b : Bk), k ≤ len ∧ k ≤ 150 ∧ iv = .int .i64 k ∧ b.ok ∧ BRow wr g 37 b ∧ BRow wr r 46 b ∧ Below w.heap.size w wr) (fun iv _ => 150 - (intOf iv).toNat)
  case atStart => exact ⟨0, bare, by omega, by omega, rfl, bare_ok, RB_0.out, RR_0.out, BB_0.out⟩
  case round =>
    clear RB_0 RR_0 BB_0
    obtain ⟨k, b, hk, hk2, rfl, hok, q1, q2, q3⟩ := hrel
    obtain ⟨u, hu⟩ : ∃ W, wr = W := ⟨_, rfl⟩
    rw [hu] at q1 q2 q3 ⊢
    clear hu
    have RB := Lib.hid q1
    have RR := Lib.hid q2
    have BB := Lib.hid q3
    have HOK := Lib.hid hok
    clear q1 q2 q3 hok
    by_cases hlt : k < len ∧ k < 150
    · obtain ⟨hlt1, hlt2⟩ := hlt
      obtain ⟨a, rfl, hab, x, hwh, hr1, hr2, hv1, hv2, hc⟩ := HA.out k hlt1
      have HC : Hid (CellsA u (a.add (k * 3)) [.int .u8 (x.wh : Int), .int .i8 x.rg, .int .i32 x.v]) := Lib.hid (hc.below BB.out (by rw [add_block]; exact hab))
      have KD := Lib.hid (does_any H b x g r w.heap.size u HOK.out hwh hr1 hr2 hv1 hv2 RB.out RR.out NE.out LG.out LR.out BB.out.size)
      clear hc hab hwh hr1 hr2 hv1 hv2
      have d1 : (k : Int) < (len : Int) := by omega
      have d2 : (k : Int) < 150 := by omega
      have HKL := Lib.hid (And.intro hlt1 hlt2)
      clear hlt1 hlt2
      go_wp2_with (first
      | (go_at_call 5; with_reducible refine (KA.out _).mono ?_; rintro e W3 ⟨rfl, hB⟩; have RB3 := Lib.hid (BRow.below RB2.out hB RB2.out.lt); have RR3 := Lib.hid (BRow.below RR2.out hB RR2.out.lt); have BB3 := Lib.hid (BB2.out.trans (hB.mono BB2.out.size)); clear hB)
      | ((with_reducible show wpList _ _ _ (⟨some 23, .load 37 (.tmp 3), _, _, _, _⟩ :: _) _ _); refine wpList_load_b (by kernel_rfl) 37 _ rfl g (by exact rfl) _ Tryz.underlying37 (by kernel_rfl) 37 RB2.out ?_)
      | ((with_reducible show wpList _ _ _ (⟨some 24, .load 46 (.tmp 4), _, _, _, _⟩ :: _) _ _); refine wpList_load_b (by kernel_rfl) 46 _ rfl r (by exact rfl) _ Tryz.underlying46 (by kernel_rfl) 46 RR2.out ?_)
      | (go_at_call 4; refine (KD.out).mono ?_; rintro e W2 ⟨⟨rfl, d, hd, r1, r2⟩, hB⟩; have HOK2 := Lib.hid hd; have RB2 := Lib.hid r1; have RR2 := Lib.hid r2; have BB2 := Lib.hid (BB.out.trans hB); have KA := Lib.hid (fun W => alike_any H d W hd); clear hd r1 r2 hB)
      | ((with_reducible show wpList _ _ _ (⟨some 19, .load 49 (.tmp 18), _, _, _, _⟩ :: _) _ _); refine wpList_load_addr rfl 49 _ rfl (a.add (k * 3)) rfl _ _ HC.out Tryz.underlying49 rfl (by kernel_rfl) ?_))
      go_roundw
      case rel => exact ⟨k + 1, d, by have := HKL.out; omega, by have := HKL.out; omega, by go_num, HOK2.out, RB3.out, RR3.out, BB3.out⟩
      case measure =>
        simp [intOf]
        have := HKL.out
        (try omega)
    · have hd : ¬ ((k : Int) < (len : Int)) ∨ ((k : Int) < (len : Int) ∧ ¬ (k : Int) < 150) := by omega
      clear hlt
      rcases hd with d1 | ⟨d1, d2⟩
      · go_wp2_with (go_at_call 6; with_reducible refine (KW.out _).mono ?_; rintro e W4 ⟨rfl, hB⟩; have BB4 := Lib.hid (BB.out.trans (hB.mono BB.out.size)); clear hB)
        go_ret
        exact ⟨rfl, BB4.out⟩
      · go_wp2_with (go_at_call 6; with_reducible refine (KW.out _).mono ?_; rintro e W4 ⟨rfl, hB⟩; have BB4 := Lib.hid (BB.out.trans (hB.mono BB.out.size)); clear hB)
        go_ret
        exact ⟨rfl, BB4.out⟩
end Go.Proofs.YtkodoldkfeopdaaGreat
