/-
  played: a bank behind acts, if the program's functions are what they must be: some right bank. Made by wip/genbankref.py.
-/
import Derived.Test.YtkodoldkfeopdaaRq
import Derived.Deep.LoopGhost
import Derived.Deep.DeepCutAuto
import Derived.Deep.CutBlock
namespace Go.Proofs.Ytkodoldkfeopdaa
open Go.RowKit
set_option linter.unusedVariables false
set_option maxRecDepth 100000
structure Ax where
  wh : Nat
  rg : Int
  v : Int
def xc (x : Ax) : List Value := [.int .u8 (x.wh : Int), .int .i8 x.rg, .int .i32 x.v]
def ARow (w : World) (g : Nat) (ty : TypeId) (x : Ax) : Prop := VRow w g ty (xc x)
section
variable {w w' : World} {B g : Nat} {ty : TypeId} {x : Ax}
theorem ARow.below (h : ARow w g ty x) (hb : Below B w w') (hg : g < B) : ARow w' g ty x := VRow.below h hb hg
theorem ARow.lt (h : ARow w g ty x) : g < w.heap.size := VRow.lt h
theorem ARow.other (h : ARow w g ty x) {r : Nat} (ho : ∀ j, j ≠ r → w'.heap[j]? = w.heap[j]?) (hr : g ≠ r) : ARow w' g ty x := (ho g hr).trans h
theorem ARow.c0 (h : ARow w g ty x) : w.cell? ⟨g, 0, none⟩ = some (.int .u8 (x.wh : Int)) := VRow.cell h 0 _ rfl
theorem ARow.c1 (h : ARow w g ty x) : w.cell? ⟨g, 1, none⟩ = some (.int .i8 x.rg) := VRow.cell h 1 _ rfl
theorem ARow.c2 (h : ARow w g ty x) : w.cell? ⟨g, 2, none⟩ = some (.int .i32 x.v) := VRow.cell h 2 _ rfl
end
/-- Acts, as they lie in memory. -/
def ActsIn (w : World) (A : Option Addr) (len : Nat) : Prop := ∀ j, j < len → ∃ a, A = some a ∧ a.block < w.heap.size ∧ ∃ x : Ax, x.wh < 256 ∧ -128 ≤ x.rg ∧ x.rg ≤ 127 ∧ -2147483648 ≤ x.v ∧ x.v ≤ 2147483647 ∧ CellsA w (a.add (j * 3)) (xc x)
set_option maxHeartbeats 8000000 in
theorem played_any (H : BankOk) (A : Option Addr) (len cap : Nat) (w : World) (hlen : len ≤ 9223372036854775807) (hA : ActsIn w A len) :
    Calls Try.prog 8 #[.slice A len cap] w fun e w' => (∃ b : Bk, b.ok ∧ e = .returned (bv b)) ∧ Below w.heap.size w w' := by
  have HA := Lib.hid hA
  clear hA
  go_enter Try.func8, Try.ntmps8
  go_upto_region 2 with (fail)
  refine name_two (Q := fun X => Code.wp _ _ _ _ X) ?_
  intro W0 hq1 hq2 hB0
  have T0 : Hid (Tw w W0 (w.heap.size + 1) w.heap.size 41 bare) := Lib.hid ⟨hq2, hq1, hB0, by omega, Nat.le_refl _, by omega⟩
  clear hq1 hq2 hB0
  obtain ⟨g, hg⟩ : ∃ g, w.heap.size + 1 = g := ⟨_, rfl⟩
  rw [hg] at T0 ⊢
  clear hg
  obtain ⟨ra, hra⟩ : ∃ r, w.heap.size = r := ⟨_, rfl⟩
  have HRA := Lib.hid hra
  rw [hra] at T0 ⊢
  clear hra
  replace T0 : Hid (Tw w W0 g ra 41 bare) := T0
  go_wp2_with fail
  go_loopw [4] (fun iv wr => ∃ (k : Nat) (b : Bk), k ≤ len ∧ k ≤ 100 ∧ iv = .int .i64 k ∧ b.ok ∧ Tw w wr g ra 41 b) (fun iv _ => 100 - (intOf iv).toNat)
  case atStart => exact ⟨0, bare, by omega, by omega, rfl, bare_ok, T0.out⟩
  case round =>
    clear T0
    obtain ⟨k, b, hk, hk2, rfl, hok, q1⟩ := hrel
    have HOK := Lib.hid hok
    have T0 := Lib.hid q1
    clear q1 hok
    by_cases hlt : k < len ∧ k < 100
    · obtain ⟨hlt1, hlt2⟩ := hlt
      obtain ⟨a, rfl, hab, x, hwh, hr1, hr2, hv1, hv2, hc⟩ := HA.out k hlt1
      have HC : Hid (CellsA wr (a.add (k * 3)) [.int .u8 (x.wh : Int), .int .i8 x.rg, .int .i32 x.v]) := Lib.hid (hc.below T0.out.b (by rw [add_block]; exact hab))
      clear hc hab
      have d1 : (k : Int) < (len : Int) := by omega
      have d2 : (k : Int) < 100 := by omega
      go_upto_block 2 with (refine wpList_load_addr rfl 25 _ rfl (a.add (k * 3)) rfl _ _ HC.out Try.underlying25 rfl (by kernel_rfl) ?_)
      refine name_one (Q := fun X => Code.wp _ _ _ _ X) ?_
      intro W1 hq hB1 hz
      have RX : Hid (ARow W1 wr.heap.size 25 x) := Lib.hid hq
      have T1 := Lib.hid (T0.out.under hB1)
      clear hq hB1 hz T0 HC
      generalize wr.heap.size = gx at *
      have z0 := RX.out.c0
      have z1 := RX.out.c1
      have z2 := RX.out.c2
      obtain ⟨mm, hm, hm6⟩ : ∃ m : Nat, (x.wh : Int) % 12 = (m : Int) ∧ m < 12 := ⟨x.wh % 12, by omega, by omega⟩
      have HKL := Lib.hid (And.intro hlt1 hlt2)
      by_cases h4 : mm < 4
      · have d4 : (mm : Int) < 4 := by omega
        have KU := Lib.hid (fun W => H.write b x.rg x.v W HOK.out (by omega) (by omega) hv1 hv2)
        have HO2 := Lib.hid (writeB_ok HOK.out x.rg x.v)
        go_wp2_with (first
      | ((with_reducible show wpList _ _ _ (⟨none, .store 41 (.tmp 3) (.tmp 37), _, _, _, _⟩ :: _) _ _); refine wpList_store_b (d := writeB b x.rg x.v) rfl 41 _ _ rfl g (by exact rfl) (by exact rfl) (by kernel_rfl) 41 T2.out.q ?_; intro WT3 HN HO HB
         have T3 := Lib.hid (T2.out.setG HN.out HO.out HB.out)
         clear HN HO HB T2)
      | (go_at_call 10; have hc := T1; clear hc; with_reducible refine (KU.out _).mono ?_; rintro e WT2 ⟨rfl, hB⟩
         have T2 := Lib.hid (T1.out.under hB)
         clear hB T1)
      | ((with_reducible show wpList _ _ _ (⟨some 31, .load 41 (.tmp 3), _, _, _, _⟩ :: _) _ _); refine wpList_load_b (by rfl) 41 _ rfl g (by exact rfl) _ Try.underlying41 (by kernel_rfl) 41 T1.out.q ?_))
        go_roundw
        case rel => exact ⟨k + 1, _, by have := HKL.out; omega, by have := HKL.out; omega, by go_num, HO2.out, T3.out⟩
        case measure =>
          simp [intOf]
          have := HKL.out
          omega
      have d4 : ¬ (mm : Int) < 4 := by omega
      by_cases h6 : mm < 6
      · have d6 : (mm : Int) < 6 := by omega
        have KU := Lib.hid (fun W => H.read b x.rg W HOK.out (by omega) (by omega))
        have HO2 := Lib.hid (readB_ok HOK.out x.rg)
        generalize peekB b x.rg = pk at *
        go_wp2_with (first
      | ((with_reducible show wpList _ _ _ (⟨none, .store 41 (.tmp 3) (.tmp 50), _, _, _, _⟩ :: _) _ _); refine wpList_store_b (d := readB b x.rg) rfl 41 _ _ rfl g (by exact rfl) (by exact rfl) (by kernel_rfl) 41 T2.out.q ?_; intro WT3 HN HO HB
         have T3 := Lib.hid (T2.out.setG HN.out HO.out HB.out)
         clear HN HO HB T2)
      | (go_at_call 11; have hc := T1; clear hc; with_reducible refine (KU.out _).mono ?_; rintro e WT2 ⟨rfl, hB⟩
         have T2 := Lib.hid (T1.out.under hB)
         clear hB T1)
      | ((with_reducible show wpList _ _ _ (⟨some 44, .load 41 (.tmp 3), _, _, _, _⟩ :: _) _ _); refine wpList_load_b (by rfl) 41 _ rfl g (by exact rfl) _ Try.underlying41 (by kernel_rfl) 41 T1.out.q ?_))
        go_roundw
        case rel => exact ⟨k + 1, _, by have := HKL.out; omega, by have := HKL.out; omega, by go_num, HO2.out, T3.out⟩
        case measure =>
          simp [intOf]
          have := HKL.out
          omega
      have d6 : ¬ (mm : Int) < 6 := by omega
      obtain ⟨lo, hlo, hlo2⟩ : ∃ m : Nat, x.v % 256 = (m : Int) ∧ m < 256 := ⟨(x.v % 256).toNat, by omega, by omega⟩
      by_cases h7 : mm = 6
      · have e6 : ((mm : Int) == 6) = true := by simp; omega
        have KU := Lib.hid (fun W => H.pins b lo W HOK.out hlo2)
        have HO2 := Lib.hid (pinsB_ok HOK.out hlo2)
        go_wp2_with (first
      | ((with_reducible show wpList _ _ _ (⟨none, .store 41 (.tmp 3) (.tmp 60), _, _, _, _⟩ :: _) _ _); refine wpList_store_b (d := pinsB b lo) rfl 41 _ _ rfl g (by exact rfl) (by exact rfl) (by kernel_rfl) 41 T2.out.q ?_; intro WT3 HN HO HB
         have T3 := Lib.hid (T2.out.setG HN.out HO.out HB.out)
         clear HN HO HB T2)
      | (go_at_call 13; have hc := T1; clear hc; with_reducible refine (KU.out _).mono ?_; rintro e WT2 ⟨rfl, hB⟩
         have T2 := Lib.hid (T1.out.under hB)
         clear hB T1)
      | ((with_reducible show wpList _ _ _ (⟨some 56, .load 41 (.tmp 3), _, _, _, _⟩ :: _) _ _); refine wpList_load_b (by rfl) 41 _ rfl g (by exact rfl) _ Try.underlying41 (by kernel_rfl) 41 T1.out.q ?_))
        go_roundw
        case rel => exact ⟨k + 1, _, by have := HKL.out; omega, by have := HKL.out; omega, by go_num, HO2.out, T3.out⟩
        case measure =>
          simp [intOf]
          have := HKL.out
          omega
      have e6 : ((mm : Int) == 6) = false := by simp; omega
      by_cases h8 : mm = 7
      · have e7 : ((mm : Int) == 7) = true := by simp; omega
        have KU := Lib.hid (fun W => H.arrive b lo W HOK.out hlo2)
        have HO2 := Lib.hid (arriveB_ok HOK.out hlo2)
        go_wp2_with (first
      | ((with_reducible show wpList _ _ _ (⟨none, .store 41 (.tmp 3) (.tmp 70), _, _, _, _⟩ :: _) _ _); refine wpList_store_b (d := arriveB b lo) rfl 41 _ _ rfl g (by exact rfl) (by exact rfl) (by kernel_rfl) 41 T2.out.q ?_; intro WT3 HN HO HB
         have T3 := Lib.hid (T2.out.setG HN.out HO.out HB.out)
         clear HN HO HB T2)
      | (go_at_call 14; have hc := T1; clear hc; with_reducible refine (KU.out _).mono ?_; rintro e WT2 ⟨rfl, hB⟩
         have T2 := Lib.hid (T1.out.under hB)
         clear hB T1)
      | ((with_reducible show wpList _ _ _ (⟨some 66, .load 41 (.tmp 3), _, _, _, _⟩ :: _) _ _); refine wpList_load_b (by rfl) 41 _ rfl g (by exact rfl) _ Try.underlying41 (by kernel_rfl) 41 T1.out.q ?_))
        go_roundw
        case rel => exact ⟨k + 1, _, by have := HKL.out; omega, by have := HKL.out; omega, by go_num, HO2.out, T3.out⟩
        case measure =>
          simp [intOf]
          have := HKL.out
          omega
      have e7 : ((mm : Int) == 7) = false := by simp; omega
      have KU := Lib.hid (fun W => H.tick b W HOK.out)
      have HO2 := Lib.hid (tickB_ok HOK.out)
      generalize Ua.tickB b.T b.k = sn at *
      generalize Ua.sendsU b.T b.k = is at *
      go_wp2_with (first
      | ((with_reducible show wpList _ _ _ (⟨none, .store 41 (.tmp 3) (.tmp 23), _, _, _, _⟩ :: _) _ _); refine wpList_store_b (d := tickB b) rfl 41 _ _ rfl g (by exact rfl) (by exact rfl) (by kernel_rfl) 41 T2.out.q ?_; intro WT3 HN HO HB
         have T3 := Lib.hid (T2.out.setG HN.out HO.out HB.out)
         clear HN HO HB T2)
      | (go_at_call 12; have hc := T1; clear hc; with_reducible refine (KU.out _).mono ?_; rintro e WT2 ⟨rfl, hB⟩
         have T2 := Lib.hid (T1.out.under hB)
         clear hB T1)
      | ((with_reducible show wpList _ _ _ (⟨some 21, .load 41 (.tmp 3), _, _, _, _⟩ :: _) _ _); refine wpList_load_b (by rfl) 41 _ rfl g (by exact rfl) _ Try.underlying41 (by kernel_rfl) 41 T1.out.q ?_))
      go_roundw
      case rel => exact ⟨k + 1, _, by have := HKL.out; omega, by have := HKL.out; omega, by go_num, HO2.out, T3.out⟩
      case measure =>
        simp [intOf]
        have := HKL.out
        omega
    · have hd : ¬ ((k : Int) < (len : Int)) ∨ ((k : Int) < (len : Int) ∧ ¬ (k : Int) < 100) := by omega
      clear hlt
      rcases hd with d1 | ⟨d1, d2⟩
      · go_wp2_with (first
      | ((with_reducible show wpList _ _ _ (⟨none, .store 41 (.tmp 2) (.tmp 71), _, _, _, _⟩ :: _) _ _); refine wpList_store_b rfl 41 _ _ rfl ra (by exact rfl) (by exact rfl) (by kernel_rfl) 41 T0.out.z ?_; intro WZ HN HO HB
         have HZ := HN
         have BZ := Lib.hid (T0.out.b.trans (HB.out.mono T0.out.lr))
         clear HN HO HB)
      | ((with_reducible show wpList _ _ _ (⟨some 71, .load 41 (.tmp 3), _, _, _, _⟩ :: _) _ _); refine wpList_load_b (by rfl) 41 _ rfl g (by exact rfl) _ Try.underlying41 (by kernel_rfl) 41 T0.out.q ?_))
        exact bodyPost_ret (v := bv b) (results_c Try.results8 _ _ _ _ _ rfl (run_loadVar_b WZ ra 41 _ Try.underlying41 (by kernel_rfl) 41 HZ.out)) rfl ⟨⟨b, HOK.out, rfl⟩, BZ.out⟩
      · go_wp2_with (first
      | ((with_reducible show wpList _ _ _ (⟨none, .store 41 (.tmp 2) (.tmp 71), _, _, _, _⟩ :: _) _ _); refine wpList_store_b rfl 41 _ _ rfl ra (by exact rfl) (by exact rfl) (by kernel_rfl) 41 T0.out.z ?_; intro WZ HN HO HB
         have HZ := HN
         have BZ := Lib.hid (T0.out.b.trans (HB.out.mono T0.out.lr))
         clear HN HO HB)
      | ((with_reducible show wpList _ _ _ (⟨some 71, .load 41 (.tmp 3), _, _, _, _⟩ :: _) _ _); refine wpList_load_b (by rfl) 41 _ rfl g (by exact rfl) _ Try.underlying41 (by kernel_rfl) 41 T0.out.q ?_))
        exact bodyPost_ret (v := bv b) (results_c Try.results8 _ _ _ _ _ rfl (run_loadVar_b WZ ra 41 _ Try.underlying41 (by kernel_rfl) 41 HZ.out)) rfl ⟨⟨b, HOK.out, rfl⟩, BZ.out⟩
end Go.Proofs.Ytkodoldkfeopdaa
