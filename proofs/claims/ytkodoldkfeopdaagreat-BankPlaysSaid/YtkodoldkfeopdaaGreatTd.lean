/-
  ticked: many ticks of a bank, if the program's functions are what they must be. Made by wip/genbankref.py.
-/
import Derived.Test.YtkodoldkfeopdaaGreatRq
import Derived.Deep.LoopGhost
namespace Go.Proofs.YtkodoldkfeopdaaGreat
open Go.RowKit
set_option linter.unusedVariables false
set_option maxRecDepth 100000
/-- Behind so many ticks; and what was sent at the last one. -/
def tksB (b : Bk) : Nat → Bk
  | 0 => b
  | k + 1 => tickB (tksB b k)
def sntB (b : Bk) : Nat → Nat
  | 0 => 0
  | k + 1 => Ua.tickB (tksB b k).T (tksB b k).k
def isB (b : Bk) : Nat → Bool
  | 0 => false
  | k + 1 => Ua.sendsU (tksB b k).T (tksB b k).k
theorem tksB_ok {b : Bk} (h : b.ok) : ∀ n, (tksB b n).ok
  | 0 => h
  | n + 1 => tickB_ok (tksB_ok h n)
theorem results_ctt3 {fn : Func} {t u1 u2 : Tmp} {ty : TypeId} (h : fn.results = #[.cell t ty, .tmp u1, .tmp u2]) (tmps : Array Value) (P : Program) (w : World) (a : Addr) (v x1 x2 : Value) (hp : tmps.getD t undef = .pointer (some a)) (hl : (loadVar ty a).run P w = .ok v w) (h1 : tmps.getD u1 undef = x1) (h2 : tmps.getD u2 undef = x2) : (results fn tmps).run P w = .ok (.tuple #[v, x1, x2]) w := by
  subst h1
  subst h2
  rw [Array.getD_eq_getD_getElem?] at hp
  simp [results, h, hp, asAddr, hl]
set_option maxHeartbeats 4000000 in
theorem ticked_any (H : BankOk) (b : Bk) (n : Nat) (w : World) (h : b.ok) (hn : n ≤ 9223372036854775807) : Calls Tryz.prog 20 #[bv b, .int .i64 (n : Int)] w fun x w' => x = .returned (.tuple #[bv (tksB b n), .int .u8 (sntB b n : Nat), .bool (isB b n)]) ∧ Below w.heap.size w w' := by
  have HB := Lib.hid h
  have KT := Lib.hid (fun k W => H.tick (tksB b k) W (tksB_ok h k))
  unfold bv
  go_enter Tryz.func20, Tryz.ntmps20
  go_upto_region 1 with (fail)
  refine name_two (Q := fun X => Code.wp _ _ _ _ X) ?_
  intro W0 hq1 hq2 hB0
  have T0 : Hid (Tw w W0 w.heap.size (w.heap.size + 1) 37 b) := Lib.hid (Tw.new 37 hq1 hq2 hB0)
  clear hq1 hq2 hB0
  obtain ⟨g, hg⟩ : ∃ g, w.heap.size = g := ⟨_, rfl⟩
  obtain ⟨ra, hra⟩ : ∃ r, w.heap.size + 1 = r := ⟨_, rfl⟩
  rw [hra, hg] at T0 ⊢
  clear hra hg
  go_wp2_with fail
  go_loopw [7, 8, 9] (fun cv sv iv wx => ∃ k : Nat, k ≤ n ∧ iv = .int .i64 (k : Int) ∧ cv = .int .u8 (sntB b k : Nat) ∧ sv = .bool (isB b k) ∧ Tw w wx g ra 37 (tksB b k)) (fun _ _ iv _ => n - (intOf iv).toNat)
  case atStart => exact ⟨0, by omega, rfl, rfl, rfl, T0.out⟩
  case round =>
    clear T0
    obtain ⟨k, hk, rfl, rfl, rfl, q1⟩ := hrel
    have T0 := Lib.hid q1
    clear q1
    obtain ⟨u, hu⟩ : ∃ W, wr = W := ⟨_, rfl⟩
    rw [hu] at T0 ⊢
    clear hu
    by_cases hlt : k < n
    · have d1 : (k : Int) < (n : Int) := by omega
      have HK := Lib.hid hlt
      have KK := Lib.hid (fun W => KT.out k W)
      have HE : Hid (tksB b (k + 1) = tickB (tksB b k) ∧ sntB b (k + 1) = Ua.tickB (tksB b k).T (tksB b k).k ∧ isB b (k + 1) = Ua.sendsU (tksB b k).T (tksB b k).k) := Lib.hid ⟨rfl, rfl, rfl⟩
      clear KT
      generalize tksB b k = c at *
      generalize Ua.tickB c.T c.k = sn at *
      generalize Ua.sendsU c.T c.k = is at *
      clear hlt
      go_wp2_with (first
      | ((with_reducible show wpList _ _ _ (⟨none, .store 37 (.tmp 2) (.tmp 18), _, _, _, _⟩ :: _) _ _); refine wpList_store_b (d := tickB c) rfl 37 _ _ rfl g (by exact rfl) (by exact rfl) (by kernel_rfl) 37 T1.out.q ?_; intro WT2 HN HO HB
         have T2 := Lib.hid (T1.out.setG HN.out HO.out HB.out)
         clear HN HO HB T1)
      | (go_at_call 16; refine (KK.out _).mono ?_; rintro e WT1 ⟨rfl, hB⟩
         have T1 := Lib.hid (T0.out.under hB)
         clear hB T0)
      | ((with_reducible show wpList _ _ _ (⟨some 16, .load 37 (.tmp 2), _, _, _, _⟩ :: _) _ _); refine wpList_load_b (by rfl) 37 _ rfl g (by exact rfl) _ Tryz.underlying37 (by kernel_rfl) 37 T0.out.q ?_))
      go_roundw
      case rel => exact ⟨k + 1, by have := HK.out; omega, by go_num, by rw [HE.out.2.1], by rw [HE.out.2.2], by rw [HE.out.1]; exact T2.out⟩
      case measure =>
        simp [intOf]
        have := HK.out
        omega
    · have d1 : ¬ (k : Int) < (n : Int) := by omega
      obtain rfl : k = n := by omega
      clear hlt KT
      have EC : Hid (∃ c sn is, tksB b k = c ∧ sntB b k = sn ∧ isB b k = is) := Lib.hid ⟨_, _, _, rfl, rfl, rfl⟩
      obtain ⟨c, sn, is, e1, e2, e3⟩ := EC.out
      rw [e1] at T0
      rw [e2, e3]
      clear EC
      have EC := Lib.hid (And.intro e1 (And.intro e2 e3))
      clear e1 e2 e3
      go_wp2_with (first
      | ((with_reducible show wpList _ _ _ (⟨none, .store 37 (.tmp 4) (.tmp 21), _, _, _, _⟩ :: _) _ _); refine wpList_store_b rfl 37 _ _ rfl ra (by exact rfl) (by exact rfl) (by kernel_rfl) 37 T0.out.z ?_; intro WZ HN HO HB
         have HZ := HN
         have BZ := Lib.hid (T0.out.b.trans (HB.out.mono T0.out.lr))
         clear HN HO HB)
      | ((with_reducible show wpList _ _ _ (⟨some 21, .load 37 (.tmp 2), _, _, _, _⟩ :: _) _ _); refine wpList_load_b (by rfl) 37 _ rfl g (by exact rfl) _ Tryz.underlying37 (by kernel_rfl) 37 T0.out.q ?_))
      exact bodyPost_ret (v := .tuple #[bv c, .int .u8 (sn : Nat), .bool is]) (results_ctt3 Tryz.results20 _ _ _ _ _ _ _ rfl (run_loadVar_b WZ ra 37 _ Tryz.underlying37 (by kernel_rfl) 37 HZ.out) rfl rfl) rfl ⟨by rw [EC.out.1, EC.out.2.1, EC.out.2.2]; rfl, BZ.out⟩
end Go.Proofs.YtkodoldkfeopdaaGreat
