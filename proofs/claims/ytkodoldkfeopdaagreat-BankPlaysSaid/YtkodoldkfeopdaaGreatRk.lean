/-
  The document's Tick, All by their contracts. Made by wip/genbankref.py.
-/
import Derived.Test.YtkodoldkfeopdaaGreatRc
import Derived.Deep.LoopGhost
namespace Go.Proofs.YtkodoldkfeopdaaGreat
open Go.RowKit
set_option linter.unusedVariables false
set_option maxRecDepth 100000
theorem askB_T (b : Bk) (n : Nat) (a : Bool) : (askB b n a).T = b.T ∧ (askB b n a).k = b.k := by
  unfold askB
  split <;> exact ⟨rfl, rfl⟩
theorem tick01_T (b : Bk) : (tick1 (tick0 b)).T = b.T ∧ (tick1 (tick0 b)).k = b.k := by
  have h1 := askB_T { tick0 b with t1 := Ti.tickT (tick0 b).t1 } 16 (Ti.asksT (tick0 b).t1)
  have h2 := askB_T { b with t0 := Ti.tickT b.t0 } 8 (Ti.asksT b.t0)
  exact ⟨h1.1.trans h2.1, h1.2.trans h2.2⟩
def tkN (b : Bk) : Nat → Bk
  | 0 => b
  | 1 => tick0 b
  | _ => tick1 (tick0 b)
theorem results_ctt {fn : Func} {t u1 u2 : Tmp} {ty : TypeId} (h : fn.results = #[.cell t ty, .tmp u1, .tmp u2]) (tmps : Array Value) (P : Program) (w : World) (a : Addr) (v x1 x2 : Value) (hp : tmps.getD t undef = .pointer (some a)) (hl : (loadVar ty a).run P w = .ok v w) (h1 : tmps.getD u1 undef = x1) (h2 : tmps.getD u2 undef = x2) : (results fn tmps).run P w = .ok (.tuple #[v, x1, x2]) w := by
  subst h1
  subst h2
  rw [Array.getD_eq_getD_getElem?] at hp
  simp [results, h, hp, asAddr, hl]
set_option maxHeartbeats 4000000 in
theorem rTickB_any : TickC 17 := by
  intro b w h
  have I0 := Lib.hid (fun g W => idx0 g W)
  have I1 := Lib.hid (fun g W => idx1 g W)
  have HB := Lib.hid h
  unfold bv
  go_enter Tryz.func17, Tryz.ntmps17
  go_upto_region 1 with (fail)
  refine name_two (Q := fun X => Code.wp _ _ _ _ X) ?_
  intro W0 hq1 hq2 hB0
  have T0 : Hid (Tw w W0 w.heap.size (w.heap.size + 1) 46 b) := Lib.hid (Tw.new 46 hq1 hq2 hB0)
  clear hq1 hq2 hB0
  obtain ⟨g, hg⟩ : ∃ g, w.heap.size = g := ⟨_, rfl⟩
  obtain ⟨ra, hra⟩ : ∃ r, w.heap.size + 1 = r := ⟨_, rfl⟩
  rw [hra, hg] at T0 ⊢
  clear hra hg
  go_wp2_with fail
  go_loopw [5] (fun iv wx => ∃ k : Nat, k ≤ 2 ∧ iv = .int .i64 (k : Int) ∧ Tw w wx g ra 46 (tkN b k)) (fun iv _ => 2 - (intOf iv).toNat)
  case atStart => exact ⟨0, by omega, rfl, T0.out⟩
  case round =>
    clear T0
    obtain ⟨k, hk, rfl, q1⟩ := hrel
    have T0 := Lib.hid q1
    clear q1
    obtain ⟨u, hu⟩ : ∃ W, wr = W := ⟨_, rfl⟩
    rw [hu] at T0 ⊢
    clear hu
    have hcs : k = 0 ∨ k = 1 ∨ k = 2 := by omega
    rcases hcs with rfl | rfl | rfl
    · skip
      have hok : Bk.ok (b) := HB.out
      replace T0 : Hid (Tw w u g ra 46 (b)) := T0
      have KK0 := fun W => Ti.rTickT_any (b).t0 W hok.t0
      obtain ⟨ask, hask⟩ : ∃ x, Ti.asksT (b).t0 = x := ⟨_, rfl⟩
      rw [hask] at KK0
      have KK := Lib.hid KK0
      have hok2 : Bk.ok ({ b with t0 := Ti.tickT (b).t0 }) := ⟨hok.o, hok.i, hok.e, hok.u, Ti.tickT_ok hok.t0, hok.t1, hok.q⟩
      have KQ : Hid (∀ W : World, Calls Tryz.prog 31 #[bv ({ b with t0 := Ti.tickT (b).t0 }), .int .i64 3, .bool ask] W fun y w' => y = .returned (bv (askB ({ b with t0 := Ti.tickT (b).t0 }) 8 ask)) ∧ Below W.heap.size W w') := Lib.hid (fun W => rReq_any _ 3 ask W hok2 (by decide))
      have HE : Hid (askB ({ b with t0 := Ti.tickT (b).t0 }) 8 ask = tick0 b) := Lib.hid (by rw [← hask]; rfl)
      clear KK0 hask hok hok2
      have i0 := I0.out g
      have i1 := I1.out g
      go_wp2_with (first
      | ((with_reducible show wpList _ _ _ (⟨none, .store 46 (.tmp 1) (.tmp 32), _, _, _, _⟩ :: _) _ _); refine wpList_store_b (d := askB ({ b with t0 := Ti.tickT (b).t0 }) 8 ask) rfl 46 _ _ rfl g (by exact rfl) (by exact rfl) (by kernel_rfl) 46 T4.out.q ?_; intro WT5 HN HO HB
         have T5 := Lib.hid (T4.out.setG HN.out HO.out HB.out)
         clear HN HO HB T4)
      | (go_at_call 31; refine (KQ.out _).mono ?_; rintro e WT4 ⟨rfl, hB⟩
         have T4 := Lib.hid (T3.out.under hB)
         clear hB T3)
      | ((with_reducible show wpList _ _ _ (⟨some 28, .load 46 (.tmp 1), _, _, _, _⟩ :: _) _ _); refine wpList_load_b (by rfl) 46 _ rfl g (by exact rfl) _ Tryz.underlying46 (by kernel_rfl) 46 T3.out.q ?_)
      | ((with_reducible show wpList _ _ _ (⟨none, .store 42 (.tmp 27) (.tmp 25), _, _, _, _⟩ :: _) _ _); refine wpList_store_dev (d := { b with t0 := Ti.tickT (b).t0 }) rfl 42 _ _ rfl g 24 (by exact rfl) (Ti.tc (Ti.tickT (b).t0)) (by exact rfl) (by kernel_rfl) (Ti.tc_one _) (by simp [Ti.tc]) (bc_ta _) 46 T2.out.q ?_; intro WT3 HN HO HB
         have T3 := Lib.hid (T2.out.setG HN.out HO.out HB.out)
         clear HN HO HB T2)
      | ((with_reducible show wpList _ _ _ (⟨some 25, .load 42 (.tmp 6), _, _, _, _⟩ :: _) _ _); refine wpList_load_v (by rfl) 42 _ rfl (WT1.heap.size) (by exact rfl) _ Tryz.underlying42 42 (Ti.tc (Ti.tickT (b).t0)) HD.out (by kernel_rfl) ?_)
      | ((with_reducible show wpList _ _ _ (⟨none, .store 42 (.tmp 6) (.tmp 22), _, _, _, _⟩ :: _) _ _); refine wpList_store_v rfl 42 _ _ rfl (WT1.heap.size) (by exact rfl) (Ti.tc (Ti.tickT (b).t0)) (by exact rfl) (by kernel_rfl) (Ti.tc_one _) 42 (Ti.tc ⟨0, 0, 0⟩) (alloc_at _ _) (rfl) ?_; intro WT2 HN HO HB
         have HD := HN
         have T2 := Lib.hid (T1.out.under (((Below.refl _ _).alloc (Nat.le_refl _) _).trans HB.out))
         clear HN HO HB T1)
      | (go_at_call 36; refine (KK.out _).mono ?_; rintro e WT1 ⟨rfl, hB⟩
         have T1 := Lib.hid (T0.out.under hB)
         clear hB T0)
      | ((with_reducible show wpList _ _ _ (⟨some 20, .load 42 (.tmp 19), _, _, _, _⟩ :: _) _ _); refine wpList_load_dev (by rfl) 42 _ rfl g 24 (by exact rfl) _ Tryz.underlying42 (Ti.tc (b).t0) (by kernel_rfl) T0.out.q.ta (Ti.tv (b).t0) rfl ?_))
      go_roundw
      case rel => exact ⟨1, by omega, by first | rfl | go_num, by have h1 := T5.out; rw [HE.out] at h1; exact h1⟩
      case measure =>
        simp [intOf]
    · skip
      have hok : Bk.ok (tick0 b) := tick0_ok HB.out
      replace T0 : Hid (Tw w u g ra 46 (tick0 b)) := T0
      have KK0 := fun W => Ti.rTickT_any (tick0 b).t1 W hok.t1
      obtain ⟨ask, hask⟩ : ∃ x, Ti.asksT (tick0 b).t1 = x := ⟨_, rfl⟩
      rw [hask] at KK0
      have KK := Lib.hid KK0
      have hok2 : Bk.ok ({ tick0 b with t1 := Ti.tickT (tick0 b).t1 }) := ⟨hok.o, hok.i, hok.e, hok.u, hok.t0, Ti.tickT_ok hok.t1, hok.q⟩
      have KQ : Hid (∀ W : World, Calls Tryz.prog 31 #[bv ({ tick0 b with t1 := Ti.tickT (tick0 b).t1 }), .int .i64 4, .bool ask] W fun y w' => y = .returned (bv (askB ({ tick0 b with t1 := Ti.tickT (tick0 b).t1 }) 16 ask)) ∧ Below W.heap.size W w') := Lib.hid (fun W => rReq_any _ 4 ask W hok2 (by decide))
      have HE : Hid (askB ({ tick0 b with t1 := Ti.tickT (tick0 b).t1 }) 16 ask = tick1 (tick0 b)) := Lib.hid (by rw [← hask]; rfl)
      clear KK0 hask hok hok2
      have i0 := I0.out g
      have i1 := I1.out g
      go_wp2_with (first
      | ((with_reducible show wpList _ _ _ (⟨none, .store 46 (.tmp 1) (.tmp 32), _, _, _, _⟩ :: _) _ _); refine wpList_store_b (d := askB ({ tick0 b with t1 := Ti.tickT (tick0 b).t1 }) 16 ask) rfl 46 _ _ rfl g (by exact rfl) (by exact rfl) (by kernel_rfl) 46 T4.out.q ?_; intro WT5 HN HO HB
         have T5 := Lib.hid (T4.out.setG HN.out HO.out HB.out)
         clear HN HO HB T4)
      | (go_at_call 31; refine (KQ.out _).mono ?_; rintro e WT4 ⟨rfl, hB⟩
         have T4 := Lib.hid (T3.out.under hB)
         clear hB T3)
      | ((with_reducible show wpList _ _ _ (⟨some 28, .load 46 (.tmp 1), _, _, _, _⟩ :: _) _ _); refine wpList_load_b (by rfl) 46 _ rfl g (by exact rfl) _ Tryz.underlying46 (by kernel_rfl) 46 T3.out.q ?_)
      | ((with_reducible show wpList _ _ _ (⟨none, .store 42 (.tmp 27) (.tmp 25), _, _, _, _⟩ :: _) _ _); refine wpList_store_dev (d := { tick0 b with t1 := Ti.tickT (tick0 b).t1 }) rfl 42 _ _ rfl g 27 (by exact rfl) (Ti.tc (Ti.tickT (tick0 b).t1)) (by exact rfl) (by kernel_rfl) (Ti.tc_one _) (by simp [Ti.tc]) (bc_tb _) 46 T2.out.q ?_; intro WT3 HN HO HB
         have T3 := Lib.hid (T2.out.setG HN.out HO.out HB.out)
         clear HN HO HB T2)
      | ((with_reducible show wpList _ _ _ (⟨some 25, .load 42 (.tmp 6), _, _, _, _⟩ :: _) _ _); refine wpList_load_v (by rfl) 42 _ rfl (WT1.heap.size) (by exact rfl) _ Tryz.underlying42 42 (Ti.tc (Ti.tickT (tick0 b).t1)) HD.out (by kernel_rfl) ?_)
      | ((with_reducible show wpList _ _ _ (⟨none, .store 42 (.tmp 6) (.tmp 22), _, _, _, _⟩ :: _) _ _); refine wpList_store_v rfl 42 _ _ rfl (WT1.heap.size) (by exact rfl) (Ti.tc (Ti.tickT (tick0 b).t1)) (by exact rfl) (by kernel_rfl) (Ti.tc_one _) 42 (Ti.tc ⟨0, 0, 0⟩) (alloc_at _ _) (rfl) ?_; intro WT2 HN HO HB
         have HD := HN
         have T2 := Lib.hid (T1.out.under (((Below.refl _ _).alloc (Nat.le_refl _) _).trans HB.out))
         clear HN HO HB T1)
      | (go_at_call 36; refine (KK.out _).mono ?_; rintro e WT1 ⟨rfl, hB⟩
         have T1 := Lib.hid (T0.out.under hB)
         clear hB T0)
      | ((with_reducible show wpList _ _ _ (⟨some 20, .load 42 (.tmp 19), _, _, _, _⟩ :: _) _ _); refine wpList_load_dev (by rfl) 42 _ rfl g 27 (by exact rfl) _ Tryz.underlying42 (Ti.tc (tick0 b).t1) (by kernel_rfl) T0.out.q.tb (Ti.tv (tick0 b).t1) rfl ?_))
      go_roundw
      case rel => exact ⟨2, by omega, by first | rfl | go_num, by have h1 := T5.out; rw [HE.out] at h1; exact h1⟩
      case measure =>
        simp [intOf]
    · have hok : Bk.ok (tick1 (tick0 b)) := tick1_ok (tick0_ok HB.out)
      have hTk := tick01_T b
      replace T0 : Hid (Tw w u g ra 46 (tick1 (tick0 b))) := T0
      obtain ⟨c, hc⟩ : ∃ c, tick1 (tick0 b) = c := ⟨_, rfl⟩
      rw [hc] at hok hTk T0
      have KK0 := fun W => Ua.ru_tick (l := c.l) Ua.rTickU_any W hok.u
      obtain ⟨ask, hask⟩ : ∃ x, Ua.tickQ c.T c.c c.k = x := ⟨_, rfl⟩
      rw [hask] at KK0
      obtain ⟨sn, hsn⟩ : ∃ x, Ua.tickB c.T c.k = x := ⟨_, rfl⟩
      obtain ⟨isn, his⟩ : ∃ x, Ua.sendsU c.T c.k = x := ⟨_, rfl⟩
      rw [hsn, his] at KK0
      have KK := Lib.hid KK0
      have hok2 : Bk.ok ({ c with T := Ua.tickT c.T c.k, k := Ua.tickK c.T c.k }) := ⟨hok.o, hok.i, hok.e, hok.u.tick, hok.t0, hok.t1, hok.q⟩
      have KQ : Hid (∀ W : World, Calls Tryz.prog 31 #[bv ({ c with T := Ua.tickT c.T c.k, k := Ua.tickK c.T c.k }), .int .i64 2, .bool ask] W fun y w' => y = .returned (bv (askB ({ c with T := Ua.tickT c.T c.k, k := Ua.tickK c.T c.k }) 4 ask)) ∧ Below W.heap.size W w') := Lib.hid (fun W => rReq_any _ 2 ask W hok2 (by decide))
      have HE : Hid (tickB b = askB ({ c with T := Ua.tickT c.T c.k, k := Ua.tickK c.T c.k }) 4 ask ∧ Ua.tickB b.T b.k = sn ∧ Ua.sendsU b.T b.k = isn) := Lib.hid (by rw [← hask, ← hsn, ← his, hTk.1, hTk.2]; exact ⟨by rw [tickB, hc]; unfold tick2; rw [hTk.1, hTk.2], rfl, rfl⟩)
      clear KK0 hask hsn his hc hok hok2 hTk
      go_wp2_with (first
      | ((with_reducible show wpList _ _ _ (⟨none, .store 46 (.tmp 2) (.tmp 45), _, _, _, _⟩ :: _) _ _); refine wpList_store_b rfl 46 _ _ rfl ra (by exact rfl) (by exact rfl) (by kernel_rfl) 46 T4.out.z ?_; intro WZ HN HO HB
         have HZ := HN
         have BZ := Lib.hid (T4.out.b.trans (HB.out.mono T4.out.lr))
         clear HN HO HB)
      | (go_at_call 31; refine (KQ.out _).mono ?_; rintro e WT4 ⟨rfl, hB⟩
         have T4 := Lib.hid (T3.out.under hB)
         clear hB T3)
      | ((with_reducible show wpList _ _ _ (⟨some 43, .load 46 (.tmp 1), _, _, _, _⟩ :: _) _ _); refine wpList_load_b (by rfl) 46 _ rfl g (by exact rfl) _ Tryz.underlying46 (by kernel_rfl) 46 T3.out.q ?_)
      | ((with_reducible show wpList _ _ _ (⟨none, .store 41 (.tmp 42) (.tmp 41), _, _, _, _⟩ :: _) _ _); refine wpList_store_dev (d := { c with T := Ua.tickT c.T c.k, k := Ua.tickK c.T c.k }) rfl 41 _ _ rfl g 3 (by exact rfl) (ucs { c with T := Ua.tickT c.T c.k, k := Ua.tickK c.T c.k }) (by exact rfl) (by rw [ucs_length]; kernel_rfl) (Ua.uc_one _ _ _ _ _ _ _) (by rw [ucs_length]; decide) (bc_ua _ _ _ _ _) 46 T2.out.q ?_; intro WT3 HN HO HB
         have T3 := Lib.hid (T2.out.setG HN.out HO.out HB.out)
         clear HN HO HB T2)
      | ((with_reducible show wpList _ _ _ (⟨some 41, .load 41 (.tmp 8), _, _, _, _⟩ :: _) _ _); refine wpList_load_v (by rfl) 41 _ rfl (WT1.heap.size) (by exact rfl) _ Tryz.underlying41 41 (ucs { c with T := Ua.tickT c.T c.k, k := Ua.tickK c.T c.k }) HD.out (by rw [ucs_length]; kernel_rfl) ?_)
      | ((with_reducible show wpList _ _ _ (⟨none, .store 41 (.tmp 8) (.tmp 37), _, _, _, _⟩ :: _) _ _); refine wpList_store_v rfl 41 _ _ rfl (WT1.heap.size) (by exact rfl) (ucs { c with T := Ua.tickT c.T c.k, k := Ua.tickK c.T c.k }) (by exact rfl) (by rw [ucs_length]; kernel_rfl) (Ua.uc_one _ _ _ _ _ _ _) 41 (ucs bare) (alloc_at _ _) (by rw [ucs_length, ucs_length]) ?_; intro WT2 HN HO HB
         have HD := HN
         have T2 := Lib.hid (T1.out.under (((Below.refl _ _).alloc (Nat.le_refl _) _).trans HB.out))
         clear HN HO HB T1)
      | (go_at_call 37; refine (KK.out _).mono ?_; rintro e WT1 ⟨rfl, hB⟩
         have T1 := Lib.hid (T0.out.under hB)
         clear hB T0)
      | ((with_reducible show wpList _ _ _ (⟨some 35, .load 41 (.tmp 34), _, _, _, _⟩ :: _) _ _); refine wpList_load_dev (by rfl) 41 _ rfl g 3 (by exact rfl) _ Tryz.underlying41 (ucs (c)) (by rw [ucs_length]; kernel_rfl) T0.out.q.ua (Ua.ur (c).R (c).T (c).l (c).c (c).k) rfl ?_))
      exact bodyPost_ret (v := .tuple #[bv (askB ({ c with T := Ua.tickT c.T c.k, k := Ua.tickK c.T c.k }) 4 ask), .int .u8 (sn : Nat), .bool isn]) (results_ctt Tryz.results17 _ _ _ _ _ _ _ rfl (run_loadVar_b WZ ra 46 _ Tryz.underlying46 (by kernel_rfl) 46 HZ.out) rfl rfl) rfl ⟨by rw [HE.out.1, HE.out.2.1, HE.out.2.2]; rfl, BZ.out⟩
def outK (b : Bk) : Nat → List Value
  | 0 => [.int .i32 0, .int .i32 0, .int .i32 0, .int .i32 0, .int .i32 0, .int .i32 0, .int .i32 0, .int .i32 0, .int .i32 0, .int .i32 0, .int .i32 0, .int .i32 0, .int .i32 0, .int .i32 0, .int .i32 0]
  | k + 1 => (outK b k).set k (.int .i32 (peekB b ((k : Nat) : Int)))
theorem outK_length (b : Bk) : ∀ k, (outK b k).length = 15
  | 0 => rfl
  | k + 1 => by rw [outK, List.length_set]; exact outK_length b k
theorem outK_all (b : Bk) : outK b 15 = allB b := rfl
theorem outK_one (b : Bk) : ∀ k, ∀ u ∈ outK b k, u.oneCell' = true
  | 0 => by unfold outK; intro u hu; simp only [List.mem_cons, List.not_mem_nil, or_false, or_self] at hu; subst hu; rfl
  | k + 1 => by
    intro u hu
    rcases List.mem_or_eq_of_mem_set hu with h | rfl
    · exact outK_one b k u h
    · rfl
theorem run_index_fifteen (g k : Nat) (w : World) (hk : k < 15) : (Instr.indexAt 69 (.pointer (some ⟨g, 0, none⟩)) (.int .i64 (k : Int))).run Tryz.prog w = .ok (.pointer (some ⟨g, k, none⟩)) w := by
  obtain rfl | rfl | rfl | rfl | rfl | rfl | rfl | rfl | rfl | rfl | rfl | rfl | rfl | rfl | rfl : k = 0 ∨ k = 1 ∨ k = 2 ∨ k = 3 ∨ k = 4 ∨ k = 5 ∨ k = 6 ∨ k = 7 ∨ k = 8 ∨ k = 9 ∨ k = 10 ∨ k = 11 ∨ k = 12 ∨ k = 13 ∨ k = 14 := by omega
  all_goals kernel_rfl
theorem keep_alloc {X : World} {o o' : Obj} {j : Nat} (h : X.heap[j]? = some o) : (X.alloc o').heap[j]? = some o := by
  have hl : j < X.heap.size := by
    rcases Nat.lt_or_ge j X.heap.size with h1 | h1
    · exact h1
    · rw [Array.getElem?_eq_none h1] at h; cases h
  exact (((Below.refl X.heap.size X).alloc (Nat.le_refl _) o').block j hl).trans h
theorem name_3 {Q : World → Prop} {w : World} {o1 o2 o3 : Obj} (F : ∀ X : World, X.heap[w.heap.size]? = some o1 → X.heap[w.heap.size + 1]? = some o2 → X.heap[w.heap.size + 1 + 1]? = some o3 → Below w.heap.size w X → Q X) : Q (((w.alloc o1).alloc o2).alloc o3) := by
  refine F _ ?_ ?_ ?_ ?_
  · exact keep_alloc (keep_alloc (alloc_at _ _))
  · have h := alloc_at (w.alloc o1) o2
    rw [World.size_alloc] at h
    exact keep_alloc h
  · have h := alloc_at ((w.alloc o1).alloc o2) o3
    rw [World.size_alloc, World.size_alloc] at h
    exact h
  · exact (((Below.refl _ _).alloc (Nat.le_refl _) _).alloc (by simp) _).alloc (by simp; omega) _
/-- An array is loaded whole. -/
theorem wpList_load_arr {P : Program} {w : World} {ops : Array Oper} {rest : List Oper} {o : Oper} {a : Act} {Q : Exit → Act → World → Prop} (hw : Region.wanted o (yielded ops a.tmps) = true) (ty : TypeId) (x : Operand) (ho : o.op = .load ty x) (g : Nat) (hx : a.eval x = .pointer (some ⟨g, 0, none⟩))
    (n : Nat) (e : TypeId) (hu : P.underlying ty = some (.array n e)) (t : TypeId) (cs : List Value) (hr : VRow w g t cs) (hi : (P.info? ty).map (·.size) = some cs.length) (h : wpList P ops Q rest (a.put o.dst (.agg cs.toArray)) w) : wpList P ops Q (o :: rest) a w :=
  BigFrame.wpList_want hw fun _ hK => by
    unfold Oper.wp execOp
    simp only [ho, hx, Instr.loadAt, Instr.sureAddr, Sem.run_bind, Sem.run_pure, Result.andThen_ok, run_loadVar_at w g 0 ty cs _ (row_cells hr) hu rfl hi]
    exact hK _ _ h
theorem VRow.oth {X X' : World} {t : TypeId} {g r : Nat} {vs : List Value} (h : VRow X g t vs) (ho : ∀ j, j ≠ r → X'.heap[j]? = X.heap[j]?) (hr : g ≠ r) : VRow X' g t vs := (ho g hr).trans h
set_option maxHeartbeats 1000000 in
theorem rAllB_any : AllC 19 := by
  intro b w h
  have KP := Lib.hid (fun (k : Nat) W (hk : k < 15) => rPeekB_any b (k : Int) W h (by omega) (by omega))
  unfold bv
  go_enter Tryz.func19, Tryz.ntmps19
  go_upto_region 2 with (fail)
  refine name_3 (Q := fun X => Code.wp _ _ _ _ X) ?_
  intro W0 hq1 hq2 hq3 hB0
  have R0 : Hid (BRow W0 w.heap.size 46 b) := Lib.hid hq1
  have Z0 : Hid (VRow W0 (w.heap.size + 1) 69 (outK b 0)) := Lib.hid hq2
  have O0 : Hid (VRow W0 (w.heap.size + 1 + 1) 69 (outK b 0)) := Lib.hid hq3
  have B0 := Lib.hid hB0
  clear hq1 hq2 hq3 hB0
  obtain ⟨g, hg⟩ : ∃ g, w.heap.size = g := ⟨_, rfl⟩
  obtain ⟨ra, hra⟩ : ∃ r, w.heap.size + 1 = r := ⟨_, rfl⟩
  obtain ⟨ro, hro⟩ : ∃ r, w.heap.size + 1 + 1 = r := ⟨_, rfl⟩
  have LO : Hid (w.heap.size ≤ ro) := Lib.hid (by omega)
  have LA : Hid (w.heap.size ≤ ra) := Lib.hid (by omega)
  have N1 : Hid (g ≠ ro) := Lib.hid (by omega)
  have N2 : Hid (ra ≠ ro) := Lib.hid (by omega)
  rw [hro] at O0 ⊢
  rw [hra] at Z0 ⊢
  rw [hg] at R0 ⊢
  clear hg hra hro
  go_wp2_with fail
  go_loopw [4] (fun iv wx => ∃ k : Nat, k ≤ 15 ∧ iv = .int .i64 (k : Int) ∧ BRow wx g 46 b ∧ VRow wx ra 69 (outK b 0) ∧ VRow wx ro 69 (outK b k) ∧ Below w.heap.size w wx) (fun iv _ => 15 - (intOf iv).toNat)
  case atStart => exact ⟨0, by omega, rfl, R0.out, Z0.out, O0.out, B0.out⟩
  case round =>
    clear R0 Z0 O0 B0
    obtain ⟨k, hk, rfl, q1, q2, q3, q4⟩ := hrel
    have R1 := Lib.hid q1
    have Z1 := Lib.hid q2
    have O1 := Lib.hid q3
    have B1 := Lib.hid q4
    clear q1 q2 q3 q4
    by_cases hlt : k < 15
    · have d1 : (k : Int) ≤ 14 := by omega
      have HK := Lib.hid hlt
      have KK := Lib.hid (fun W => KP.out k W hlt)
      have hI := fun W => run_index_fifteen ro k W hlt
      have HS : Hid (outK b (k + 1) = (outK b k).set k (.int .i32 (peekB b ((k : Nat) : Int)))) := Lib.hid rfl
      generalize peekB b (k : Int) = pk at *
      clear hlt
      go_wp2_with (first
        | ((with_reducible show wpList _ _ _ (⟨none, .store 21 (.tmp 13) (.tmp 12), _, _, _, _⟩ :: _) _ _); refine wpList_store_c rfl 21 _ _ rfl ro k (by exact rfl) (.int .i32 pk) (by exact rfl) rfl (by kernel_rfl) 69 _ O2.out (by rw [outK_length]; exact HK.out) ?_; intro W3 HN HO HB
           have R3 := Lib.hid (R2.out.other HO.out N1.out)
           have Z3 := Lib.hid (VRow.oth Z2.out HO.out N2.out)
           have O3 := HN
           have B3 := Lib.hid (B2.out.trans (HB.out.mono LO.out))
           clear HN HO HB R2 Z2 O2 B2)
        | (go_at_call 26; refine (KK.out _).mono ?_; rintro e W2 ⟨rfl, hB⟩
           have R2 := Lib.hid (R1.out.below hB R1.out.lt)
           have Z2 := Lib.hid (Z1.out.below hB Z1.out.lt)
           have O2 := Lib.hid (O1.out.below hB O1.out.lt)
           have B2 := Lib.hid (B1.out.trans (hB.mono B1.out.size))
           clear hB R1 Z1 O1 B1)
        | ((with_reducible show wpList _ _ _ (⟨some 10, .load 46 (.tmp 1), _, _, _, _⟩ :: _) _ _); refine wpList_load_b (by rfl) 46 _ rfl g (by exact rfl) _ Tryz.underlying46 (by kernel_rfl) 46 R1.out ?_))
      go_roundw
      case rel => exact ⟨k + 1, by have := HK.out; omega, by go_num, R3.out, Z3.out, by rw [HS.out]; exact O3.out, B3.out⟩
      case measure =>
        simp [intOf]
        omega
    · have d1 : ¬ (k : Int) ≤ 14 := by omega
      obtain rfl : k = 15 := by omega
      clear hlt
      go_wp2_with (first
        | ((with_reducible show wpList _ _ _ (⟨none, .store 69 (.tmp 2) (.tmp 14), _, _, _, _⟩ :: _) _ _); refine wpList_store_v rfl 69 _ _ rfl ra (by exact rfl) (outK b 15) (by exact rfl) (by rw [outK_length]; kernel_rfl) (outK_one b 15) 69 _ Z1.out (by rw [outK_length, outK_length]) ?_; intro WZ HN HO HB
           have HZ := HN
           have BZ := Lib.hid (B1.out.trans (HB.out.mono LA.out))
           clear HN HO HB)
        | ((with_reducible show wpList _ _ _ (⟨some 14, .load 69 (.tmp 3), _, _, _, _⟩ :: _) _ _); refine wpList_load_arr (by rfl) 69 _ rfl ro (by exact rfl) _ _ Tryz.underlying69 69 (outK b 15) O1.out (by rw [outK_length]; kernel_rfl) ?_))
      exact bodyPost_ret (v := .agg (outK b 15).toArray) (results_c Tryz.results19 _ _ _ _ _ rfl (run_loadVar_at WZ ra 0 69 (outK b 15) _ (row_cells HZ.out) Tryz.underlying69 rfl (by rw [outK_length]; kernel_rfl))) rfl ⟨by rw [outK_all], BZ.out⟩
end Go.Proofs.YtkodoldkfeopdaaGreat
