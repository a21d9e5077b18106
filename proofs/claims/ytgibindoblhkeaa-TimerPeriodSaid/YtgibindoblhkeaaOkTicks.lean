/-
  The program's Ticks by its contract. Made by wip/gentimerok4.py.
-/
import Derived.Test.YtgibindoblhkeaaOkRound
namespace Go.Proofs.Ytgibindoblhkeaa
open Go.RowKit
set_option linter.unusedVariables false
set_option linter.unusedSimpArgs false
theorem run_tk {t : Tm} (h : t.ok) (b : Bool) (hb : decide (t.c % 2 = 1) = b) (X : World) : Calls Try.prog 18 #[tv t] X fun x w' => x = .returned (.bool b) ∧ Below X.heap.size X w' := by
  subst hb
  exact runs_any t X h
theorem low_tk (v : Int) (m : Nat) (X : World) (h : v % 65536 = (m : Int)) (h0 : -9223372036854775808 ≤ v) (h1 : v ≤ 9223372036854775807) : Calls Try.prog 19 #[.int .i64 v] X fun x w' => x = .returned (.int .u16 (m : Int)) ∧ w' = X := by
  have e : low16 v = m := by unfold low16; omega
  rw [← e]
  exact wrapped_any v X h0 h1
set_option maxHeartbeats 4000000 in
set_option maxRecDepth 100000 in
theorem ticksT_any : TicksC 13 := by
  intro t n w h hn0 hn1
  unfold tv
  go_enter Try.func13, Try.ntmps13
  go_upto_region 1 with (fail)
  refine name_two (Q := fun X => Code.wp _ _ _ _ X) ?_
  intro W0 hq1 hq2 hB0
  have T0 := Lib.hid (Tw.new (t := t) 25 hq1 hq2 hB0)
  clear hq1 hq2 hB0
  obtain ⟨g, hg⟩ : ∃ g, w.heap.size = g := ⟨_, rfl⟩
  obtain ⟨r, hr⟩ : ∃ r, w.heap.size + 1 = r := ⟨_, rfl⟩
  rw [hr, hg] at T0 ⊢
  clear hr hg
  have ha := h.a
  have hb := h.b
  have hc := h.c
  by_cases hneg : n < 0
  · have HNN : n.toNat = 0 := by omega
    go_upto_region 2 with (fail)
    refine name_two (Q := fun X => Code.wp _ _ _ _ X) ?_
    intro W1 hq1 hq2 hB0
    have T1 : Hid (Ts w W1 g r W0.heap.size (W0.heap.size + 1) t 0 0) := Lib.hid ⟨T0.out.q.below hB0 T0.out.q.lt, T0.out.z.below hB0 T0.out.z.lt, hq1, hq2, T0.out.b.trans (hB0.mono T0.out.b.size), T0.out.lg, T0.out.lr, T0.out.b.size, Nat.le_succ_of_le T0.out.b.size, T0.out.gr, Nat.ne_of_lt T0.out.q.lt, Nat.ne_of_lt (Nat.lt_succ_of_lt T0.out.q.lt), Nat.ne_of_lt T0.out.z.lt, Nat.ne_of_lt (Nat.lt_succ_of_lt T0.out.z.lt), Nat.ne_of_lt (Nat.lt_succ_self _)⟩
    clear hq1 hq2 hB0 T0
    obtain ⟨l, hl⟩ : ∃ l, W0.heap.size = l := ⟨_, rfl⟩
    obtain ⟨k, hk⟩ : ∃ k, W0.heap.size + 1 = k := ⟨_, rfl⟩
    rw [hk, hl] at T1 ⊢
    clear hk hl
    by_cases hr : t.c % 2 = 0
    · clear HNN
      have KA1 : Hid (∀ X, Ts w X g r l k t 0 0 → Calls Try.prog 22 #[.pointer (some ⟨g, 0, none⟩), .pointer (some ⟨l, 0, none⟩), .pointer (some ⟨k, 0, none⟩)] X fun x W' => x = .returned (.int .i64 0) ∧ Ts w W' g r l k t 0 0) := Lib.hid (fun X hX => round_no h hX (by omega) (.inl (if_pos hr)))
      have KR := Lib.hid (run_tk h false (decide_eq_false (by omega)))
      have HE1 : Hid (ticksT t n.toNat = t) := Lib.hid (still hr _).1
      have HE2 : Hid (countT t n.toNat = 0) := Lib.hid (still hr _).2
      clear hr
      go_upto_region 10 with (first
        | (go_at_call 22; with_reducible refine (KA1.out _ T2.out).mono ?_; rintro e W3 ⟨rfl, hT⟩; have T3 := Lib.hid hT; clear hT; have cl := T3.out.cl; have ck := T3.out.ck; have c0 := T3.out.q.c0)
        | (go_at_call 22; with_reducible refine (KA1.out _ T1.out).mono ?_; rintro e W2 ⟨rfl, hT⟩; have T2 := Lib.hid hT; clear hT)
        | (go_at_call 18; with_reducible refine (KR.out _).mono ?_; rintro e W4 ⟨rfl, hB⟩; have T4 := Lib.hid (T3.out.under hB); have clr := T4.out.cl; have ckr := T4.out.ck; have c0r := T4.out.q.c0; clear hB)
        | ((with_reducible show wpList _ _ _ (⟨some 27, .load 25 (.tmp 2), _, _, _, _⟩ :: _) _ _); refine wpList_load_t (by rfl) 25 _ rfl g (by exact rfl) _ Try.underlying25 (by kernel_rfl) 25 T3.out.q ?_))
      refine wp_region_noPanic ?_
      refine wp_region_held_drew (S := fun X => TRow X g 25 (t) ∧ X.cell? ⟨k, 0, none⟩ = some (.int .i64 ((0 : Nat) : Int)) ∧ Below w.heap.size w X) (by kernel_rfl) (⟨T4.out.q.below (Below.refl _ _).drew T4.out.q.lt, (T4.out.under (Below.refl _ _).drew).ck, (T4.out.under (Below.refl _ _).drew).b⟩) (fun hHeld => ?_)
      have TY := Lib.hid (T4.out.under (Below.refl _ _).drew)
      obtain ⟨Y0, hY0⟩ : ∃ Y, W4.drew = Y := ⟨_, rfl⟩
      rw [hY0] at hHeld TY ⊢
      clear hY0
      refine' take_ 0 rfl (by kernel_rfl) (by kernel_rfl) (by kernel_rfl) (fun _ _ _ h => h) (by rfl) (fun wS hSw => run_load_t wS 25 _ g rfl _ Try.underlying25 (by kernel_rfl) 25 hSw.1 _ _ _ _ _) hHeld ?_
      try simp only [Act.put, List.setIfInBounds_toArray, List.set_cons_zero, List.set_cons_succ]
      refine' take_ 1 rfl (by kernel_rfl) (by kernel_rfl) (by kernel_rfl) (fun _ _ _ h => h) (by rfl) (fun wS hSw => ?_) hHeld ?_
      rotate_left
      focus ((have hck := hSw.2.1); go_simp; (try with_reducible rfl); done)
      try simp only [Act.put, List.setIfInBounds_toArray, List.set_cons_zero, List.set_cons_succ]
      refine only_ 2 rfl (by kernel_rfl) (by rfl) (fun K hK => ?_)
      refine wp_store_t 25 _ _ rfl r rfl (by rfl) (by kernel_rfl) 25 TY.out.z ?_
      intro WZ HN HO HB
      have HZ := HN
      have BZ := Lib.hid (TY.out.b.trans (HB.out.mono TY.out.lr))
      have hHeld2 : TRow WZ g 25 (t) ∧ WZ.cell? ⟨k, 0, none⟩ = some (.int .i64 ((0 : Nat) : Int)) ∧ Below w.heap.size w WZ := ⟨TY.out.q.other HO.out TY.out.gr, (TY.out.vk.off HO.out TY.out.rk.symm).cell 0 _ rfl, BZ.out⟩
      refine hK.out _ _ hHeld2 (fun _ => ?_)
      clear hK K hHeld TY HN HO HB
      show wpAnyH _ _ _ _ _ _ _ (Act.put _ none _) _
      try simp only [Act.put, List.setIfInBounds_toArray, List.set_cons_zero, List.set_cons_succ]
      refine' take_ 3 rfl (by kernel_rfl) (by kernel_rfl) (by kernel_rfl) (fun _ _ _ h => h) (by rfl) (fun wS hSw => ?_) hHeld2 ?_
      rotate_left
      focus (go_simp; (try with_reducible rfl); done)
      try simp only [Act.put, List.setIfInBounds_toArray, List.set_cons_zero, List.set_cons_succ]
      clear hHeld2
      refine wpAnyH_done (by kernel_rfl) ?_ _
      refine NoPanic.normal ?_
      go_wp2_with fail
      exact bodyPost_ret (v := .tuple #[tv (t), .int .i64 ((0 : Nat) : Int)]) (results_ct Try.results13 _ _ _ _ _ _ rfl (run_loadVar_t WZ r 25 _ Try.underlying25 (by kernel_rfl) 25 HZ.out) rfl) rfl ⟨by rw [HE1.out, HE2.out]; rfl, BZ.out⟩
    · have hr1 : t.c % 2 = 1 := by omega
      have hlt : 0 < nextT t := by rw [nextT_run hr1]; omega
      have KA1 : Hid (∀ X, Ts w X g r l k t 0 0 → Calls Try.prog 22 #[.pointer (some ⟨g, 0, none⟩), .pointer (some ⟨l, 0, none⟩), .pointer (some ⟨k, 0, none⟩)] X fun x W' => x = .returned (.int .i64 0) ∧ Ts w W' g r l k t 0 0) := Lib.hid (fun X hX => round_no h hX (by omega) (.inr hlt))
      have KR := Lib.hid (run_tk h true (decide_eq_true hr1))
      have hb4 := ticks_before h hr1 0 hlt
      have ho : onT t 0 = ⟨(t.a + 0) % 65536, t.b, t.c⟩ := if_neg (by omega)
      obtain ⟨m, hm⟩ : ∃ x, (t.a + 0) % 65536 = x := ⟨_, rfl⟩
      rw [hm] at ho
      rw [ho] at hb4
      have HE1 : Hid (ticksT t n.toNat = ⟨m, t.b, t.c⟩) := Lib.hid (by rw [show n.toNat = 0 by omega]; exact hb4.1)
      have HE2 : Hid (countT t n.toNat = 0) := Lib.hid (by rw [show n.toNat = 0 by omega]; exact hb4.2)
      have KW : Hid (∀ v : Int, v = (t.a : Int) + ((0 : Nat) : Int) → ∀ X, Calls Try.prog 19 #[.int .i64 v] X fun x w' => x = .returned (.int .u16 (m : Int)) ∧ w' = X) := Lib.hid (fun v hv X => low_tk v m X (by omega) (by omega) (by omega))
      have dN : ((0 : Nat) : Int) ≤ 65536 := by omega
      have da : (t.a : Int) < 65536 := by omega
      clear hb4 ho hm
      go_upto_region 10 with (first
        | ((with_reducible show wpList _ _ _ (⟨none, .store 22 (.tmp 35) (.tmp 34), _, _, _, _⟩ :: _) _ _); refine wpList_store_c rfl 22 _ _ rfl g 0 (by exact rfl) (.int .u16 (m : Int)) (by exact rfl) rfl (by kernel_rfl) 25 _ T4.out.q (show 0 < 3 by decide) ?_; intro W5 HN HO HB; have T5 : Hid (Ts w W5 g r l k ⟨m, t.b, t.c⟩ _ _) := Lib.hid (T4.out.setG (u := ⟨m, t.b, t.c⟩) HN.out HO.out HB.out); clear HN HO HB)
        | (go_at_call 19; refine (KW.out _ (by first | rfl | omega) _).mono ?_; rintro e WX ⟨rfl, rfl⟩)
        | (go_at_call 22; with_reducible refine (KA1.out _ T2.out).mono ?_; rintro e W3 ⟨rfl, hT⟩; have T3 := Lib.hid hT; clear hT; have cl := T3.out.cl; have ck := T3.out.ck; have c0 := T3.out.q.c0)
        | (go_at_call 22; with_reducible refine (KA1.out _ T1.out).mono ?_; rintro e W2 ⟨rfl, hT⟩; have T2 := Lib.hid hT; clear hT)
        | (go_at_call 18; with_reducible refine (KR.out _).mono ?_; rintro e W4 ⟨rfl, hB⟩; have T4 := Lib.hid (T3.out.under hB); have clr := T4.out.cl; have ckr := T4.out.ck; have c0r := T4.out.q.c0; clear hB)
        | ((with_reducible show wpList _ _ _ (⟨some 27, .load 25 (.tmp 2), _, _, _, _⟩ :: _) _ _); refine wpList_load_t (by rfl) 25 _ rfl g (by exact rfl) _ Try.underlying25 (by kernel_rfl) 25 T3.out.q ?_))
      refine wp_region_noPanic ?_
      refine wp_region_held_drew (S := fun X => TRow X g 25 (⟨m, t.b, t.c⟩) ∧ X.cell? ⟨k, 0, none⟩ = some (.int .i64 ((0 : Nat) : Int)) ∧ Below w.heap.size w X) (by kernel_rfl) (⟨T5.out.q.below (Below.refl _ _).drew T5.out.q.lt, (T5.out.under (Below.refl _ _).drew).ck, (T5.out.under (Below.refl _ _).drew).b⟩) (fun hHeld => ?_)
      have TY := Lib.hid (T5.out.under (Below.refl _ _).drew)
      obtain ⟨Y0, hY0⟩ : ∃ Y, W5.drew = Y := ⟨_, rfl⟩
      rw [hY0] at hHeld TY ⊢
      clear hY0
      refine' take_ 0 rfl (by kernel_rfl) (by kernel_rfl) (by kernel_rfl) (fun _ _ _ h => h) (by rfl) (fun wS hSw => run_load_t wS 25 _ g rfl _ Try.underlying25 (by kernel_rfl) 25 hSw.1 _ _ _ _ _) hHeld ?_
      try simp only [Act.put, List.setIfInBounds_toArray, List.set_cons_zero, List.set_cons_succ]
      refine' take_ 1 rfl (by kernel_rfl) (by kernel_rfl) (by kernel_rfl) (fun _ _ _ h => h) (by rfl) (fun wS hSw => ?_) hHeld ?_
      rotate_left
      focus ((have hck := hSw.2.1); go_simp; (try with_reducible rfl); done)
      try simp only [Act.put, List.setIfInBounds_toArray, List.set_cons_zero, List.set_cons_succ]
      refine only_ 2 rfl (by kernel_rfl) (by rfl) (fun K hK => ?_)
      refine wp_store_t 25 _ _ rfl r rfl (by rfl) (by kernel_rfl) 25 TY.out.z ?_
      intro WZ HN HO HB
      have HZ := HN
      have BZ := Lib.hid (TY.out.b.trans (HB.out.mono TY.out.lr))
      have hHeld2 : TRow WZ g 25 (⟨m, t.b, t.c⟩) ∧ WZ.cell? ⟨k, 0, none⟩ = some (.int .i64 ((0 : Nat) : Int)) ∧ Below w.heap.size w WZ := ⟨TY.out.q.other HO.out TY.out.gr, (TY.out.vk.off HO.out TY.out.rk.symm).cell 0 _ rfl, BZ.out⟩
      refine hK.out _ _ hHeld2 (fun _ => ?_)
      clear hK K hHeld TY HN HO HB
      show wpAnyH _ _ _ _ _ _ _ (Act.put _ none _) _
      try simp only [Act.put, List.setIfInBounds_toArray, List.set_cons_zero, List.set_cons_succ]
      refine' take_ 3 rfl (by kernel_rfl) (by kernel_rfl) (by kernel_rfl) (fun _ _ _ h => h) (by rfl) (fun wS hSw => ?_) hHeld2 ?_
      rotate_left
      focus (go_simp; (try with_reducible rfl); done)
      try simp only [Act.put, List.setIfInBounds_toArray, List.set_cons_zero, List.set_cons_succ]
      clear hHeld2
      refine wpAnyH_done (by kernel_rfl) ?_ _
      refine NoPanic.normal ?_
      go_wp2_with fail
      exact bodyPost_ret (v := .tuple #[tv (⟨m, t.b, t.c⟩), .int .i64 ((0 : Nat) : Int)]) (results_ct Try.results13 _ _ _ _ _ _ rfl (run_loadVar_t WZ r 25 _ Try.underlying25 (by kernel_rfl) 25 HZ.out) rfl) rfl ⟨by rw [HE1.out, HE2.out]; rfl, BZ.out⟩
  obtain ⟨N, rfl⟩ : ∃ N : Nat, n = (N : Int) := ⟨n.toNat, by omega⟩
  clear hneg
  go_upto_region 2 with (fail)
  refine name_two (Q := fun X => Code.wp _ _ _ _ X) ?_
  intro W1 hq1 hq2 hB0
  have T1 : Hid (Ts w W1 g r W0.heap.size (W0.heap.size + 1) t N 0) := Lib.hid ⟨T0.out.q.below hB0 T0.out.q.lt, T0.out.z.below hB0 T0.out.z.lt, hq1, hq2, T0.out.b.trans (hB0.mono T0.out.b.size), T0.out.lg, T0.out.lr, T0.out.b.size, Nat.le_succ_of_le T0.out.b.size, T0.out.gr, Nat.ne_of_lt T0.out.q.lt, Nat.ne_of_lt (Nat.lt_succ_of_lt T0.out.q.lt), Nat.ne_of_lt T0.out.z.lt, Nat.ne_of_lt (Nat.lt_succ_of_lt T0.out.z.lt), Nat.ne_of_lt (Nat.lt_succ_self _)⟩
  clear hq1 hq2 hB0 T0
  obtain ⟨l, hl⟩ : ∃ l, W0.heap.size = l := ⟨_, rfl⟩
  obtain ⟨k, hk⟩ : ∃ k, W0.heap.size + 1 = k := ⟨_, rfl⟩
  rw [hk, hl] at T1 ⊢
  clear hk hl
  by_cases hr : t.c % 2 = 0
  · have _ := hc
    have KA1 : Hid (∀ X, Ts w X g r l k t N 0 → Calls Try.prog 22 #[.pointer (some ⟨g, 0, none⟩), .pointer (some ⟨l, 0, none⟩), .pointer (some ⟨k, 0, none⟩)] X fun x W' => x = .returned (.int .i64 0) ∧ Ts w W' g r l k t N 0) := Lib.hid (fun X hX => round_no h hX (by omega) (.inl (if_pos hr)))
    have KR := Lib.hid (run_tk h false (decide_eq_false (by omega)))
    have HE1 : Hid (ticksT t (N : Int).toNat = t) := Lib.hid (still hr _).1
    have HE2 : Hid (countT t (N : Int).toNat = 0) := Lib.hid (still hr _).2
    clear hr
    go_upto_region 10 with (first
      | (go_at_call 22; with_reducible refine (KA1.out _ T2.out).mono ?_; rintro e W3 ⟨rfl, hT⟩; have T3 := Lib.hid hT; clear hT; have cl := T3.out.cl; have ck := T3.out.ck; have c0 := T3.out.q.c0)
      | (go_at_call 22; with_reducible refine (KA1.out _ T1.out).mono ?_; rintro e W2 ⟨rfl, hT⟩; have T2 := Lib.hid hT; clear hT)
      | (go_at_call 18; with_reducible refine (KR.out _).mono ?_; rintro e W4 ⟨rfl, hB⟩; have T4 := Lib.hid (T3.out.under hB); have clr := T4.out.cl; have ckr := T4.out.ck; have c0r := T4.out.q.c0; clear hB)
      | ((with_reducible show wpList _ _ _ (⟨some 27, .load 25 (.tmp 2), _, _, _, _⟩ :: _) _ _); refine wpList_load_t (by rfl) 25 _ rfl g (by exact rfl) _ Try.underlying25 (by kernel_rfl) 25 T3.out.q ?_))
    refine wp_region_noPanic ?_
    refine wp_region_held_drew (S := fun X => TRow X g 25 (t) ∧ X.cell? ⟨k, 0, none⟩ = some (.int .i64 ((0 : Nat) : Int)) ∧ Below w.heap.size w X) (by kernel_rfl) (⟨T4.out.q.below (Below.refl _ _).drew T4.out.q.lt, (T4.out.under (Below.refl _ _).drew).ck, (T4.out.under (Below.refl _ _).drew).b⟩) (fun hHeld => ?_)
    have TY := Lib.hid (T4.out.under (Below.refl _ _).drew)
    obtain ⟨Y0, hY0⟩ : ∃ Y, W4.drew = Y := ⟨_, rfl⟩
    rw [hY0] at hHeld TY ⊢
    clear hY0
    refine' take_ 0 rfl (by kernel_rfl) (by kernel_rfl) (by kernel_rfl) (fun _ _ _ h => h) (by rfl) (fun wS hSw => run_load_t wS 25 _ g rfl _ Try.underlying25 (by kernel_rfl) 25 hSw.1 _ _ _ _ _) hHeld ?_
    try simp only [Act.put, List.setIfInBounds_toArray, List.set_cons_zero, List.set_cons_succ]
    refine' take_ 1 rfl (by kernel_rfl) (by kernel_rfl) (by kernel_rfl) (fun _ _ _ h => h) (by rfl) (fun wS hSw => ?_) hHeld ?_
    rotate_left
    focus ((have hck := hSw.2.1); go_simp; (try with_reducible rfl); done)
    try simp only [Act.put, List.setIfInBounds_toArray, List.set_cons_zero, List.set_cons_succ]
    refine only_ 2 rfl (by kernel_rfl) (by rfl) (fun K hK => ?_)
    refine wp_store_t 25 _ _ rfl r rfl (by rfl) (by kernel_rfl) 25 TY.out.z ?_
    intro WZ HN HO HB
    have HZ := HN
    have BZ := Lib.hid (TY.out.b.trans (HB.out.mono TY.out.lr))
    have hHeld2 : TRow WZ g 25 (t) ∧ WZ.cell? ⟨k, 0, none⟩ = some (.int .i64 ((0 : Nat) : Int)) ∧ Below w.heap.size w WZ := ⟨TY.out.q.other HO.out TY.out.gr, (TY.out.vk.off HO.out TY.out.rk.symm).cell 0 _ rfl, BZ.out⟩
    refine hK.out _ _ hHeld2 (fun _ => ?_)
    clear hK K hHeld TY HN HO HB
    show wpAnyH _ _ _ _ _ _ _ (Act.put _ none _) _
    try simp only [Act.put, List.setIfInBounds_toArray, List.set_cons_zero, List.set_cons_succ]
    refine' take_ 3 rfl (by kernel_rfl) (by kernel_rfl) (by kernel_rfl) (fun _ _ _ h => h) (by rfl) (fun wS hSw => ?_) hHeld2 ?_
    rotate_left
    focus (go_simp; (try with_reducible rfl); done)
    try simp only [Act.put, List.setIfInBounds_toArray, List.set_cons_zero, List.set_cons_succ]
    clear hHeld2
    refine wpAnyH_done (by kernel_rfl) ?_ _
    refine NoPanic.normal ?_
    go_wp2_with fail
    exact bodyPost_ret (v := .tuple #[tv (t), .int .i64 ((0 : Nat) : Int)]) (results_ct Try.results13 _ _ _ _ _ _ rfl (run_loadVar_t WZ r 25 _ Try.underlying25 (by kernel_rfl) 25 HZ.out) rfl) rfl ⟨by rw [HE1.out, HE2.out]; rfl, BZ.out⟩
  have hr1 : t.c % 2 = 1 := by omega
  clear hr
  by_cases hlt : N < nextT t
  · have hle := nextT_le t
    have KA1 : Hid (∀ X, Ts w X g r l k t N 0 → Calls Try.prog 22 #[.pointer (some ⟨g, 0, none⟩), .pointer (some ⟨l, 0, none⟩), .pointer (some ⟨k, 0, none⟩)] X fun x W' => x = .returned (.int .i64 0) ∧ Ts w W' g r l k t N 0) := Lib.hid (fun X hX => round_no h hX (by omega) (.inr hlt))
    have KR := Lib.hid (run_tk h true (decide_eq_true hr1))
    have hb4 := ticks_before h hr1 N hlt
    have ho : onT t N = ⟨(t.a + N) % 65536, t.b, t.c⟩ := if_neg (by omega)
    obtain ⟨m, hm⟩ : ∃ x, (t.a + N) % 65536 = x := ⟨_, rfl⟩
    rw [hm] at ho
    rw [ho] at hb4
    have HE1 : Hid (ticksT t (N : Int).toNat = ⟨m, t.b, t.c⟩) := Lib.hid (by rw [show (N : Int).toNat = N by omega]; exact hb4.1)
    have HE2 : Hid (countT t (N : Int).toNat = 0) := Lib.hid (by rw [show (N : Int).toNat = N by omega]; exact hb4.2)
    have KW : Hid (∀ v : Int, v = (t.a : Int) + ((N : Nat) : Int) → ∀ X, Calls Try.prog 19 #[.int .i64 v] X fun x w' => x = .returned (.int .u16 (m : Int)) ∧ w' = X) := Lib.hid (fun v hv X => low_tk v m X (by omega) (by omega) (by omega))
    have dN : ((N : Nat) : Int) ≤ 65536 := by omega
    have da : (t.a : Int) < 65536 := by omega
    clear hb4 ho hm hlt hle
    go_upto_region 10 with (first
      | ((with_reducible show wpList _ _ _ (⟨none, .store 22 (.tmp 35) (.tmp 34), _, _, _, _⟩ :: _) _ _); refine wpList_store_c rfl 22 _ _ rfl g 0 (by exact rfl) (.int .u16 (m : Int)) (by exact rfl) rfl (by kernel_rfl) 25 _ T4.out.q (show 0 < 3 by decide) ?_; intro W5 HN HO HB; have T5 : Hid (Ts w W5 g r l k ⟨m, t.b, t.c⟩ _ _) := Lib.hid (T4.out.setG (u := ⟨m, t.b, t.c⟩) HN.out HO.out HB.out); clear HN HO HB)
      | (go_at_call 19; refine (KW.out _ (by first | rfl | omega) _).mono ?_; rintro e WX ⟨rfl, rfl⟩)
      | (go_at_call 22; with_reducible refine (KA1.out _ T2.out).mono ?_; rintro e W3 ⟨rfl, hT⟩; have T3 := Lib.hid hT; clear hT; have cl := T3.out.cl; have ck := T3.out.ck; have c0 := T3.out.q.c0)
      | (go_at_call 22; with_reducible refine (KA1.out _ T1.out).mono ?_; rintro e W2 ⟨rfl, hT⟩; have T2 := Lib.hid hT; clear hT)
      | (go_at_call 18; with_reducible refine (KR.out _).mono ?_; rintro e W4 ⟨rfl, hB⟩; have T4 := Lib.hid (T3.out.under hB); have clr := T4.out.cl; have ckr := T4.out.ck; have c0r := T4.out.q.c0; clear hB)
      | ((with_reducible show wpList _ _ _ (⟨some 27, .load 25 (.tmp 2), _, _, _, _⟩ :: _) _ _); refine wpList_load_t (by rfl) 25 _ rfl g (by exact rfl) _ Try.underlying25 (by kernel_rfl) 25 T3.out.q ?_))
    refine wp_region_noPanic ?_
    refine wp_region_held_drew (S := fun X => TRow X g 25 (⟨m, t.b, t.c⟩) ∧ X.cell? ⟨k, 0, none⟩ = some (.int .i64 ((0 : Nat) : Int)) ∧ Below w.heap.size w X) (by kernel_rfl) (⟨T5.out.q.below (Below.refl _ _).drew T5.out.q.lt, (T5.out.under (Below.refl _ _).drew).ck, (T5.out.under (Below.refl _ _).drew).b⟩) (fun hHeld => ?_)
    have TY := Lib.hid (T5.out.under (Below.refl _ _).drew)
    obtain ⟨Y0, hY0⟩ : ∃ Y, W5.drew = Y := ⟨_, rfl⟩
    rw [hY0] at hHeld TY ⊢
    clear hY0
    refine' take_ 0 rfl (by kernel_rfl) (by kernel_rfl) (by kernel_rfl) (fun _ _ _ h => h) (by rfl) (fun wS hSw => run_load_t wS 25 _ g rfl _ Try.underlying25 (by kernel_rfl) 25 hSw.1 _ _ _ _ _) hHeld ?_
    try simp only [Act.put, List.setIfInBounds_toArray, List.set_cons_zero, List.set_cons_succ]
    refine' take_ 1 rfl (by kernel_rfl) (by kernel_rfl) (by kernel_rfl) (fun _ _ _ h => h) (by rfl) (fun wS hSw => ?_) hHeld ?_
    rotate_left
    focus ((have hck := hSw.2.1); go_simp; (try with_reducible rfl); done)
    try simp only [Act.put, List.setIfInBounds_toArray, List.set_cons_zero, List.set_cons_succ]
    refine only_ 2 rfl (by kernel_rfl) (by rfl) (fun K hK => ?_)
    refine wp_store_t 25 _ _ rfl r rfl (by rfl) (by kernel_rfl) 25 TY.out.z ?_
    intro WZ HN HO HB
    have HZ := HN
    have BZ := Lib.hid (TY.out.b.trans (HB.out.mono TY.out.lr))
    have hHeld2 : TRow WZ g 25 (⟨m, t.b, t.c⟩) ∧ WZ.cell? ⟨k, 0, none⟩ = some (.int .i64 ((0 : Nat) : Int)) ∧ Below w.heap.size w WZ := ⟨TY.out.q.other HO.out TY.out.gr, (TY.out.vk.off HO.out TY.out.rk.symm).cell 0 _ rfl, BZ.out⟩
    refine hK.out _ _ hHeld2 (fun _ => ?_)
    clear hK K hHeld TY HN HO HB
    show wpAnyH _ _ _ _ _ _ _ (Act.put _ none _) _
    try simp only [Act.put, List.setIfInBounds_toArray, List.set_cons_zero, List.set_cons_succ]
    refine' take_ 3 rfl (by kernel_rfl) (by kernel_rfl) (by kernel_rfl) (fun _ _ _ h => h) (by rfl) (fun wS hSw => ?_) hHeld2 ?_
    rotate_left
    focus (go_simp; (try with_reducible rfl); done)
    try simp only [Act.put, List.setIfInBounds_toArray, List.set_cons_zero, List.set_cons_succ]
    clear hHeld2
    refine wpAnyH_done (by kernel_rfl) ?_ _
    refine NoPanic.normal ?_
    go_wp2_with fail
    exact bodyPost_ret (v := .tuple #[tv (⟨m, t.b, t.c⟩), .int .i64 ((0 : Nat) : Int)]) (results_ct Try.results13 _ _ _ _ _ _ rfl (run_loadVar_t WZ r 25 _ Try.underlying25 (by kernel_rfl) 25 HZ.out) rfl) rfl ⟨by rw [HE1.out, HE2.out]; rfl, BZ.out⟩
  have hge : nextT t ≤ N := by omega
  have hle := nextT_le t
  have hfirst := ticks_first h hr1
  have KY := Lib.hid (fun (X : World) (hX : Ts w X g r l k t N 0) => round_yes h hX (by omega) (by omega) hr1 hge)
  by_cases hag : t.c / 2 % 2 = 0
  · rw [if_pos hag] at hfirst
    have ho := ticks_once h hr1 hag N hge
    obtain ⟨t1, ht1⟩ : ∃ x, (Tm.mk 0 t.b (t.c - 1)) = x := ⟨_, rfl⟩
    have hok1 : t1.ok := by rw [← ht1]; exact ⟨Nat.zero_lt_succ _, hb, by show t.c - 1 < 65536; omega⟩
    have hr0 : t1.c % 2 = 0 := by rw [← ht1]; show (t.c - 1) % 2 = 0; omega
    rw [ht1] at hfirst ho
    rw [hfirst.1] at KY
    obtain ⟨q, hq⟩ : ∃ x, nextT t = x := ⟨_, rfl⟩
    have hq0 : 1 ≤ q := by rw [← hq, nextT_run hr1]; omega
    rw [hq] at KY hle
    obtain ⟨j, hj⟩ : ∃ x, N - q = x := ⟨_, rfl⟩
    rw [hj] at KY
    have KA1 : Hid (∀ X, Ts w X g r l k t N 0 → Calls Try.prog 22 #[.pointer (some ⟨g, 0, none⟩), .pointer (some ⟨l, 0, none⟩), .pointer (some ⟨k, 0, none⟩)] X fun x W' => x = .returned (.int .i64 (q : Int)) ∧ Ts w W' g r l k t1 j 1) := KY
    have KA2 : Hid (∀ X, Ts w X g r l k t1 j 1 → Calls Try.prog 22 #[.pointer (some ⟨g, 0, none⟩), .pointer (some ⟨l, 0, none⟩), .pointer (some ⟨k, 0, none⟩)] X fun x W' => x = .returned (.int .i64 0) ∧ Ts w W' g r l k t1 j 1) := Lib.hid (fun X hX => round_no hok1 hX (by omega) (.inl (if_pos hr0)))
    have KR := Lib.hid (run_tk hok1 false (decide_eq_false (by omega)))
    have HE1 : Hid (ticksT t (N : Int).toNat = t1) := Lib.hid ho.1
    have HE2 : Hid (countT t (N : Int).toNat = 1) := Lib.hid ho.2
    clear ho hfirst ht1 hok1 hr0 hag hge hle hq hq0 hj hr1 hlt KY
    go_upto_region 10 with (first
      | (go_at_call 22; with_reducible refine (KA2.out _ T2.out).mono ?_; rintro e W3 ⟨rfl, hT⟩; have T3 := Lib.hid hT; clear hT; have cl := T3.out.cl; have ck := T3.out.ck; have c0 := T3.out.q.c0)
      | (go_at_call 22; with_reducible refine (KA1.out _ T1.out).mono ?_; rintro e W2 ⟨rfl, hT⟩; have T2 := Lib.hid hT; clear hT)
      | (go_at_call 18; with_reducible refine (KR.out _).mono ?_; rintro e W4 ⟨rfl, hB⟩; have T4 := Lib.hid (T3.out.under hB); have clr := T4.out.cl; have ckr := T4.out.ck; have c0r := T4.out.q.c0; clear hB)
      | ((with_reducible show wpList _ _ _ (⟨some 27, .load 25 (.tmp 2), _, _, _, _⟩ :: _) _ _); refine wpList_load_t (by rfl) 25 _ rfl g (by exact rfl) _ Try.underlying25 (by kernel_rfl) 25 T3.out.q ?_))
    refine wp_region_noPanic ?_
    refine wp_region_held_drew (S := fun X => TRow X g 25 (t1) ∧ X.cell? ⟨k, 0, none⟩ = some (.int .i64 ((1 : Nat) : Int)) ∧ Below w.heap.size w X) (by kernel_rfl) (⟨T4.out.q.below (Below.refl _ _).drew T4.out.q.lt, (T4.out.under (Below.refl _ _).drew).ck, (T4.out.under (Below.refl _ _).drew).b⟩) (fun hHeld => ?_)
    have TY := Lib.hid (T4.out.under (Below.refl _ _).drew)
    obtain ⟨Y0, hY0⟩ : ∃ Y, W4.drew = Y := ⟨_, rfl⟩
    rw [hY0] at hHeld TY ⊢
    clear hY0
    refine' take_ 0 rfl (by kernel_rfl) (by kernel_rfl) (by kernel_rfl) (fun _ _ _ h => h) (by rfl) (fun wS hSw => run_load_t wS 25 _ g rfl _ Try.underlying25 (by kernel_rfl) 25 hSw.1 _ _ _ _ _) hHeld ?_
    try simp only [Act.put, List.setIfInBounds_toArray, List.set_cons_zero, List.set_cons_succ]
    refine' take_ 1 rfl (by kernel_rfl) (by kernel_rfl) (by kernel_rfl) (fun _ _ _ h => h) (by rfl) (fun wS hSw => ?_) hHeld ?_
    rotate_left
    focus ((have hck := hSw.2.1); go_simp; (try with_reducible rfl); done)
    try simp only [Act.put, List.setIfInBounds_toArray, List.set_cons_zero, List.set_cons_succ]
    refine only_ 2 rfl (by kernel_rfl) (by rfl) (fun K hK => ?_)
    refine wp_store_t 25 _ _ rfl r rfl (by rfl) (by kernel_rfl) 25 TY.out.z ?_
    intro WZ HN HO HB
    have HZ := HN
    have BZ := Lib.hid (TY.out.b.trans (HB.out.mono TY.out.lr))
    have hHeld2 : TRow WZ g 25 (t1) ∧ WZ.cell? ⟨k, 0, none⟩ = some (.int .i64 ((1 : Nat) : Int)) ∧ Below w.heap.size w WZ := ⟨TY.out.q.other HO.out TY.out.gr, (TY.out.vk.off HO.out TY.out.rk.symm).cell 0 _ rfl, BZ.out⟩
    refine hK.out _ _ hHeld2 (fun _ => ?_)
    clear hK K hHeld TY HN HO HB
    show wpAnyH _ _ _ _ _ _ _ (Act.put _ none _) _
    try simp only [Act.put, List.setIfInBounds_toArray, List.set_cons_zero, List.set_cons_succ]
    refine' take_ 3 rfl (by kernel_rfl) (by kernel_rfl) (by kernel_rfl) (fun _ _ _ h => h) (by rfl) (fun wS hSw => ?_) hHeld2 ?_
    rotate_left
    focus (go_simp; (try with_reducible rfl); done)
    try simp only [Act.put, List.setIfInBounds_toArray, List.set_cons_zero, List.set_cons_succ]
    clear hHeld2
    refine wpAnyH_done (by kernel_rfl) ?_ _
    refine NoPanic.normal ?_
    go_wp2_with fail
    exact bodyPost_ret (v := .tuple #[tv (t1), .int .i64 ((1 : Nat) : Int)]) (results_ct Try.results13 _ _ _ _ _ _ rfl (run_loadVar_t WZ r 25 _ Try.underlying25 (by kernel_rfl) 25 HZ.out) rfl) rfl ⟨by rw [HE1.out, HE2.out]; rfl, BZ.out⟩
  rw [if_neg hag] at hfirst
  have ho := ticks_again h hr1 (by omega) N hge
  obtain ⟨t1, ht1⟩ : ∃ x, (Tm.mk 0 t.b t.c) = x := ⟨_, rfl⟩
  have hok1 : t1.ok := by rw [← ht1]; exact ⟨Nat.zero_lt_succ _, hb, hc⟩
  have ha1 : t1.a = 0 := by rw [← ht1]
  have hb1 : t1.b = t.b := by rw [← ht1]
  have hc1 : t1.c = t.c := by rw [← ht1]
  have hnx1 : nextT t1 = perT t.b := by rw [← ht1]; exact next_zero hb hr1
  have hf1 := ticks_first hok1 (by omega)
  rw [if_neg (by omega), hb1, hc1, ht1] at hf1
  rw [ht1] at hfirst
  rw [hfirst.1] at KY
  obtain ⟨q, hq⟩ : ∃ x, nextT t = x := ⟨_, rfl⟩
  have hq0 : 1 ≤ q := by rw [← hq, nextT_run hr1]; omega
  rw [hq] at KY hle ho
  obtain ⟨j, hj⟩ : ∃ x, N - q = x := ⟨_, rfl⟩
  rw [hj] at KY ho
  have hP0 := perT_pos t.b
  have hP1 : perT t.b ≤ 65536 := by unfold perT; split <;> omega
  obtain ⟨P, hP⟩ : ∃ x, perT t.b = x := ⟨_, rfl⟩
  rw [hP] at ho hnx1 hP0 hP1
  have KA1 : Hid (∀ X, Ts w X g r l k t N 0 → Calls Try.prog 22 #[.pointer (some ⟨g, 0, none⟩), .pointer (some ⟨l, 0, none⟩), .pointer (some ⟨k, 0, none⟩)] X fun x W' => x = .returned (.int .i64 (q : Int)) ∧ Ts w W' g r l k t1 j 1) := KY
  have KR := Lib.hid (run_tk hok1 true (decide_eq_true (by omega)))
  have hjN : j ≤ N := by omega
  by_cases hjP : j < P
  · have _ := hc
    have KA2 : Hid (∀ X, Ts w X g r l k t1 j 1 → Calls Try.prog 22 #[.pointer (some ⟨g, 0, none⟩), .pointer (some ⟨l, 0, none⟩), .pointer (some ⟨k, 0, none⟩)] X fun x W' => x = .returned (.int .i64 0) ∧ Ts w W' g r l k t1 j 1) := Lib.hid (fun X hX => round_no hok1 hX (by omega) (.inr (by rw [hnx1]; exact hjP)))
    obtain ⟨m, hm⟩ : ∃ x, j = x := ⟨_, rfl⟩
    have KW : Hid (∀ v : Int, v = (t1.a : Int) + ((j : Nat) : Int) → ∀ X, Calls Try.prog 19 #[.int .i64 v] X fun x w' => x = .returned (.int .u16 (m : Int)) ∧ w' = X) := Lib.hid (fun v hv X => low_tk v m X (by omega) (by omega) (by omega))
    have HE1 : Hid (ticksT t (N : Int).toNat = ⟨m, t1.b, t1.c⟩) := Lib.hid (by rw [hb1, hc1, ← hm]; have := ho.1; rwa [Nat.mod_eq_of_lt hjP] at this)
    have HE2 : Hid (countT t (N : Int).toNat = 1) := Lib.hid (by have := ho.2; rwa [Nat.div_eq_of_lt hjP] at this)
    have dN : (j : Int) ≤ 65536 := by omega
    have da : (t1.a : Int) < 65536 := by omega
    clear ho hfirst hf1 ht1 hok1 ha1 hb1 hc1 hnx1 hag hge hle hq hq0 hj hr1 hlt KY hP hP0 hP1 hm hjP hjN
    go_upto_region 10 with (first
      | ((with_reducible show wpList _ _ _ (⟨none, .store 22 (.tmp 35) (.tmp 34), _, _, _, _⟩ :: _) _ _); refine wpList_store_c rfl 22 _ _ rfl g 0 (by exact rfl) (.int .u16 (m : Int)) (by exact rfl) rfl (by kernel_rfl) 25 _ T4.out.q (show 0 < 3 by decide) ?_; intro W5 HN HO HB; have T5 : Hid (Ts w W5 g r l k ⟨m, t1.b, t1.c⟩ _ _) := Lib.hid (T4.out.setG (u := ⟨m, t1.b, t1.c⟩) HN.out HO.out HB.out); clear HN HO HB)
      | (go_at_call 19; refine (KW.out _ (by first | rfl | omega) _).mono ?_; rintro e WX ⟨rfl, rfl⟩)
      | (go_at_call 22; with_reducible refine (KA2.out _ T2.out).mono ?_; rintro e W3 ⟨rfl, hT⟩; have T3 := Lib.hid hT; clear hT; have cl := T3.out.cl; have ck := T3.out.ck; have c0 := T3.out.q.c0)
      | (go_at_call 22; with_reducible refine (KA1.out _ T1.out).mono ?_; rintro e W2 ⟨rfl, hT⟩; have T2 := Lib.hid hT; clear hT)
      | (go_at_call 18; with_reducible refine (KR.out _).mono ?_; rintro e W4 ⟨rfl, hB⟩; have T4 := Lib.hid (T3.out.under hB); have clr := T4.out.cl; have ckr := T4.out.ck; have c0r := T4.out.q.c0; clear hB)
      | ((with_reducible show wpList _ _ _ (⟨some 27, .load 25 (.tmp 2), _, _, _, _⟩ :: _) _ _); refine wpList_load_t (by rfl) 25 _ rfl g (by exact rfl) _ Try.underlying25 (by kernel_rfl) 25 T3.out.q ?_))
    refine wp_region_noPanic ?_
    refine wp_region_held_drew (S := fun X => TRow X g 25 (⟨m, t1.b, t1.c⟩) ∧ X.cell? ⟨k, 0, none⟩ = some (.int .i64 ((1 : Nat) : Int)) ∧ Below w.heap.size w X) (by kernel_rfl) (⟨T5.out.q.below (Below.refl _ _).drew T5.out.q.lt, (T5.out.under (Below.refl _ _).drew).ck, (T5.out.under (Below.refl _ _).drew).b⟩) (fun hHeld => ?_)
    have TY := Lib.hid (T5.out.under (Below.refl _ _).drew)
    obtain ⟨Y0, hY0⟩ : ∃ Y, W5.drew = Y := ⟨_, rfl⟩
    rw [hY0] at hHeld TY ⊢
    clear hY0
    refine' take_ 0 rfl (by kernel_rfl) (by kernel_rfl) (by kernel_rfl) (fun _ _ _ h => h) (by rfl) (fun wS hSw => run_load_t wS 25 _ g rfl _ Try.underlying25 (by kernel_rfl) 25 hSw.1 _ _ _ _ _) hHeld ?_
    try simp only [Act.put, List.setIfInBounds_toArray, List.set_cons_zero, List.set_cons_succ]
    refine' take_ 1 rfl (by kernel_rfl) (by kernel_rfl) (by kernel_rfl) (fun _ _ _ h => h) (by rfl) (fun wS hSw => ?_) hHeld ?_
    rotate_left
    focus ((have hck := hSw.2.1); go_simp; (try with_reducible rfl); done)
    try simp only [Act.put, List.setIfInBounds_toArray, List.set_cons_zero, List.set_cons_succ]
    refine only_ 2 rfl (by kernel_rfl) (by rfl) (fun K hK => ?_)
    refine wp_store_t 25 _ _ rfl r rfl (by rfl) (by kernel_rfl) 25 TY.out.z ?_
    intro WZ HN HO HB
    have HZ := HN
    have BZ := Lib.hid (TY.out.b.trans (HB.out.mono TY.out.lr))
    have hHeld2 : TRow WZ g 25 (⟨m, t1.b, t1.c⟩) ∧ WZ.cell? ⟨k, 0, none⟩ = some (.int .i64 ((1 : Nat) : Int)) ∧ Below w.heap.size w WZ := ⟨TY.out.q.other HO.out TY.out.gr, (TY.out.vk.off HO.out TY.out.rk.symm).cell 0 _ rfl, BZ.out⟩
    refine hK.out _ _ hHeld2 (fun _ => ?_)
    clear hK K hHeld TY HN HO HB
    show wpAnyH _ _ _ _ _ _ _ (Act.put _ none _) _
    try simp only [Act.put, List.setIfInBounds_toArray, List.set_cons_zero, List.set_cons_succ]
    refine' take_ 3 rfl (by kernel_rfl) (by kernel_rfl) (by kernel_rfl) (fun _ _ _ h => h) (by rfl) (fun wS hSw => ?_) hHeld2 ?_
    rotate_left
    focus (go_simp; (try with_reducible rfl); done)
    try simp only [Act.put, List.setIfInBounds_toArray, List.set_cons_zero, List.set_cons_succ]
    clear hHeld2
    refine wpAnyH_done (by kernel_rfl) ?_ _
    refine NoPanic.normal ?_
    go_wp2_with fail
    exact bodyPost_ret (v := .tuple #[tv (⟨m, t1.b, t1.c⟩), .int .i64 ((1 : Nat) : Int)]) (results_ct Try.results13 _ _ _ _ _ _ rfl (run_loadVar_t WZ r 25 _ Try.underlying25 (by kernel_rfl) 25 HZ.out) rfl) rfl ⟨by rw [HE1.out, HE2.out]; rfl, BZ.out⟩
  · have _ := hc
    have KA2 := Lib.hid (fun (X : World) (hX : Ts w X g r l k t1 j 1) => round_yes hok1 hX (by omega) (by omega) (by omega) (by rw [hnx1]; omega))
    rw [hnx1] at KA2 hf1
    rw [hf1.1] at KA2
    obtain ⟨jj, hjj⟩ : ∃ x, j - P = x := ⟨_, rfl⟩
    rw [hjj] at KA2
    replace KA2 : Hid (∀ X, Ts w X g r l k t1 j 1 → Calls Try.prog 22 #[.pointer (some ⟨g, 0, none⟩), .pointer (some ⟨l, 0, none⟩), .pointer (some ⟨k, 0, none⟩)] X fun x W' => x = .returned (.int .i64 (P : Int)) ∧ Ts w W' g r l k t1 jj 2) := KA2
    obtain ⟨Q, hQ⟩ : ∃ x, jj / P = x := ⟨_, rfl⟩
    obtain ⟨R, hR⟩ : ∃ x, jj % P = x := ⟨_, rfl⟩
    have hRP : R < P := by rw [← hR]; exact Nat.mod_lt _ hP0
    have hQj : Q ≤ jj := by rw [← hQ]; exact Nat.div_le_self _ _
    have hQi : (jj : Int) / (P : Int) = (Q : Int) := by rw [← hQ]; rfl
    have HQ : Hid (IntKind.i64.wrap ((jj : Int) / (P : Int)) = (Q : Int)) := Lib.hid (by rw [hQi]; simp [IntKind.wrap, IntKind.bits, IntKind.signed]; omega)
    have HR2 : Hid ((jj : Int) % (P : Int) = (R : Int)) := Lib.hid (by rw [← hR]; rfl)
    have HR3 : Hid (IntKind.i64.wrap ((jj : Int) % (P : Int)) = (R : Int)) := Lib.hid (by rw [HR2.out]; simp [IntKind.wrap, IntKind.bits, IntKind.signed]; omega)
    have HR : Hid ((jj : Int).tmod (P : Int) = (R : Int)) := Lib.hid (by rw [← hR, Int.tmod_eq_emod_of_nonneg (by omega)]; rfl)
    have HA : Hid ((2 : Int) + (Q : Int) = ((2 + Q : Nat) : Int)) := Lib.hid (by omega)
    have hQs : Q + 2 ≤ 9223372036854775807 := by omega
    have HA2 : Hid (IntKind.i64.wrap ((2 + Q : Nat) : Int) = ((2 + Q : Nat) : Int)) := Lib.hid (by simp [IntKind.wrap, IntKind.bits, IntKind.signed]; omega)
    clear hQs
    have ej : j = jj + P := by omega
    obtain ⟨m, hm⟩ : ∃ x, R = x := ⟨_, rfl⟩
    have KW : Hid (∀ v : Int, v = (t1.a : Int) + ((R : Nat) : Int) → ∀ X, Calls Try.prog 19 #[.int .i64 v] X fun x w' => x = .returned (.int .u16 (m : Int)) ∧ w' = X) := Lib.hid (fun v hv X => low_tk v m X (by omega) (by omega) (by omega))
    have HE1 : Hid (ticksT t (N : Int).toNat = ⟨m, t1.b, t1.c⟩) := Lib.hid (by rw [hb1, hc1, ← hm, ← hR]; have := ho.1; rwa [ej, Nat.add_mod_right] at this)
    have HE2 : Hid (countT t (N : Int).toNat = 2 + Q) := Lib.hid (by have h2 := ho.2; rw [ej, Nat.add_div_right _ hP0, hQ] at h2; have h3 : countT t (N : Int).toNat = 1 + (Q + 1) := h2; omega)
    have d1 : 0 < P := by omega
    have d2 : (jj : Int) ≤ 9223372036854775807 := by omega
    have d3 : ((P : Int) == 0) = false := by simp; omega
    have d4 : (P : Int) ≠ 0 := by omega
    have d5 : (R : Int) ≤ 65536 := by omega
    have d6 : (Q : Int) ≤ 9223372036854775805 := by omega
    have HM := Lib.hid hm
    have DA : Hid ((t1.a : Int) < 65536) := Lib.hid (by omega)
    have D5 := Lib.hid d5
    have D6 := Lib.hid d6
    clear d5 d6
    clear ho hfirst hf1 ht1 hok1 ha1 hb1 hc1 hnx1 hag hge hle hq hq0 hj hr1 hlt KY hP hP0 hP1 hm hjP hjN hjj hQ hR hRP hQj ej hQi
    go_upto_region 6 with (first
      | (go_at_call 22; with_reducible refine (KA2.out _ T2.out).mono ?_; rintro e W3 ⟨rfl, hT⟩; have T3 := Lib.hid hT; clear hT; have cl := T3.out.cl; have ck := T3.out.ck; have c0 := T3.out.q.c0)
      | (go_at_call 22; with_reducible refine (KA1.out _ T1.out).mono ?_; rintro e W2 ⟨rfl, hT⟩; have T2 := Lib.hid hT; clear hT))
    refine wp_region_noPanic ?_
    refine wp_region_held_drew (S := fun X => X.cell? ⟨l, 0, none⟩ = some (.int .i64 (jj : Int)) ∧ Below w.heap.size w X) (by kernel_rfl) (⟨(T3.out.under (Below.refl _ _).drew).cl, (T3.out.under (Below.refl _ _).drew).b⟩) (fun hHeld => ?_)
    have TY := Lib.hid (T3.out.under (Below.refl _ _).drew)
    obtain ⟨Y0, hY0⟩ : ∃ Y, W3.drew = Y := ⟨_, rfl⟩
    rw [hY0] at hHeld TY ⊢
    clear hY0 cl ck c0 T3
    refine' take_ 1 rfl (by kernel_rfl) (by kernel_rfl) (by kernel_rfl) (fun _ _ _ h => h) (by rfl) (fun wS hSw => ?_) hHeld ?_
    rotate_left
    focus ((have hcl := hSw.1); go_simp; (try with_reducible rfl); done)
    try simp only [Act.put, List.setIfInBounds_toArray, List.set_cons_zero, List.set_cons_succ]
    refine' take_ 2 rfl (by kernel_rfl) (by kernel_rfl) (by kernel_rfl) (fun _ _ _ h => h) (by rfl) (fun wS hSw => ?_) hHeld ?_
    rotate_left
    focus (go_simp; (try with_reducible rfl); done)
    try simp only [Act.put, List.setIfInBounds_toArray, List.set_cons_zero, List.set_cons_succ]
    refine' take_ (v := .int .i64 (Q : Int)) 3 rfl (by kernel_rfl) (by kernel_rfl) (by kernel_rfl) (fun _ _ _ h => h) (by rfl) (fun wS hSw => ?_) hHeld ?_
    focus (go_simp; rw [if_neg (Nat.ne_of_gt d1), HQ.out]; done)
    try simp only [Act.put, List.setIfInBounds_toArray, List.set_cons_zero, List.set_cons_succ]
    refine only_ 0 rfl (by kernel_rfl) (by rfl) (fun K hK => ?_)
    refine wp_of_run (w' := Y0) (.int .i64 ((2 : Nat) : Int)) (by have hck := TY.out.ck; go_simp) (hK.out _ _ hHeld (fun _ => ?_))
    clear hK K
    show wpAnyH _ _ _ _ _ _ _ (Act.put _ (some 19) _) _
    try simp only [Act.put, List.setIfInBounds_toArray, List.set_cons_zero, List.set_cons_succ]
    refine' take_ (v := .int .i64 ((2 + Q : Nat) : Int)) 4 rfl (by kernel_rfl) (by kernel_rfl) (by kernel_rfl) (fun _ _ _ h => h) (by rfl) (fun wS hSw => ?_) hHeld ?_
    focus (go_simp; (try rw [HA.out]); (try rw [HA2.out]); done)
    try simp only [Act.put, List.setIfInBounds_toArray, List.set_cons_zero, List.set_cons_succ]
    refine only_ 5 rfl (by kernel_rfl) (by rfl) (fun K hK => ?_)
    refine wp_store_row rfl 3 _ _ rfl k 0 rfl [.int .i64 ((2 + Q : Nat) : Int)] rfl (by kernel_rfl) _ [.int .i64 ((2 + Q : Nat) : Int)] 3 TY.out.vk (by simp) (one_one _ rfl) (by simp) ?_
    have T5 := Lib.hid (TY.out.setK (c := 2 + Q) (setRow_heap _ _ _ _ _ _ TY.out.vk) (fun j hj => setRow_other _ _ j _ hj) (setRow_below (Below.refl _ _) (Nat.le_refl _) _))
    refine hK.out _ _ ⟨T5.out.cl, T5.out.b⟩ (fun _ => ?_)
    clear hK K hHeld
    generalize Y0.setRow k _ = Y1 at *
    show wpAnyH _ _ _ _ _ _ _ (Act.put _ none _) _
    try simp only [Act.put]
    refine wpAnyH_done (by kernel_rfl) ?_ _
    refine NoPanic.normal ?_
    clear TY
    have cl := T5.out.cl
    have da := DA.out
    have d5 := D5.out
    go_upto_region 10 with (first
      | ((with_reducible show wpList _ _ _ (⟨none, .store 22 (.tmp 35) (.tmp 34), _, _, _, _⟩ :: _) _ _); refine wpList_store_c rfl 22 _ _ rfl g 0 (by exact rfl) (.int .u16 (m : Int)) (by exact rfl) rfl (by kernel_rfl) 25 _ T7.out.q (show 0 < 3 by decide) ?_; intro W8 HN HO HB; have T8 : Hid (Ts w W8 g r l k ⟨m, t1.b, t1.c⟩ _ _) := Lib.hid (T7.out.setG (u := ⟨m, t1.b, t1.c⟩) HN.out HO.out HB.out); clear HN HO HB)
      | (go_at_call 19; refine (KW.out _ (by first | rfl | omega) _).mono ?_; rintro e WX ⟨rfl, rfl⟩)
      | (go_at_call 18; with_reducible refine (KR.out _).mono ?_; rintro e W7 ⟨rfl, hB⟩; have T7 := Lib.hid (T6.out.under hB); have clr := T7.out.cl; have ckr := T7.out.ck; have c0r := T7.out.q.c0; clear hB)
      | ((with_reducible show wpList _ _ _ (⟨some 27, .load 25 (.tmp 2), _, _, _, _⟩ :: _) _ _); refine wpList_load_t (by rfl) 25 _ rfl g (by exact rfl) _ Try.underlying25 (by kernel_rfl) 25 T6.out.q ?_)
      | ((with_reducible show wpList _ _ _ (⟨none, .store 3 (.tmp 6) (.tmp 26), _, _, _, _⟩ :: _) _ _); refine wpList_store_c rfl 3 _ _ rfl l 0 (by exact rfl) (.int .i64 (R : Int)) (by first | exact rfl | (rw [← HR.out]; exact rfl) | (rw [← HR2.out]; exact rfl) | (rw [← HR3.out]; exact rfl)) rfl (by kernel_rfl) 3 _ T5.out.vl (show 0 < 1 by decide) ?_; intro W6 HN HO HB; have T6 := Lib.hid (T5.out.setL HN.out HO.out HB.out); clear HN HO HB))
    refine wp_region_noPanic ?_
    refine wp_region_held_drew (S := fun X => TRow X g 25 (⟨m, t1.b, t1.c⟩) ∧ X.cell? ⟨k, 0, none⟩ = some (.int .i64 ((2 + Q : Nat) : Int)) ∧ Below w.heap.size w X) (by kernel_rfl) (⟨T8.out.q.below (Below.refl _ _).drew T8.out.q.lt, (T8.out.under (Below.refl _ _).drew).ck, (T8.out.under (Below.refl _ _).drew).b⟩) (fun hHeld => ?_)
    have TY := Lib.hid (T8.out.under (Below.refl _ _).drew)
    obtain ⟨Y0, hY0⟩ : ∃ Y, W8.drew = Y := ⟨_, rfl⟩
    rw [hY0] at hHeld TY ⊢
    clear hY0
    refine' take_ 0 rfl (by kernel_rfl) (by kernel_rfl) (by kernel_rfl) (fun _ _ _ h => h) (by rfl) (fun wS hSw => run_load_t wS 25 _ g rfl _ Try.underlying25 (by kernel_rfl) 25 hSw.1 _ _ _ _ _) hHeld ?_
    try simp only [Act.put, List.setIfInBounds_toArray, List.set_cons_zero, List.set_cons_succ]
    refine' take_ 1 rfl (by kernel_rfl) (by kernel_rfl) (by kernel_rfl) (fun _ _ _ h => h) (by rfl) (fun wS hSw => ?_) hHeld ?_
    rotate_left
    focus ((have hck := hSw.2.1); go_simp; (try with_reducible rfl); done)
    try simp only [Act.put, List.setIfInBounds_toArray, List.set_cons_zero, List.set_cons_succ]
    refine only_ 2 rfl (by kernel_rfl) (by rfl) (fun K hK => ?_)
    refine wp_store_t 25 _ _ rfl r rfl (by rfl) (by kernel_rfl) 25 TY.out.z ?_
    intro WZ HN HO HB
    have HZ := HN
    have BZ := Lib.hid (TY.out.b.trans (HB.out.mono TY.out.lr))
    have hHeld2 : TRow WZ g 25 (⟨m, t1.b, t1.c⟩) ∧ WZ.cell? ⟨k, 0, none⟩ = some (.int .i64 ((2 + Q : Nat) : Int)) ∧ Below w.heap.size w WZ := ⟨TY.out.q.other HO.out TY.out.gr, (TY.out.vk.off HO.out TY.out.rk.symm).cell 0 _ rfl, BZ.out⟩
    refine hK.out _ _ hHeld2 (fun _ => ?_)
    clear hK K hHeld TY HN HO HB
    show wpAnyH _ _ _ _ _ _ _ (Act.put _ none _) _
    try simp only [Act.put, List.setIfInBounds_toArray, List.set_cons_zero, List.set_cons_succ]
    refine' take_ 3 rfl (by kernel_rfl) (by kernel_rfl) (by kernel_rfl) (fun _ _ _ h => h) (by rfl) (fun wS hSw => ?_) hHeld2 ?_
    rotate_left
    focus (go_simp; (try with_reducible rfl); done)
    try simp only [Act.put, List.setIfInBounds_toArray, List.set_cons_zero, List.set_cons_succ]
    clear hHeld2
    refine wpAnyH_done (by kernel_rfl) ?_ _
    refine NoPanic.normal ?_
    go_wp2_with fail
    exact bodyPost_ret (v := .tuple #[tv (⟨m, t1.b, t1.c⟩), .int .i64 ((2 + Q : Nat) : Int)]) (results_ct Try.results13 _ _ _ _ _ _ rfl (run_loadVar_t WZ r 25 _ Try.underlying25 (by kernel_rfl) 25 HZ.out) rfl) rfl ⟨by rw [HE1.out, HE2.out]; rfl, BZ.out⟩
end Go.Proofs.Ytgibindoblhkeaa
