/-
  TimerPeriod's walk, if the program's functions are what they must be: true. Made by wip/gentimerperiod.py.
-/
import Derived.Test.YtgibindoblhkeaaPerM
import Derived.Deep.DeepCutAuto
import Derived.Deep.CutBlock
namespace Go.Proofs.Ytgibindoblhkeaa
open Go.RowKit
set_option linter.unusedVariables false
theorem and2_16 (c : Nat) (h : c < 65536) : bits .and .u16 (c : Int) 2 = if c / 2 % 2 = 1 then 2 else 0 := by
  rw [show (2 : Int) = ((2 : Nat) : Int) from rfl, u16_and_nat c 2 h (by decide)]
  have h1 : c &&& 2 = (c >>> 1 &&& 1) <<< 1 := by
    rw [Nat.shiftLeft_and_distrib]
    refine Nat.eq_of_testBit_eq fun i => ?_
    simp only [Nat.testBit_and, Nat.testBit_shiftLeft, Nat.testBit_shiftRight]
    rcases i with _ | i
    · simp
    · have h2 : Nat.testBit 2 (i + 1) = Nat.testBit 1 i := Nat.testBit_succ 2 i
      simp [Nat.add_comm 1 i, h2]
  rw [h1, Nat.and_one_is_mod, Nat.shiftRight_eq_div_pow, Nat.pow_one, Nat.shiftLeft_eq]
  rcases Nat.mod_two_eq_zero_or_one (c / 2) with h0 | h0 <;> simp [h0]
theorem and1_16 (c : Nat) (h : c < 65536) : bits .and .u16 (c : Int) 1 = if c % 2 = 1 then 1 else 0 := by
  rw [show (1 : Int) = ((1 : Nat) : Int) from rfl, u16_and_nat c 1 h (by decide), Nat.and_one_is_mod]
  rcases Nat.mod_two_eq_zero_or_one c with h0 | h0 <;> simp [h0]
set_option maxHeartbeats 16000000 in
set_option maxRecDepth 100000 in
theorem period_walk (H : TimerOk) (l : Tm) (few many : Nat) (w : World) (hl : l.ok) (hf : few < 65536) (hm : many < 4294967296) :
    Calls Try.prog 4 #[tv l, .int .u16 (few : Int), .int .u32 (many : Int)] w fun e w' => e = .returned (.bool true) ∧ Below w.heap.size w w' := by
  have KW := Lib.hid (works_any H)
  have KN := Lib.hid (fun W => H.next l W hl)
  have HL := Lib.hid hl
  have hla := hl.a
  have hlb := hl.b
  have hlc := hl.c
  have hper : 0 < perT l.b := perT_pos l.b
  have hper2 : perT l.b ≤ 65536 := by unfold perT; split <;> omega
  obtain ⟨f, hfst⟩ : ∃ f, nextT l = f := ⟨_, rfl⟩
  have hf1 : f ≤ 65536 := by rw [← hfst]; exact nextT_le l
  have HF := Lib.hid hfst
  have HZb : Hid (IntKind.i64.wrap (l.b : Int) = (l.b : Int)) := Lib.hid (by simp [IntKind.wrap, IntKind.bits, IntKind.signed]; omega)
  rw [hfst] at KN
  obtain ⟨p, hp⟩ : ∃ p, perT l.b = p := ⟨_, rfl⟩
  have HP := Lib.hid hp
  rw [hp] at hper hper2
  clear hfst hp hl
  unfold tv
  go_enter Try.func4, Try.ntmps4
  go_upto_region 1 with (fail)
  refine name_one (Q := fun X => Code.wp _ _ _ _ X) ?_
  intro w0 hq1 hB0 hz
  have RL_w0 : Hid (TRow w0 w.heap.size 46 l) := Lib.hid hq1
  have BB_w0 : Hid (Below w.heap.size w w0) := Lib.hid hB0
  clear hq1 hB0 hz
  obtain ⟨gl, hgl⟩ : ∃ g, w.heap.size = g := ⟨_, rfl⟩
  rw [hgl] at RL_w0 ⊢
  clear hgl
  go_upto_region 4 with (first
      | ((with_reducible show wpList _ _ _ (⟨none, .store 25 (.tmp 7) (.tmp 37), _, _, _, _⟩ :: _) _ _); refine wpList_store_t (u := l) rfl 25 _ _ rfl (w1.heap.size) (by exact rfl) (by exact rfl) (by kernel_rfl) 25 (show TRow _ _ _ ⟨0, 0, 0⟩ from alloc_at _ _) ?_; intro w2 HN HO HB
         have RL_w2 : Hid (TRow w2 (gl) 46 (l)) := Lib.hid (TRow.other (TRow.below RL_w1.out ((Below.refl _ _).alloc (Nat.le_refl _) _) RL_w1.out.lt) HO.out (Nat.ne_of_lt RL_w1.out.lt))
         have RT_w2 : Hid (TRow w2 w1.heap.size 25 (l)) := HN
         have BB_w2 : Hid (Below w.heap.size w w2) := Lib.hid ((BB_w1.out.alloc BB_w1.out.size _).trans (HB.out.mono BB_w1.out.size))
         clear q0 q1 q2
         clear HO HB HN RL_w1 BB_w1)
      | (go_at_call 17; have hc := BB_w0; clear hc; (with_reducible refine (KW.out _).mono ?_); rintro e w1 ⟨rfl, hB⟩
         have RL_w1 : Hid (TRow w1 (gl) 46 (l)) := Lib.hid (TRow.below RL_w0.out hB RL_w0.out.lt)
         have BB_w1 : Hid (Below w.heap.size w w1) := Lib.hid (BB_w0.out.trans (hB.mono BB_w0.out.size))
         have q0 := RL_w1.out.c0
         have q1 := RL_w1.out.c1
         have q2 := RL_w1.out.c2
         clear hB RL_w0 BB_w0))
  generalize w1.heap.size = gt at *
  refine wp_region_noPanic ?_
  refine wp_region_held_drew (S := fun X => Below w2.heap.size w2 X) (by kernel_rfl) ((Below.refl _ w2).drew) (fun hHeld => ?_)
  refine' take_ 0 rfl (by kernel_rfl) (by kernel_rfl) (by kernel_rfl) (fun _ _ _ h => h) (by rfl) (fun wS hSw => run_load_t wS 25 _ gt rfl _ Try.underlying25 (by kernel_rfl) 25 (RT_w2.out.below hSw RT_w2.out.lt) _ _ _ _ _) hHeld ?_
  try simp only [Act.put, List.setIfInBounds_toArray, List.set_cons_zero, List.set_cons_succ]
  refine' take_ 2 rfl (by kernel_rfl) (by kernel_rfl) (by kernel_rfl) (fun _ _ _ h => h) (by rfl) (fun wS hSw => ?_) hHeld ?_
  rotate_left
  focus (go_simp; (try with_reducible rfl); done)
  try simp only [Act.put, List.setIfInBounds_toArray, List.set_cons_zero, List.set_cons_succ]
  refine' take_ 3 rfl (by kernel_rfl) (by kernel_rfl) (by kernel_rfl) (fun _ _ _ h => h) (by rfl) (fun wS hSw => ?_) hHeld ?_
  rotate_left
  focus (have s0 := (RT_w2.out.below hSw RT_w2.out.lt).c1; clear hSw; go_simp; (try with_reducible rfl); done)
  try simp only [Act.put, List.setIfInBounds_toArray, List.set_cons_zero, List.set_cons_succ]
  refine' take_ 4 rfl (by kernel_rfl) (by kernel_rfl) (by kernel_rfl) (fun _ _ _ h => h) (by rfl) (fun wS hSw => ?_) hHeld ?_
  rotate_left
  focus (go_simp; rw [HZb.out]; (try with_reducible rfl); done)
  try simp only [Act.put, List.setIfInBounds_toArray, List.set_cons_zero, List.set_cons_succ]
  refine only_ 1 rfl (by kernel_rfl) (by rfl) (fun K hK => ?_)
  go_simp
  (with_reducible refine (KN.out _).mono ?_)
  rintro e wn ⟨rfl, hBn⟩
  go_simp
  refine hK.out _ _ (hHeld.trans (hBn.mono hHeld.size)) (fun hHeld2 => ?_)
  clear hK K hHeld
  have hHeld := hHeld2
  clear hHeld2
  try simp only [Act.put, List.setIfInBounds_toArray, List.set_cons_zero, List.set_cons_succ]
  clear hBn
  refine' take_ 5 rfl (by kernel_rfl) (by kernel_rfl) (by kernel_rfl) (fun _ _ _ h => h) (by rfl) (fun wS hSw => ?_) hHeld ?_
  rotate_left
  focus (go_simp; (try with_reducible rfl); done)
  try simp only [Act.put, List.setIfInBounds_toArray, List.set_cons_zero, List.set_cons_succ]
  refine' take_ 6 rfl (by kernel_rfl) (by kernel_rfl) (by kernel_rfl) (fun _ _ _ h => h) (by rfl) (fun wS hSw => ?_) hHeld ?_
  rotate_left
  focus (go_simp; (try with_reducible rfl); done)
  try simp only [Act.put, List.setIfInBounds_toArray, List.set_cons_zero, List.set_cons_succ]
  refine wpAnyH_done (by kernel_rfl) ?_ _
  refine NoPanic.normal ?_
  have RT_v : Hid (TRow wn gt 25 l) := Lib.hid (RT_w2.out.below hHeld RT_w2.out.lt)
  have BB_v : Hid (Below w.heap.size w wn) := Lib.hid (BB_w2.out.trans (hHeld.mono BB_w2.out.size))
  clear hHeld RT_w2 RL_w2 BB_w2 KN KW
  obtain ⟨v, hv⟩ : ∃ v, wn = v := ⟨_, rfl⟩
  rw [hv] at RT_v BB_v ⊢
  clear hv
  go_upto_if 44 with fail
  go_cut [9] (fun pv wx => pv = .int .i64 (p : Int) ∧ v = wx)
  case first =>
    by_cases h0 : l.b = 0
    · have hp0 : p = 65536 := by rw [← HP.out, h0]; rfl
      go_wp2_with fail
      go_meet
      case rel => exact ⟨by rw [hp0]; rfl, rfl⟩
    · have hp0 : p = l.b := by rw [← HP.out]; exact if_neg h0
      have d0 : ¬ (l.b : Int) = 0 := by omega
      go_wp2_with fail
      go_meet
      case rel => exact ⟨by rw [hp0], rfl⟩
  case rest =>
    obtain ⟨rfl, hcv⟩ := hcut
    subst hcv
    obtain ⟨ru, hru⟩ : ∃ ru, decide (l.c % 2 = 1) = ru := ⟨_, rfl⟩
    obtain ⟨ag, hag⟩ : ∃ ag, decide (l.c / 2 % 2 = 1) = ag := ⟨_, rfl⟩
    have hb1 := and1_16 l.c hlc
    have hb2 := and2_16 l.c hlc
    have HRU := Lib.hid hru
    have HAG := Lib.hid hag
    have hb1' : bits .and .u16 (l.c : Int) 1 = if ru = true then 1 else 0 := by rw [hb1, ← hru]; simp
    have hb2' : bits .and .u16 (l.c : Int) 2 = if ag = true then 2 else 0 := by rw [hb2, ← hag]; simp
    clear hb1 hb2 hru hag
    obtain ⟨n, hn1, hn2, hn3⟩ : ∃ n : Nat, (few : Int) % 300 = (n : Int) ∧ (few : Int).tmod 300 = (n : Int) ∧ n < 300 := ⟨few % 300, by omega, by rw [Int.tmod_eq_emod_of_nonneg (by omega)]; omega, by omega⟩
    obtain ⟨a, ha1, ha2, ha3⟩ : ∃ n : Nat, (many : Int) % 1000000 = (n : Int) ∧ (many : Int).tmod 1000000 = (n : Int) ∧ n < 1000000 := ⟨many % 1000000, by omega, by rw [Int.tmod_eq_emod_of_nonneg (by omega)]; omega, by omega⟩
    obtain ⟨m1, hm1, hm2, hm3⟩ : ∃ n : Nat, (many : Int) / 1000 = (n : Int) ∧ (many : Int).tdiv 1000 = (n : Int) ∧ n < 4294968 := ⟨many / 1000, by omega, by rw [Int.tdiv_eq_ediv_of_nonneg (by omega)]; omega, by omega⟩
    obtain ⟨b, hb3, hb4, hb5⟩ : ∃ n : Nat, (m1 : Int) % 100000 = (n : Int) ∧ (m1 : Int).tmod 100000 = (n : Int) ∧ n < 100000 := ⟨m1 % 100000, by omega, by rw [Int.tmod_eq_emod_of_nonneg (by omega)]; omega, by omega⟩
    have KT := Lib.hid (fun (k : Nat) W => H.tick (ticksT l k) W (ticksT_ok HL.out k))
    have K1 : Hid (∀ W : World, Calls Try.prog 13 #[tv l, .int .i64 (n : Int)] W fun e w' => e = .returned (.tuple #[tv (ticksT l n), .int .i64 (countT l n : Nat)]) ∧ Below W.heap.size W w') := Lib.hid (fun W => H.ticks l (n : Int) W HL.out (by omega) (by omega))
    have K2 : Hid (∀ W : World, Calls Try.prog 13 #[tv l, .int .i64 (a : Int)] W fun e w' => e = .returned (.tuple #[tv (ticksT l a), .int .i64 (countT l a : Nat)]) ∧ Below W.heap.size W w') := Lib.hid (fun W => H.ticks l (a : Int) W HL.out (by omega) (by omega))
    have K3 : Hid (∀ W : World, Calls Try.prog 13 #[tv (ticksT l a), .int .i64 (b : Int)] W fun e w' => e = .returned (.tuple #[tv (ticksT l (a + b)), .int .i64 (countT (ticksT l a) b : Nat)]) ∧ Below W.heap.size W w') := Lib.hid (fun W => by
      have h := H.ticks (ticksT l a) (b : Int) W (ticksT_ok HL.out a) (by omega) (by omega)
      rw [show ((b : Nat) : Int).toNat = b from by omega, ← ticksT_add] at h
      exact h)
    have K4 : Hid (∀ W : World, Calls Try.prog 13 #[tv l, .int .i64 ((a : Int) + (b : Int))] W fun e w' => e = .returned (.tuple #[tv (ticksT l (a + b)), .int .i64 ((countT l a : Int) + (countT (ticksT l a) b : Int))]) ∧ Below W.heap.size W w') := Lib.hid (fun W => by
      have h := H.ticks l ((a : Int) + (b : Int)) W HL.out (by omega) (by omega)
      rw [show ((a : Int) + (b : Int)).toNat = a + b from by omega, countT_add] at h
      exact h)
    obtain ⟨ca, hca⟩ : ∃ c, countT l a = c := ⟨_, rfl⟩
    obtain ⟨cb, hcb⟩ : ∃ c, countT (ticksT l a) b = c := ⟨_, rfl⟩
    obtain ⟨tA, htA⟩ : ∃ t, ticksT l a = t := ⟨_, rfl⟩
    obtain ⟨tW, htW⟩ : ∃ t, ticksT l (a + b) = t := ⟨_, rfl⟩
    have hca2 : ca ≤ a := by rw [← hca]; exact countT_le _ _
    have hcb2 : cb ≤ b := by rw [← hcb]; exact countT_le _ _
    have HALL : Hid (countT l (a + b) = ca + cb) := Lib.hid (by rw [countT_add, hca, hcb])
    rw [hca, htA] at K2
    rw [hcb, htW, htA] at K3
    rw [hca, hcb, htW] at K4
    clear hca hcb htA htW
    have HN3 := Lib.hid hn3
    have HE := Lib.hid hf1
    cases ru
    · have HB1 : Hid (bits .and .u16 (l.c : Int) 1 = 0) := Lib.hid hb1'
      have HR : Hid (l.c % 2 = 0) := Lib.hid (by have := HRU.out; simp at this; omega)
      have f0 : f = 0 := by rw [← HF.out]; exact if_pos HR.out
      subst f0
      clear hb1'
      cases ag
      · have HB2 : Hid (bits .and .u16 (l.c : Int) 2 = 0) := Lib.hid hb2'
        clear hb2'
        skip
        go_upto_region 7 with fail
        refine wp_region_noPanic ?_
        refine wp_region_held_drew (S := fun X => Below v.heap.size v X) (by kernel_rfl) ((Below.refl _ v).drew) (fun hHeld => ?_)
        refine' take_ 0 rfl (by kernel_rfl) (by kernel_rfl) (by kernel_rfl) (fun _ _ _ h => h) (by rfl) (fun wS hSw => ?_) hHeld ?_
        rotate_left
        focus (go_simp; (try with_reducible rfl); done)
        try simp only [Act.put, List.setIfInBounds_toArray, List.set_cons_zero, List.set_cons_succ]
        refine' take_ 1 rfl (by kernel_rfl) (by kernel_rfl) (by kernel_rfl) (fun _ _ _ h => h) (by rfl) (fun wS hSw => ?_) hHeld ?_
        rotate_left
        focus (have s0 := (RT_v.out.below hSw RT_v.out.lt).c2; clear hSw; go_simp; (try with_reducible rfl); done)
        try simp only [Act.put, List.setIfInBounds_toArray, List.set_cons_zero, List.set_cons_succ]
        refine' take_ 2 rfl (by kernel_rfl) (by kernel_rfl) (by kernel_rfl) (fun _ _ _ h => h) (by rfl) (fun wS hSw => ?_) hHeld ?_
        rotate_left
        focus (go_simp; rw [HB1.out]; (try with_reducible rfl); done)
        try simp only [Act.put, List.setIfInBounds_toArray, List.set_cons_zero, List.set_cons_succ]
        refine' take_ 3 rfl (by kernel_rfl) (by kernel_rfl) (by kernel_rfl) (fun _ _ _ h => h) (by rfl) (fun wS hSw => ?_) hHeld ?_
        rotate_left
        focus (go_simp; (try with_reducible rfl); done)
        try simp only [Act.put, List.setIfInBounds_toArray, List.set_cons_zero, List.set_cons_succ]
        refine' take_ 4 rfl (by kernel_rfl) (by kernel_rfl) (by kernel_rfl) (fun _ _ _ h => h) (by rfl) (fun wS hSw => ?_) hHeld ?_
        rotate_left
        focus (go_simp; (try with_reducible rfl); done)
        try simp only [Act.put, List.setIfInBounds_toArray, List.set_cons_zero, List.set_cons_succ]
        refine' take_ 5 rfl (by kernel_rfl) (by kernel_rfl) (by kernel_rfl) (fun _ _ _ h => h) (by rfl) (fun wS hSw => ?_) hHeld ?_
        rotate_left
        focus (have s0 := (RT_v.out.below hSw RT_v.out.lt).c2; clear hSw; go_simp; (try with_reducible rfl); done)
        try simp only [Act.put, List.setIfInBounds_toArray, List.set_cons_zero, List.set_cons_succ]
        refine' take_ 6 rfl (by kernel_rfl) (by kernel_rfl) (by kernel_rfl) (fun _ _ _ h => h) (by rfl) (fun wS hSw => ?_) hHeld ?_
        rotate_left
        focus (go_simp; rw [HB2.out]; (try with_reducible rfl); done)
        try simp only [Act.put, List.setIfInBounds_toArray, List.set_cons_zero, List.set_cons_succ]
        refine' take_ 7 rfl (by kernel_rfl) (by kernel_rfl) (by kernel_rfl) (fun _ _ _ h => h) (by rfl) (fun wS hSw => ?_) hHeld ?_
        rotate_left
        focus (go_simp; (try with_reducible rfl); done)
        try simp only [Act.put, List.setIfInBounds_toArray, List.set_cons_zero, List.set_cons_succ]
        refine' take_ 8 rfl (by kernel_rfl) (by kernel_rfl) (by kernel_rfl) (fun _ _ _ h => h) (by rfl) (fun wS hSw => ?_) hHeld ?_
        rotate_left
        focus (go_simp; (try with_reducible rfl); done)
        try simp only [Act.put, List.setIfInBounds_toArray, List.set_cons_zero, List.set_cons_succ]
        refine' take_ 9 rfl (by kernel_rfl) (by kernel_rfl) (by kernel_rfl) (fun _ _ _ h => h) (by rfl) (fun wS hSw => ?_) hHeld ?_
        rotate_left
        focus (go_simp; (try with_reducible rfl); done)
        try simp only [Act.put, List.setIfInBounds_toArray, List.set_cons_zero, List.set_cons_succ]
        refine wpAnyH_done (by kernel_rfl) ?_ _
        refine NoPanic.normal ?_
        obtain ⟨v1, hv1⟩ : ∃ Z, Z = v.drew := ⟨_, rfl⟩
        rw [← hv1]
        have RT_v1 : Hid (TRow v1 gt 25 l) := Lib.hid (by rw [hv1]; exact RT_v.out.below (Below.refl _ _).drew RT_v.out.lt)
        have BB_v1 : Hid (Below w.heap.size w v1) := Lib.hid (by rw [hv1]; exact BB_v.out.drew)
        clear hHeld hv1 RT_v BB_v HB1 HB2
        have z0 := RT_v1.out.c0
        have z1 := RT_v1.out.c1
        have z2 := RT_v1.out.c2
        go_upto_region 11 with fail
        clear z0 z1 z2
        have LEV := BB_v1.out.size
        have NEV := Nat.ne_of_lt RT_v1.out.lt
        go_wp2_with (first
      | ((with_reducible show wpList _ _ _ (⟨none, .store 25 (.tmp 13) (.tmp 80), _, _, _, _⟩ :: _) _ _); refine wpList_store_t (u := l) rfl 25 _ _ rfl (v1.heap.size) (by exact rfl) (by exact rfl) (by kernel_rfl) 25 (show TRow _ _ _ ⟨0, 0, 0⟩ from alloc_at _ _) ?_; intro w3 HN HO HB
         have RT_w3 : Hid (TRow w3 (gt) 25 (l)) := Lib.hid (TRow.other (TRow.below RT_v1.out ((Below.refl _ _).alloc (Nat.le_refl _) _) RT_v1.out.lt) HO.out (Nat.ne_of_lt RT_v1.out.lt))
         have RY_w3 : Hid (TRow w3 v1.heap.size 25 (l)) := HN
         have BB_w3 : Hid (Below w.heap.size w w3) := Lib.hid ((BB_v1.out.alloc BB_v1.out.size _).trans (HB.out.mono BB_v1.out.size))
         clear HO HB HN RT_v1 BB_v1)
      | ((with_reducible show wpList _ _ _ (⟨some 80, .load 25 (.tmp 7), _, _, _, _⟩ :: _) _ _); refine wpList_load_t (by rfl) 25 _ rfl (gt) (by exact rfl) _ Try.underlying25 (by kernel_rfl) 25 RT_v1.out ?_))
        generalize hgy : v1.heap.size = gy at *
        have LE_RY : Hid (w.heap.size ≤ gy) := Lib.hid LEV
        have NE_RT_RY : Hid (gt ≠ gy) := Lib.hid NEV
        clear hgy LEV NEV
        go_loopw [14, 15] (fun kv iv wr => ∃ k i : Nat, i = k + 1 ∧ i ≤ n + 1 ∧ iv = .int .i64 (i : Int) ∧ kv = .int .i64 (countT l k : Nat) ∧ TRow wr gt 25 l ∧ TRow wr gy 25 (ticksT l k) ∧ Below w.heap.size w wr) (fun _ iv _ => n + 1 - (intOf iv).toNat)
        case atStart => exact ⟨0, 1, rfl, by omega, rfl, rfl, RT_w3.out, RY_w3.out, BB_w3.out⟩
        case round =>
          clear RT_w3 RY_w3 BB_w3
          obtain ⟨k, i, hi, hi2, rfl, rfl, h1, h2, h3⟩ := hrel
          have HI := Lib.hid hi
          have RT_wr := Lib.hid h1
          have BB_wr := Lib.hid h3
          have KU := Lib.hid (fun W => KT.out k W)
          rw [show tickT (ticksT l k) = ticksT l i from by rw [hi]; rfl] at KU
          obtain ⟨tk, htk⟩ : ∃ x, ticksT l k = x := ⟨_, rfl⟩
          obtain ⟨tk2, htk2⟩ : ∃ x, ticksT l i = x := ⟨_, rfl⟩
          obtain ⟨ck, hck⟩ : ∃ x, countT l k = x := ⟨_, rfl⟩
          have hck2 : ck ≤ k := by rw [← hck]; exact countT_le _ _
          rw [htk] at h2
          have RY_wr := Lib.hid h2
          clear h1 h2 h3
          by_cases hlt : i ≤ n
          · have d1 : (i : Int) ≤ (n : Int) := by omega
            have hki : k < 300 := by omega
            have hq : asksT (ticksT l k) = false := asks_still HR.out k
            have HCK : Hid (countT l i = ck) := Lib.hid (by rw [HI.out, countT, hq, hck]; rfl)
            rw [hq] at KU
            clear hq
            rw [htk2] at KU
            rw [htk] at KU
            rw [hck]
            clear hck htk hi hlt
            go_wp2_with (first
      | ((with_reducible show wpList _ _ _ (⟨none, .store 25 (.tmp 13) (.tmp 118), _, _, _, _⟩ :: _) _ _); refine wpList_store_t rfl 25 _ _ rfl (gy) (by exact rfl) (by exact rfl) (by kernel_rfl) 25 RY_wb.out ?_; intro wc HN HO HB
         have RT_wc : Hid (TRow wc (gt) 25 (l)) := Lib.hid (TRow.other RT_wb.out HO.out (NE_RT_RY.out))
         have RN_wc : Hid (TRow wc (wa.heap.size) 25 (tk2)) := Lib.hid (TRow.other RN_wb.out HO.out (NE_RN_RY.out))
         have RY_wc : Hid (TRow wc (gy) 25 (tk2)) := HN
         have BB_wc : Hid (Below w.heap.size w wc) := Lib.hid (BB_wb.out.trans (HB.out.mono LE_RY.out))
         clear HO HB HN RT_wb RY_wb RN_wb BB_wb)
      | ((with_reducible show wpList _ _ _ (⟨some 118, .load 25 (.tmp 16), _, _, _, _⟩ :: _) _ _); refine wpList_load_t (by rfl) 25 _ rfl (wa.heap.size) (by exact rfl) _ Try.underlying25 (by kernel_rfl) 25 RN_wb.out ?_)
      | ((with_reducible show wpList _ _ _ (⟨none, .store 25 (.tmp 16) (.tmp 89), _, _, _, _⟩ :: _) _ _); refine wpList_store_t  rfl 25 _ _ rfl (wa.heap.size) (by exact rfl) (by exact rfl) (by kernel_rfl) 25 (show TRow _ _ _ ⟨0, 0, 0⟩ from alloc_at _ _) ?_; intro wb HN HO HB
         have RT_wb : Hid (TRow wb (gt) 25 (l)) := Lib.hid (TRow.other (TRow.below RT_wa.out ((Below.refl _ _).alloc (Nat.le_refl _) _) RT_wa.out.lt) HO.out (Nat.ne_of_lt RT_wa.out.lt))
         have RY_wb : Hid (TRow wb (gy) 25 (tk)) := Lib.hid (TRow.other (TRow.below RY_wa.out ((Below.refl _ _).alloc (Nat.le_refl _) _) RY_wa.out.lt) HO.out (Nat.ne_of_lt RY_wa.out.lt))
         have RN_wb : Hid (TRow wb wa.heap.size 25 (tk2)) := HN
         have BB_wb : Hid (Below w.heap.size w wb) := Lib.hid ((BB_wa.out.alloc BB_wa.out.size _).trans (HB.out.mono BB_wa.out.size))
         have NE_RN_RY := Lib.hid (Nat.ne_of_gt RY_wa.out.lt)
         clear HO HB HN RT_wa RY_wa BB_wa)
      | (go_at_call 11; have hc := BB_wr; clear hc; (with_reducible refine (KU.out _).mono ?_); rintro e wa ⟨rfl, hB⟩
         have RT_wa : Hid (TRow wa (gt) 25 (l)) := Lib.hid (TRow.below RT_wr.out hB RT_wr.out.lt)
         have RY_wa : Hid (TRow wa (gy) 25 (tk)) := Lib.hid (TRow.below RY_wr.out hB RY_wr.out.lt)
         have BB_wa : Hid (Below w.heap.size w wa) := Lib.hid (BB_wr.out.trans (hB.mono BB_wr.out.size))
         clear hB RT_wr RY_wr BB_wr)
      | ((with_reducible show wpList _ _ _ (⟨some 87, .load 25 (.tmp 13), _, _, _, _⟩ :: _) _ _); refine wpList_load_t (by rfl) 25 _ rfl (gy) (by exact rfl) _ Try.underlying25 (by kernel_rfl) 25 RY_wr.out ?_))
            go_roundw
            case rel => exact ⟨i, i + 1, rfl, by omega, by go_num, by rw [HCK.out], RT_wc.out, by rw [htk2]; exact RY_wc.out, BB_wc.out⟩
            case measure =>
              simp [intOf]
              omega
          · obtain rfl : i = n + 1 := by omega
            obtain rfl : k = n := by omega
            have d1 : ¬ ((k + 1 : Nat) : Int) ≤ (k : Int) := by omega
            rw [htk, hck] at K1
            rw [hck]
            have HTB : Hid (tk.b = l.b) := Lib.hid (by rw [← htk]; exact ticksT_b l k)
            clear hck htk htk2 hi hi2 hlt KU KT
            have hE := run_neq_t
            have hE2 := run_eql_t
            have hG := guard_t
            have dw : (((ca : Int) + (cb : Int)) == 0) = true := by have h1 := HALL.out; rw [(still HR.out _).2] at h1; simp; omega
            go_wp2_with (first
      | ((with_reducible show wpList _ _ _ (⟨some 185, .load 25 (.tmp 26), _, _, _, _⟩ :: _) _ _); refine wpList_load_t (by rfl) 25 _ rfl (x7.heap.size) (by exact rfl) _ Try.underlying25 (by kernel_rfl) 25 RW_x8.out ?_)
      | ((with_reducible show wpList _ _ _ (⟨some 184, .load 25 (.tmp 24), _, _, _, _⟩ :: _) _ _); refine wpList_load_t (by rfl) 25 _ rfl (x5.heap.size) (by exact rfl) _ Try.underlying25 (by kernel_rfl) 25 RQ_x8.out ?_)
      | ((with_reducible show wpList _ _ _ (⟨none, .store 25 (.tmp 26) (.tmp 165), _, _, _, _⟩ :: _) _ _); refine wpList_store_t  rfl 25 _ _ rfl (x7.heap.size) (by exact rfl) (by exact rfl) (by kernel_rfl) 25 (show TRow _ _ _ ⟨0, 0, 0⟩ from alloc_at _ _) ?_; intro x8 HN HO HB
         have RT_x8 : Hid (TRow x8 (gt) 25 (l)) := Lib.hid (TRow.other (TRow.below RT_x7.out ((Below.refl _ _).alloc (Nat.le_refl _) _) RT_x7.out.lt) HO.out (Nat.ne_of_lt RT_x7.out.lt))
         have RY_x8 : Hid (TRow x8 (gy) 25 (tk)) := Lib.hid (TRow.other (TRow.below RY_x7.out ((Below.refl _ _).alloc (Nat.le_refl _) _) RY_x7.out.lt) HO.out (Nat.ne_of_lt RY_x7.out.lt))
         have RZ_x8 : Hid (TRow x8 (x1.heap.size) 25 (tk)) := Lib.hid (TRow.other (TRow.below RZ_x7.out ((Below.refl _ _).alloc (Nat.le_refl _) _) RZ_x7.out.lt) HO.out (Nat.ne_of_lt RZ_x7.out.lt))
         have RP_x8 : Hid (TRow x8 (x3.heap.size) 25 (tA)) := Lib.hid (TRow.other (TRow.below RP_x7.out ((Below.refl _ _).alloc (Nat.le_refl _) _) RP_x7.out.lt) HO.out (Nat.ne_of_lt RP_x7.out.lt))
         have RQ_x8 : Hid (TRow x8 (x5.heap.size) 25 (tW)) := Lib.hid (TRow.other (TRow.below RQ_x7.out ((Below.refl _ _).alloc (Nat.le_refl _) _) RQ_x7.out.lt) HO.out (Nat.ne_of_lt RQ_x7.out.lt))
         have RW_x8 : Hid (TRow x8 x7.heap.size 25 (tW)) := HN
         have BB_x8 : Hid (Below w.heap.size w x8) := Lib.hid ((BB_x7.out.alloc BB_x7.out.size _).trans (HB.out.mono BB_x7.out.size))
         clear HO HB HN RT_x7 RY_x7 RZ_x7 RP_x7 RQ_x7 BB_x7)
      | (go_at_call 13; have hc := BB_x6; clear hc; (with_reducible refine (K4.out _).mono ?_); rintro e x7 ⟨rfl, hB⟩
         have RT_x7 : Hid (TRow x7 (gt) 25 (l)) := Lib.hid (TRow.below RT_x6.out hB RT_x6.out.lt)
         have RY_x7 : Hid (TRow x7 (gy) 25 (tk)) := Lib.hid (TRow.below RY_x6.out hB RY_x6.out.lt)
         have RZ_x7 : Hid (TRow x7 (x1.heap.size) 25 (tk)) := Lib.hid (TRow.below RZ_x6.out hB RZ_x6.out.lt)
         have RP_x7 : Hid (TRow x7 (x3.heap.size) 25 (tA)) := Lib.hid (TRow.below RP_x6.out hB RP_x6.out.lt)
         have RQ_x7 : Hid (TRow x7 (x5.heap.size) 25 (tW)) := Lib.hid (TRow.below RQ_x6.out hB RQ_x6.out.lt)
         have BB_x7 : Hid (Below w.heap.size w x7) := Lib.hid (BB_x6.out.trans (hB.mono BB_x6.out.size))
         clear hB RT_x6 RY_x6 RZ_x6 RP_x6 RQ_x6 BB_x6)
      | ((with_reducible show wpList _ _ _ (⟨some 160, .load 25 (.tmp 7), _, _, _, _⟩ :: _) _ _); refine wpList_load_t (by rfl) 25 _ rfl (gt) (by exact rfl) _ Try.underlying25 (by kernel_rfl) 25 RT_x6.out ?_)
      | ((with_reducible show wpList _ _ _ (⟨none, .store 25 (.tmp 24) (.tmp 157), _, _, _, _⟩ :: _) _ _); refine wpList_store_t  rfl 25 _ _ rfl (x5.heap.size) (by exact rfl) (by exact rfl) (by kernel_rfl) 25 (show TRow _ _ _ ⟨0, 0, 0⟩ from alloc_at _ _) ?_; intro x6 HN HO HB
         have RT_x6 : Hid (TRow x6 (gt) 25 (l)) := Lib.hid (TRow.other (TRow.below RT_x5.out ((Below.refl _ _).alloc (Nat.le_refl _) _) RT_x5.out.lt) HO.out (Nat.ne_of_lt RT_x5.out.lt))
         have RY_x6 : Hid (TRow x6 (gy) 25 (tk)) := Lib.hid (TRow.other (TRow.below RY_x5.out ((Below.refl _ _).alloc (Nat.le_refl _) _) RY_x5.out.lt) HO.out (Nat.ne_of_lt RY_x5.out.lt))
         have RZ_x6 : Hid (TRow x6 (x1.heap.size) 25 (tk)) := Lib.hid (TRow.other (TRow.below RZ_x5.out ((Below.refl _ _).alloc (Nat.le_refl _) _) RZ_x5.out.lt) HO.out (Nat.ne_of_lt RZ_x5.out.lt))
         have RP_x6 : Hid (TRow x6 (x3.heap.size) 25 (tA)) := Lib.hid (TRow.other (TRow.below RP_x5.out ((Below.refl _ _).alloc (Nat.le_refl _) _) RP_x5.out.lt) HO.out (Nat.ne_of_lt RP_x5.out.lt))
         have RQ_x6 : Hid (TRow x6 x5.heap.size 25 (tW)) := HN
         have BB_x6 : Hid (Below w.heap.size w x6) := Lib.hid ((BB_x5.out.alloc BB_x5.out.size _).trans (HB.out.mono BB_x5.out.size))
         clear HO HB HN RT_x5 RY_x5 RZ_x5 RP_x5 BB_x5)
      | (go_at_call 13; have hc := BB_x4; clear hc; (with_reducible refine (K3.out _).mono ?_); rintro e x5 ⟨rfl, hB⟩
         have RT_x5 : Hid (TRow x5 (gt) 25 (l)) := Lib.hid (TRow.below RT_x4.out hB RT_x4.out.lt)
         have RY_x5 : Hid (TRow x5 (gy) 25 (tk)) := Lib.hid (TRow.below RY_x4.out hB RY_x4.out.lt)
         have RZ_x5 : Hid (TRow x5 (x1.heap.size) 25 (tk)) := Lib.hid (TRow.below RZ_x4.out hB RZ_x4.out.lt)
         have RP_x5 : Hid (TRow x5 (x3.heap.size) 25 (tA)) := Lib.hid (TRow.below RP_x4.out hB RP_x4.out.lt)
         have BB_x5 : Hid (Below w.heap.size w x5) := Lib.hid (BB_x4.out.trans (hB.mono BB_x4.out.size))
         clear hB RT_x4 RY_x4 RZ_x4 RP_x4 BB_x4)
      | ((with_reducible show wpList _ _ _ (⟨some 154, .load 25 (.tmp 22), _, _, _, _⟩ :: _) _ _); refine wpList_load_t (by rfl) 25 _ rfl (x3.heap.size) (by exact rfl) _ Try.underlying25 (by kernel_rfl) 25 RP_x4.out ?_)
      | ((with_reducible show wpList _ _ _ (⟨none, .store 25 (.tmp 22) (.tmp 151), _, _, _, _⟩ :: _) _ _); refine wpList_store_t  rfl 25 _ _ rfl (x3.heap.size) (by exact rfl) (by exact rfl) (by kernel_rfl) 25 (show TRow _ _ _ ⟨0, 0, 0⟩ from alloc_at _ _) ?_; intro x4 HN HO HB
         have RT_x4 : Hid (TRow x4 (gt) 25 (l)) := Lib.hid (TRow.other (TRow.below RT_x3.out ((Below.refl _ _).alloc (Nat.le_refl _) _) RT_x3.out.lt) HO.out (Nat.ne_of_lt RT_x3.out.lt))
         have RY_x4 : Hid (TRow x4 (gy) 25 (tk)) := Lib.hid (TRow.other (TRow.below RY_x3.out ((Below.refl _ _).alloc (Nat.le_refl _) _) RY_x3.out.lt) HO.out (Nat.ne_of_lt RY_x3.out.lt))
         have RZ_x4 : Hid (TRow x4 (x1.heap.size) 25 (tk)) := Lib.hid (TRow.other (TRow.below RZ_x3.out ((Below.refl _ _).alloc (Nat.le_refl _) _) RZ_x3.out.lt) HO.out (Nat.ne_of_lt RZ_x3.out.lt))
         have RP_x4 : Hid (TRow x4 x3.heap.size 25 (tA)) := HN
         have BB_x4 : Hid (Below w.heap.size w x4) := Lib.hid ((BB_x3.out.alloc BB_x3.out.size _).trans (HB.out.mono BB_x3.out.size))
         clear HO HB HN RT_x3 RY_x3 RZ_x3 BB_x3)
      | (go_at_call 13; have hc := BB_x2; clear hc; (with_reducible refine (K2.out _).mono ?_); rintro e x3 ⟨rfl, hB⟩
         have RT_x3 : Hid (TRow x3 (gt) 25 (l)) := Lib.hid (TRow.below RT_x2.out hB RT_x2.out.lt)
         have RY_x3 : Hid (TRow x3 (gy) 25 (tk)) := Lib.hid (TRow.below RY_x2.out hB RY_x2.out.lt)
         have RZ_x3 : Hid (TRow x3 (x1.heap.size) 25 (tk)) := Lib.hid (TRow.below RZ_x2.out hB RZ_x2.out.lt)
         have BB_x3 : Hid (Below w.heap.size w x3) := Lib.hid (BB_x2.out.trans (hB.mono BB_x2.out.size))
         clear b1 c1
         clear hB RT_x2 RY_x2 RZ_x2 BB_x2)
      | ((with_reducible show wpList _ _ _ (⟨some 148, .load 25 (.tmp 7), _, _, _, _⟩ :: _) _ _); refine wpList_load_t (by rfl) 25 _ rfl (gt) (by exact rfl) _ Try.underlying25 (by kernel_rfl) 25 RT_x2.out ?_)
      | ((with_reducible show wpList _ _ _ (⟨some 126, .load 25 (.tmp 13), _, _, _, _⟩ :: _) _ _); refine wpList_load_t (by rfl) 25 _ rfl (gy) (by exact rfl) _ Try.underlying25 (by kernel_rfl) 25 RY_x2.out ?_)
      | ((with_reducible show wpList _ _ _ (⟨some 125, .load 25 (.tmp 18), _, _, _, _⟩ :: _) _ _); refine wpList_load_t (by rfl) 25 _ rfl (x1.heap.size) (by exact rfl) _ Try.underlying25 (by kernel_rfl) 25 RZ_x2.out ?_)
      | ((with_reducible show wpList _ _ _ (⟨none, .store 25 (.tmp 18) (.tmp 123), _, _, _, _⟩ :: _) _ _); refine wpList_store_t  rfl 25 _ _ rfl (x1.heap.size) (by exact rfl) (by exact rfl) (by kernel_rfl) 25 (show TRow _ _ _ ⟨0, 0, 0⟩ from alloc_at _ _) ?_; intro x2 HN HO HB
         have RT_x2 : Hid (TRow x2 (gt) 25 (l)) := Lib.hid (TRow.other (TRow.below RT_x1.out ((Below.refl _ _).alloc (Nat.le_refl _) _) RT_x1.out.lt) HO.out (Nat.ne_of_lt RT_x1.out.lt))
         have RY_x2 : Hid (TRow x2 (gy) 25 (tk)) := Lib.hid (TRow.other (TRow.below RY_x1.out ((Below.refl _ _).alloc (Nat.le_refl _) _) RY_x1.out.lt) HO.out (Nat.ne_of_lt RY_x1.out.lt))
         have RZ_x2 : Hid (TRow x2 x1.heap.size 25 (tk)) := HN
         have BB_x2 : Hid (Below w.heap.size w x2) := Lib.hid ((BB_x1.out.alloc BB_x1.out.size _).trans (HB.out.mono BB_x1.out.size))
         have b1 : x2.cell? ⟨gy, 1, none⟩ = some (.int .u16 (l.b : Int)) := by have h := RY_x2.out.c1; rw [HTB.out] at h; exact h
         have c1 := RT_x2.out.c1
         clear HO HB HN RT_x1 RY_x1 BB_x1)
      | (go_at_call 13; have hc := BB_wr; clear hc; (with_reducible refine (K1.out _).mono ?_); rintro e x1 ⟨rfl, hB⟩
         have RT_x1 : Hid (TRow x1 (gt) 25 (l)) := Lib.hid (TRow.below RT_wr.out hB RT_wr.out.lt)
         have RY_x1 : Hid (TRow x1 (gy) 25 (tk)) := Lib.hid (TRow.below RY_wr.out hB RY_wr.out.lt)
         have BB_x1 : Hid (Below w.heap.size w x1) := Lib.hid (BB_wr.out.trans (hB.mono BB_wr.out.size))
         clear hB RT_wr RY_wr BB_wr)
      | ((with_reducible show wpList _ _ _ (⟨some 120, .load 25 (.tmp 7), _, _, _, _⟩ :: _) _ _); refine wpList_load_t (by rfl) 25 _ rfl (gt) (by exact rfl) _ Try.underlying25 (by kernel_rfl) 25 RT_wr.out ?_))
            go_ret
            exact ⟨rfl, BB_x8.out⟩

      · have HB2 : Hid (bits .and .u16 (l.c : Int) 2 = 2) := Lib.hid hb2'
        clear hb2'
        skip
        go_upto_region 7 with fail
        refine wp_region_noPanic ?_
        refine wp_region_held_drew (S := fun X => Below v.heap.size v X) (by kernel_rfl) ((Below.refl _ v).drew) (fun hHeld => ?_)
        refine' take_ 0 rfl (by kernel_rfl) (by kernel_rfl) (by kernel_rfl) (fun _ _ _ h => h) (by rfl) (fun wS hSw => ?_) hHeld ?_
        rotate_left
        focus (go_simp; (try with_reducible rfl); done)
        try simp only [Act.put, List.setIfInBounds_toArray, List.set_cons_zero, List.set_cons_succ]
        refine' take_ 1 rfl (by kernel_rfl) (by kernel_rfl) (by kernel_rfl) (fun _ _ _ h => h) (by rfl) (fun wS hSw => ?_) hHeld ?_
        rotate_left
        focus (have s0 := (RT_v.out.below hSw RT_v.out.lt).c2; clear hSw; go_simp; (try with_reducible rfl); done)
        try simp only [Act.put, List.setIfInBounds_toArray, List.set_cons_zero, List.set_cons_succ]
        refine' take_ 2 rfl (by kernel_rfl) (by kernel_rfl) (by kernel_rfl) (fun _ _ _ h => h) (by rfl) (fun wS hSw => ?_) hHeld ?_
        rotate_left
        focus (go_simp; rw [HB1.out]; (try with_reducible rfl); done)
        try simp only [Act.put, List.setIfInBounds_toArray, List.set_cons_zero, List.set_cons_succ]
        refine' take_ 3 rfl (by kernel_rfl) (by kernel_rfl) (by kernel_rfl) (fun _ _ _ h => h) (by rfl) (fun wS hSw => ?_) hHeld ?_
        rotate_left
        focus (go_simp; (try with_reducible rfl); done)
        try simp only [Act.put, List.setIfInBounds_toArray, List.set_cons_zero, List.set_cons_succ]
        refine' take_ 4 rfl (by kernel_rfl) (by kernel_rfl) (by kernel_rfl) (fun _ _ _ h => h) (by rfl) (fun wS hSw => ?_) hHeld ?_
        rotate_left
        focus (go_simp; (try with_reducible rfl); done)
        try simp only [Act.put, List.setIfInBounds_toArray, List.set_cons_zero, List.set_cons_succ]
        refine' take_ 5 rfl (by kernel_rfl) (by kernel_rfl) (by kernel_rfl) (fun _ _ _ h => h) (by rfl) (fun wS hSw => ?_) hHeld ?_
        rotate_left
        focus (have s0 := (RT_v.out.below hSw RT_v.out.lt).c2; clear hSw; go_simp; (try with_reducible rfl); done)
        try simp only [Act.put, List.setIfInBounds_toArray, List.set_cons_zero, List.set_cons_succ]
        refine' take_ 6 rfl (by kernel_rfl) (by kernel_rfl) (by kernel_rfl) (fun _ _ _ h => h) (by rfl) (fun wS hSw => ?_) hHeld ?_
        rotate_left
        focus (go_simp; rw [HB2.out]; (try with_reducible rfl); done)
        try simp only [Act.put, List.setIfInBounds_toArray, List.set_cons_zero, List.set_cons_succ]
        refine' take_ 7 rfl (by kernel_rfl) (by kernel_rfl) (by kernel_rfl) (fun _ _ _ h => h) (by rfl) (fun wS hSw => ?_) hHeld ?_
        rotate_left
        focus (go_simp; (try with_reducible rfl); done)
        try simp only [Act.put, List.setIfInBounds_toArray, List.set_cons_zero, List.set_cons_succ]
        refine' take_ 8 rfl (by kernel_rfl) (by kernel_rfl) (by kernel_rfl) (fun _ _ _ h => h) (by rfl) (fun wS hSw => ?_) hHeld ?_
        rotate_left
        focus (go_simp; (try with_reducible rfl); done)
        try simp only [Act.put, List.setIfInBounds_toArray, List.set_cons_zero, List.set_cons_succ]
        refine' take_ 9 rfl (by kernel_rfl) (by kernel_rfl) (by kernel_rfl) (fun _ _ _ h => h) (by rfl) (fun wS hSw => ?_) hHeld ?_
        rotate_left
        focus (go_simp; (try with_reducible rfl); done)
        try simp only [Act.put, List.setIfInBounds_toArray, List.set_cons_zero, List.set_cons_succ]
        refine wpAnyH_done (by kernel_rfl) ?_ _
        refine NoPanic.normal ?_
        obtain ⟨v1, hv1⟩ : ∃ Z, Z = v.drew := ⟨_, rfl⟩
        rw [← hv1]
        have RT_v1 : Hid (TRow v1 gt 25 l) := Lib.hid (by rw [hv1]; exact RT_v.out.below (Below.refl _ _).drew RT_v.out.lt)
        have BB_v1 : Hid (Below w.heap.size w v1) := Lib.hid (by rw [hv1]; exact BB_v.out.drew)
        clear hHeld hv1 RT_v BB_v HB1 HB2
        have z0 := RT_v1.out.c0
        have z1 := RT_v1.out.c1
        have z2 := RT_v1.out.c2
        go_upto_region 11 with fail
        clear z0 z1 z2
        have LEV := BB_v1.out.size
        have NEV := Nat.ne_of_lt RT_v1.out.lt
        go_wp2_with (first
      | ((with_reducible show wpList _ _ _ (⟨none, .store 25 (.tmp 13) (.tmp 80), _, _, _, _⟩ :: _) _ _); refine wpList_store_t (u := l) rfl 25 _ _ rfl (v1.heap.size) (by exact rfl) (by exact rfl) (by kernel_rfl) 25 (show TRow _ _ _ ⟨0, 0, 0⟩ from alloc_at _ _) ?_; intro w3 HN HO HB
         have RT_w3 : Hid (TRow w3 (gt) 25 (l)) := Lib.hid (TRow.other (TRow.below RT_v1.out ((Below.refl _ _).alloc (Nat.le_refl _) _) RT_v1.out.lt) HO.out (Nat.ne_of_lt RT_v1.out.lt))
         have RY_w3 : Hid (TRow w3 v1.heap.size 25 (l)) := HN
         have BB_w3 : Hid (Below w.heap.size w w3) := Lib.hid ((BB_v1.out.alloc BB_v1.out.size _).trans (HB.out.mono BB_v1.out.size))
         clear HO HB HN RT_v1 BB_v1)
      | ((with_reducible show wpList _ _ _ (⟨some 80, .load 25 (.tmp 7), _, _, _, _⟩ :: _) _ _); refine wpList_load_t (by rfl) 25 _ rfl (gt) (by exact rfl) _ Try.underlying25 (by kernel_rfl) 25 RT_v1.out ?_))
        generalize hgy : v1.heap.size = gy at *
        have LE_RY : Hid (w.heap.size ≤ gy) := Lib.hid LEV
        have NE_RT_RY : Hid (gt ≠ gy) := Lib.hid NEV
        clear hgy LEV NEV
        go_loopw [14, 15] (fun kv iv wr => ∃ k i : Nat, i = k + 1 ∧ i ≤ n + 1 ∧ iv = .int .i64 (i : Int) ∧ kv = .int .i64 (countT l k : Nat) ∧ TRow wr gt 25 l ∧ TRow wr gy 25 (ticksT l k) ∧ Below w.heap.size w wr) (fun _ iv _ => n + 1 - (intOf iv).toNat)
        case atStart => exact ⟨0, 1, rfl, by omega, rfl, rfl, RT_w3.out, RY_w3.out, BB_w3.out⟩
        case round =>
          clear RT_w3 RY_w3 BB_w3
          obtain ⟨k, i, hi, hi2, rfl, rfl, h1, h2, h3⟩ := hrel
          have HI := Lib.hid hi
          have RT_wr := Lib.hid h1
          have BB_wr := Lib.hid h3
          have KU := Lib.hid (fun W => KT.out k W)
          rw [show tickT (ticksT l k) = ticksT l i from by rw [hi]; rfl] at KU
          obtain ⟨tk, htk⟩ : ∃ x, ticksT l k = x := ⟨_, rfl⟩
          obtain ⟨tk2, htk2⟩ : ∃ x, ticksT l i = x := ⟨_, rfl⟩
          obtain ⟨ck, hck⟩ : ∃ x, countT l k = x := ⟨_, rfl⟩
          have hck2 : ck ≤ k := by rw [← hck]; exact countT_le _ _
          rw [htk] at h2
          have RY_wr := Lib.hid h2
          clear h1 h2 h3
          by_cases hlt : i ≤ n
          · have d1 : (i : Int) ≤ (n : Int) := by omega
            have hki : k < 300 := by omega
            have hq : asksT (ticksT l k) = false := asks_still HR.out k
            have HCK : Hid (countT l i = ck) := Lib.hid (by rw [HI.out, countT, hq, hck]; rfl)
            rw [hq] at KU
            clear hq
            rw [htk2] at KU
            rw [htk] at KU
            rw [hck]
            clear hck htk hi hlt
            go_wp2_with (first
      | ((with_reducible show wpList _ _ _ (⟨none, .store 25 (.tmp 13) (.tmp 118), _, _, _, _⟩ :: _) _ _); refine wpList_store_t rfl 25 _ _ rfl (gy) (by exact rfl) (by exact rfl) (by kernel_rfl) 25 RY_wb.out ?_; intro wc HN HO HB
         have RT_wc : Hid (TRow wc (gt) 25 (l)) := Lib.hid (TRow.other RT_wb.out HO.out (NE_RT_RY.out))
         have RN_wc : Hid (TRow wc (wa.heap.size) 25 (tk2)) := Lib.hid (TRow.other RN_wb.out HO.out (NE_RN_RY.out))
         have RY_wc : Hid (TRow wc (gy) 25 (tk2)) := HN
         have BB_wc : Hid (Below w.heap.size w wc) := Lib.hid (BB_wb.out.trans (HB.out.mono LE_RY.out))
         clear HO HB HN RT_wb RY_wb RN_wb BB_wb)
      | ((with_reducible show wpList _ _ _ (⟨some 118, .load 25 (.tmp 16), _, _, _, _⟩ :: _) _ _); refine wpList_load_t (by rfl) 25 _ rfl (wa.heap.size) (by exact rfl) _ Try.underlying25 (by kernel_rfl) 25 RN_wb.out ?_)
      | ((with_reducible show wpList _ _ _ (⟨none, .store 25 (.tmp 16) (.tmp 89), _, _, _, _⟩ :: _) _ _); refine wpList_store_t  rfl 25 _ _ rfl (wa.heap.size) (by exact rfl) (by exact rfl) (by kernel_rfl) 25 (show TRow _ _ _ ⟨0, 0, 0⟩ from alloc_at _ _) ?_; intro wb HN HO HB
         have RT_wb : Hid (TRow wb (gt) 25 (l)) := Lib.hid (TRow.other (TRow.below RT_wa.out ((Below.refl _ _).alloc (Nat.le_refl _) _) RT_wa.out.lt) HO.out (Nat.ne_of_lt RT_wa.out.lt))
         have RY_wb : Hid (TRow wb (gy) 25 (tk)) := Lib.hid (TRow.other (TRow.below RY_wa.out ((Below.refl _ _).alloc (Nat.le_refl _) _) RY_wa.out.lt) HO.out (Nat.ne_of_lt RY_wa.out.lt))
         have RN_wb : Hid (TRow wb wa.heap.size 25 (tk2)) := HN
         have BB_wb : Hid (Below w.heap.size w wb) := Lib.hid ((BB_wa.out.alloc BB_wa.out.size _).trans (HB.out.mono BB_wa.out.size))
         have NE_RN_RY := Lib.hid (Nat.ne_of_gt RY_wa.out.lt)
         clear HO HB HN RT_wa RY_wa BB_wa)
      | (go_at_call 11; have hc := BB_wr; clear hc; (with_reducible refine (KU.out _).mono ?_); rintro e wa ⟨rfl, hB⟩
         have RT_wa : Hid (TRow wa (gt) 25 (l)) := Lib.hid (TRow.below RT_wr.out hB RT_wr.out.lt)
         have RY_wa : Hid (TRow wa (gy) 25 (tk)) := Lib.hid (TRow.below RY_wr.out hB RY_wr.out.lt)
         have BB_wa : Hid (Below w.heap.size w wa) := Lib.hid (BB_wr.out.trans (hB.mono BB_wr.out.size))
         clear hB RT_wr RY_wr BB_wr)
      | ((with_reducible show wpList _ _ _ (⟨some 87, .load 25 (.tmp 13), _, _, _, _⟩ :: _) _ _); refine wpList_load_t (by rfl) 25 _ rfl (gy) (by exact rfl) _ Try.underlying25 (by kernel_rfl) 25 RY_wr.out ?_))
            go_roundw
            case rel => exact ⟨i, i + 1, rfl, by omega, by go_num, by rw [HCK.out], RT_wc.out, by rw [htk2]; exact RY_wc.out, BB_wc.out⟩
            case measure =>
              simp [intOf]
              omega
          · obtain rfl : i = n + 1 := by omega
            obtain rfl : k = n := by omega
            have d1 : ¬ ((k + 1 : Nat) : Int) ≤ (k : Int) := by omega
            rw [htk, hck] at K1
            rw [hck]
            have HTB : Hid (tk.b = l.b) := Lib.hid (by rw [← htk]; exact ticksT_b l k)
            clear hck htk htk2 hi hi2 hlt KU KT
            have hE := run_neq_t
            have hE2 := run_eql_t
            have hG := guard_t
            have dw : (((ca : Int) + (cb : Int)) == 0) = true := by have h1 := HALL.out; rw [(still HR.out _).2] at h1; simp; omega
            go_wp2_with (first
      | ((with_reducible show wpList _ _ _ (⟨some 185, .load 25 (.tmp 26), _, _, _, _⟩ :: _) _ _); refine wpList_load_t (by rfl) 25 _ rfl (x7.heap.size) (by exact rfl) _ Try.underlying25 (by kernel_rfl) 25 RW_x8.out ?_)
      | ((with_reducible show wpList _ _ _ (⟨some 184, .load 25 (.tmp 24), _, _, _, _⟩ :: _) _ _); refine wpList_load_t (by rfl) 25 _ rfl (x5.heap.size) (by exact rfl) _ Try.underlying25 (by kernel_rfl) 25 RQ_x8.out ?_)
      | ((with_reducible show wpList _ _ _ (⟨none, .store 25 (.tmp 26) (.tmp 165), _, _, _, _⟩ :: _) _ _); refine wpList_store_t  rfl 25 _ _ rfl (x7.heap.size) (by exact rfl) (by exact rfl) (by kernel_rfl) 25 (show TRow _ _ _ ⟨0, 0, 0⟩ from alloc_at _ _) ?_; intro x8 HN HO HB
         have RT_x8 : Hid (TRow x8 (gt) 25 (l)) := Lib.hid (TRow.other (TRow.below RT_x7.out ((Below.refl _ _).alloc (Nat.le_refl _) _) RT_x7.out.lt) HO.out (Nat.ne_of_lt RT_x7.out.lt))
         have RY_x8 : Hid (TRow x8 (gy) 25 (tk)) := Lib.hid (TRow.other (TRow.below RY_x7.out ((Below.refl _ _).alloc (Nat.le_refl _) _) RY_x7.out.lt) HO.out (Nat.ne_of_lt RY_x7.out.lt))
         have RZ_x8 : Hid (TRow x8 (x1.heap.size) 25 (tk)) := Lib.hid (TRow.other (TRow.below RZ_x7.out ((Below.refl _ _).alloc (Nat.le_refl _) _) RZ_x7.out.lt) HO.out (Nat.ne_of_lt RZ_x7.out.lt))
         have RP_x8 : Hid (TRow x8 (x3.heap.size) 25 (tA)) := Lib.hid (TRow.other (TRow.below RP_x7.out ((Below.refl _ _).alloc (Nat.le_refl _) _) RP_x7.out.lt) HO.out (Nat.ne_of_lt RP_x7.out.lt))
         have RQ_x8 : Hid (TRow x8 (x5.heap.size) 25 (tW)) := Lib.hid (TRow.other (TRow.below RQ_x7.out ((Below.refl _ _).alloc (Nat.le_refl _) _) RQ_x7.out.lt) HO.out (Nat.ne_of_lt RQ_x7.out.lt))
         have RW_x8 : Hid (TRow x8 x7.heap.size 25 (tW)) := HN
         have BB_x8 : Hid (Below w.heap.size w x8) := Lib.hid ((BB_x7.out.alloc BB_x7.out.size _).trans (HB.out.mono BB_x7.out.size))
         clear HO HB HN RT_x7 RY_x7 RZ_x7 RP_x7 RQ_x7 BB_x7)
      | (go_at_call 13; have hc := BB_x6; clear hc; (with_reducible refine (K4.out _).mono ?_); rintro e x7 ⟨rfl, hB⟩
         have RT_x7 : Hid (TRow x7 (gt) 25 (l)) := Lib.hid (TRow.below RT_x6.out hB RT_x6.out.lt)
         have RY_x7 : Hid (TRow x7 (gy) 25 (tk)) := Lib.hid (TRow.below RY_x6.out hB RY_x6.out.lt)
         have RZ_x7 : Hid (TRow x7 (x1.heap.size) 25 (tk)) := Lib.hid (TRow.below RZ_x6.out hB RZ_x6.out.lt)
         have RP_x7 : Hid (TRow x7 (x3.heap.size) 25 (tA)) := Lib.hid (TRow.below RP_x6.out hB RP_x6.out.lt)
         have RQ_x7 : Hid (TRow x7 (x5.heap.size) 25 (tW)) := Lib.hid (TRow.below RQ_x6.out hB RQ_x6.out.lt)
         have BB_x7 : Hid (Below w.heap.size w x7) := Lib.hid (BB_x6.out.trans (hB.mono BB_x6.out.size))
         clear hB RT_x6 RY_x6 RZ_x6 RP_x6 RQ_x6 BB_x6)
      | ((with_reducible show wpList _ _ _ (⟨some 160, .load 25 (.tmp 7), _, _, _, _⟩ :: _) _ _); refine wpList_load_t (by rfl) 25 _ rfl (gt) (by exact rfl) _ Try.underlying25 (by kernel_rfl) 25 RT_x6.out ?_)
      | ((with_reducible show wpList _ _ _ (⟨none, .store 25 (.tmp 24) (.tmp 157), _, _, _, _⟩ :: _) _ _); refine wpList_store_t  rfl 25 _ _ rfl (x5.heap.size) (by exact rfl) (by exact rfl) (by kernel_rfl) 25 (show TRow _ _ _ ⟨0, 0, 0⟩ from alloc_at _ _) ?_; intro x6 HN HO HB
         have RT_x6 : Hid (TRow x6 (gt) 25 (l)) := Lib.hid (TRow.other (TRow.below RT_x5.out ((Below.refl _ _).alloc (Nat.le_refl _) _) RT_x5.out.lt) HO.out (Nat.ne_of_lt RT_x5.out.lt))
         have RY_x6 : Hid (TRow x6 (gy) 25 (tk)) := Lib.hid (TRow.other (TRow.below RY_x5.out ((Below.refl _ _).alloc (Nat.le_refl _) _) RY_x5.out.lt) HO.out (Nat.ne_of_lt RY_x5.out.lt))
         have RZ_x6 : Hid (TRow x6 (x1.heap.size) 25 (tk)) := Lib.hid (TRow.other (TRow.below RZ_x5.out ((Below.refl _ _).alloc (Nat.le_refl _) _) RZ_x5.out.lt) HO.out (Nat.ne_of_lt RZ_x5.out.lt))
         have RP_x6 : Hid (TRow x6 (x3.heap.size) 25 (tA)) := Lib.hid (TRow.other (TRow.below RP_x5.out ((Below.refl _ _).alloc (Nat.le_refl _) _) RP_x5.out.lt) HO.out (Nat.ne_of_lt RP_x5.out.lt))
         have RQ_x6 : Hid (TRow x6 x5.heap.size 25 (tW)) := HN
         have BB_x6 : Hid (Below w.heap.size w x6) := Lib.hid ((BB_x5.out.alloc BB_x5.out.size _).trans (HB.out.mono BB_x5.out.size))
         clear HO HB HN RT_x5 RY_x5 RZ_x5 RP_x5 BB_x5)
      | (go_at_call 13; have hc := BB_x4; clear hc; (with_reducible refine (K3.out _).mono ?_); rintro e x5 ⟨rfl, hB⟩
         have RT_x5 : Hid (TRow x5 (gt) 25 (l)) := Lib.hid (TRow.below RT_x4.out hB RT_x4.out.lt)
         have RY_x5 : Hid (TRow x5 (gy) 25 (tk)) := Lib.hid (TRow.below RY_x4.out hB RY_x4.out.lt)
         have RZ_x5 : Hid (TRow x5 (x1.heap.size) 25 (tk)) := Lib.hid (TRow.below RZ_x4.out hB RZ_x4.out.lt)
         have RP_x5 : Hid (TRow x5 (x3.heap.size) 25 (tA)) := Lib.hid (TRow.below RP_x4.out hB RP_x4.out.lt)
         have BB_x5 : Hid (Below w.heap.size w x5) := Lib.hid (BB_x4.out.trans (hB.mono BB_x4.out.size))
         clear hB RT_x4 RY_x4 RZ_x4 RP_x4 BB_x4)
      | ((with_reducible show wpList _ _ _ (⟨some 154, .load 25 (.tmp 22), _, _, _, _⟩ :: _) _ _); refine wpList_load_t (by rfl) 25 _ rfl (x3.heap.size) (by exact rfl) _ Try.underlying25 (by kernel_rfl) 25 RP_x4.out ?_)
      | ((with_reducible show wpList _ _ _ (⟨none, .store 25 (.tmp 22) (.tmp 151), _, _, _, _⟩ :: _) _ _); refine wpList_store_t  rfl 25 _ _ rfl (x3.heap.size) (by exact rfl) (by exact rfl) (by kernel_rfl) 25 (show TRow _ _ _ ⟨0, 0, 0⟩ from alloc_at _ _) ?_; intro x4 HN HO HB
         have RT_x4 : Hid (TRow x4 (gt) 25 (l)) := Lib.hid (TRow.other (TRow.below RT_x3.out ((Below.refl _ _).alloc (Nat.le_refl _) _) RT_x3.out.lt) HO.out (Nat.ne_of_lt RT_x3.out.lt))
         have RY_x4 : Hid (TRow x4 (gy) 25 (tk)) := Lib.hid (TRow.other (TRow.below RY_x3.out ((Below.refl _ _).alloc (Nat.le_refl _) _) RY_x3.out.lt) HO.out (Nat.ne_of_lt RY_x3.out.lt))
         have RZ_x4 : Hid (TRow x4 (x1.heap.size) 25 (tk)) := Lib.hid (TRow.other (TRow.below RZ_x3.out ((Below.refl _ _).alloc (Nat.le_refl _) _) RZ_x3.out.lt) HO.out (Nat.ne_of_lt RZ_x3.out.lt))
         have RP_x4 : Hid (TRow x4 x3.heap.size 25 (tA)) := HN
         have BB_x4 : Hid (Below w.heap.size w x4) := Lib.hid ((BB_x3.out.alloc BB_x3.out.size _).trans (HB.out.mono BB_x3.out.size))
         clear HO HB HN RT_x3 RY_x3 RZ_x3 BB_x3)
      | (go_at_call 13; have hc := BB_x2; clear hc; (with_reducible refine (K2.out _).mono ?_); rintro e x3 ⟨rfl, hB⟩
         have RT_x3 : Hid (TRow x3 (gt) 25 (l)) := Lib.hid (TRow.below RT_x2.out hB RT_x2.out.lt)
         have RY_x3 : Hid (TRow x3 (gy) 25 (tk)) := Lib.hid (TRow.below RY_x2.out hB RY_x2.out.lt)
         have RZ_x3 : Hid (TRow x3 (x1.heap.size) 25 (tk)) := Lib.hid (TRow.below RZ_x2.out hB RZ_x2.out.lt)
         have BB_x3 : Hid (Below w.heap.size w x3) := Lib.hid (BB_x2.out.trans (hB.mono BB_x2.out.size))
         clear b1 c1
         clear hB RT_x2 RY_x2 RZ_x2 BB_x2)
      | ((with_reducible show wpList _ _ _ (⟨some 148, .load 25 (.tmp 7), _, _, _, _⟩ :: _) _ _); refine wpList_load_t (by rfl) 25 _ rfl (gt) (by exact rfl) _ Try.underlying25 (by kernel_rfl) 25 RT_x2.out ?_)
      | ((with_reducible show wpList _ _ _ (⟨some 126, .load 25 (.tmp 13), _, _, _, _⟩ :: _) _ _); refine wpList_load_t (by rfl) 25 _ rfl (gy) (by exact rfl) _ Try.underlying25 (by kernel_rfl) 25 RY_x2.out ?_)
      | ((with_reducible show wpList _ _ _ (⟨some 125, .load 25 (.tmp 18), _, _, _, _⟩ :: _) _ _); refine wpList_load_t (by rfl) 25 _ rfl (x1.heap.size) (by exact rfl) _ Try.underlying25 (by kernel_rfl) 25 RZ_x2.out ?_)
      | ((with_reducible show wpList _ _ _ (⟨none, .store 25 (.tmp 18) (.tmp 123), _, _, _, _⟩ :: _) _ _); refine wpList_store_t  rfl 25 _ _ rfl (x1.heap.size) (by exact rfl) (by exact rfl) (by kernel_rfl) 25 (show TRow _ _ _ ⟨0, 0, 0⟩ from alloc_at _ _) ?_; intro x2 HN HO HB
         have RT_x2 : Hid (TRow x2 (gt) 25 (l)) := Lib.hid (TRow.other (TRow.below RT_x1.out ((Below.refl _ _).alloc (Nat.le_refl _) _) RT_x1.out.lt) HO.out (Nat.ne_of_lt RT_x1.out.lt))
         have RY_x2 : Hid (TRow x2 (gy) 25 (tk)) := Lib.hid (TRow.other (TRow.below RY_x1.out ((Below.refl _ _).alloc (Nat.le_refl _) _) RY_x1.out.lt) HO.out (Nat.ne_of_lt RY_x1.out.lt))
         have RZ_x2 : Hid (TRow x2 x1.heap.size 25 (tk)) := HN
         have BB_x2 : Hid (Below w.heap.size w x2) := Lib.hid ((BB_x1.out.alloc BB_x1.out.size _).trans (HB.out.mono BB_x1.out.size))
         have b1 : x2.cell? ⟨gy, 1, none⟩ = some (.int .u16 (l.b : Int)) := by have h := RY_x2.out.c1; rw [HTB.out] at h; exact h
         have c1 := RT_x2.out.c1
         clear HO HB HN RT_x1 RY_x1 BB_x1)
      | (go_at_call 13; have hc := BB_wr; clear hc; (with_reducible refine (K1.out _).mono ?_); rintro e x1 ⟨rfl, hB⟩
         have RT_x1 : Hid (TRow x1 (gt) 25 (l)) := Lib.hid (TRow.below RT_wr.out hB RT_wr.out.lt)
         have RY_x1 : Hid (TRow x1 (gy) 25 (tk)) := Lib.hid (TRow.below RY_wr.out hB RY_wr.out.lt)
         have BB_x1 : Hid (Below w.heap.size w x1) := Lib.hid (BB_wr.out.trans (hB.mono BB_wr.out.size))
         clear hB RT_wr RY_wr BB_wr)
      | ((with_reducible show wpList _ _ _ (⟨some 120, .load 25 (.tmp 7), _, _, _, _⟩ :: _) _ _); refine wpList_load_t (by rfl) 25 _ rfl (gt) (by exact rfl) _ Try.underlying25 (by kernel_rfl) 25 RT_wr.out ?_))
            go_ret
            exact ⟨rfl, BB_x8.out⟩

    · have HB1 : Hid (bits .and .u16 (l.c : Int) 1 = 1) := Lib.hid hb1'
      have HR : Hid (l.c % 2 = 1) := Lib.hid (by have := HRU.out; simp at this; omega)
      have HFP : Hid (0 < f) := Lib.hid (by rw [← HF.out]; exact next_pos HR.out)
      have dfp : (0 : Int) < (f : Int) := by have := HFP.out; omega
      have dfit : ((l.a : Int) + (f : Int) - (l.b : Int)).tmod 65536 = 0 := by rw [← HF.out]; exact next_fits HL.out HR.out
      clear hb1'
      cases ag
      · have HB2 : Hid (bits .and .u16 (l.c : Int) 2 = 0) := Lib.hid hb2'
        have HA : Hid (l.c / 2 % 2 = 0) := Lib.hid (by have := HAG.out; simp at this; omega)
        clear hb2'
        skip
        go_upto_region 7 with fail
        refine wp_region_noPanic ?_
        refine wp_region_held_drew (S := fun X => Below v.heap.size v X) (by kernel_rfl) ((Below.refl _ v).drew) (fun hHeld => ?_)
        refine' take_ 0 rfl (by kernel_rfl) (by kernel_rfl) (by kernel_rfl) (fun _ _ _ h => h) (by rfl) (fun wS hSw => ?_) hHeld ?_
        rotate_left
        focus (go_simp; (try with_reducible rfl); done)
        try simp only [Act.put, List.setIfInBounds_toArray, List.set_cons_zero, List.set_cons_succ]
        refine' take_ 1 rfl (by kernel_rfl) (by kernel_rfl) (by kernel_rfl) (fun _ _ _ h => h) (by rfl) (fun wS hSw => ?_) hHeld ?_
        rotate_left
        focus (have s0 := (RT_v.out.below hSw RT_v.out.lt).c2; clear hSw; go_simp; (try with_reducible rfl); done)
        try simp only [Act.put, List.setIfInBounds_toArray, List.set_cons_zero, List.set_cons_succ]
        refine' take_ 2 rfl (by kernel_rfl) (by kernel_rfl) (by kernel_rfl) (fun _ _ _ h => h) (by rfl) (fun wS hSw => ?_) hHeld ?_
        rotate_left
        focus (go_simp; rw [HB1.out]; (try with_reducible rfl); done)
        try simp only [Act.put, List.setIfInBounds_toArray, List.set_cons_zero, List.set_cons_succ]
        refine' take_ 3 rfl (by kernel_rfl) (by kernel_rfl) (by kernel_rfl) (fun _ _ _ h => h) (by rfl) (fun wS hSw => ?_) hHeld ?_
        rotate_left
        focus (go_simp; (try with_reducible rfl); done)
        try simp only [Act.put, List.setIfInBounds_toArray, List.set_cons_zero, List.set_cons_succ]
        refine' take_ 4 rfl (by kernel_rfl) (by kernel_rfl) (by kernel_rfl) (fun _ _ _ h => h) (by rfl) (fun wS hSw => ?_) hHeld ?_
        rotate_left
        focus (go_simp; (try with_reducible rfl); done)
        try simp only [Act.put, List.setIfInBounds_toArray, List.set_cons_zero, List.set_cons_succ]
        refine' take_ 5 rfl (by kernel_rfl) (by kernel_rfl) (by kernel_rfl) (fun _ _ _ h => h) (by rfl) (fun wS hSw => ?_) hHeld ?_
        rotate_left
        focus (have s0 := (RT_v.out.below hSw RT_v.out.lt).c2; clear hSw; go_simp; (try with_reducible rfl); done)
        try simp only [Act.put, List.setIfInBounds_toArray, List.set_cons_zero, List.set_cons_succ]
        refine' take_ 6 rfl (by kernel_rfl) (by kernel_rfl) (by kernel_rfl) (fun _ _ _ h => h) (by rfl) (fun wS hSw => ?_) hHeld ?_
        rotate_left
        focus (go_simp; rw [HB2.out]; (try with_reducible rfl); done)
        try simp only [Act.put, List.setIfInBounds_toArray, List.set_cons_zero, List.set_cons_succ]
        refine' take_ 7 rfl (by kernel_rfl) (by kernel_rfl) (by kernel_rfl) (fun _ _ _ h => h) (by rfl) (fun wS hSw => ?_) hHeld ?_
        rotate_left
        focus (go_simp; (try with_reducible rfl); done)
        try simp only [Act.put, List.setIfInBounds_toArray, List.set_cons_zero, List.set_cons_succ]
        refine' take_ 8 rfl (by kernel_rfl) (by kernel_rfl) (by kernel_rfl) (fun _ _ _ h => h) (by rfl) (fun wS hSw => ?_) hHeld ?_
        rotate_left
        focus (go_simp; (try with_reducible rfl); done)
        try simp only [Act.put, List.setIfInBounds_toArray, List.set_cons_zero, List.set_cons_succ]
        refine' take_ 9 rfl (by kernel_rfl) (by kernel_rfl) (by kernel_rfl) (fun _ _ _ h => h) (by rfl) (fun wS hSw => ?_) hHeld ?_
        rotate_left
        focus (go_simp; (try with_reducible rfl); done)
        try simp only [Act.put, List.setIfInBounds_toArray, List.set_cons_zero, List.set_cons_succ]
        refine wpAnyH_done (by kernel_rfl) ?_ _
        refine NoPanic.normal ?_
        obtain ⟨v1, hv1⟩ : ∃ Z, Z = v.drew := ⟨_, rfl⟩
        rw [← hv1]
        have RT_v1 : Hid (TRow v1 gt 25 l) := Lib.hid (by rw [hv1]; exact RT_v.out.below (Below.refl _ _).drew RT_v.out.lt)
        have BB_v1 : Hid (Below w.heap.size w v1) := Lib.hid (by rw [hv1]; exact BB_v.out.drew)
        clear hHeld hv1 RT_v BB_v HB1 HB2
        have z0 := RT_v1.out.c0
        have z1 := RT_v1.out.c1
        have z2 := RT_v1.out.c2
        go_upto_region 11 with fail
        clear z0 z1 z2
        clear dfit
        have LEV := BB_v1.out.size
        have NEV := Nat.ne_of_lt RT_v1.out.lt
        go_wp2_with (first
      | ((with_reducible show wpList _ _ _ (⟨none, .store 25 (.tmp 13) (.tmp 80), _, _, _, _⟩ :: _) _ _); refine wpList_store_t (u := l) rfl 25 _ _ rfl (v1.heap.size) (by exact rfl) (by exact rfl) (by kernel_rfl) 25 (show TRow _ _ _ ⟨0, 0, 0⟩ from alloc_at _ _) ?_; intro w3 HN HO HB
         have RT_w3 : Hid (TRow w3 (gt) 25 (l)) := Lib.hid (TRow.other (TRow.below RT_v1.out ((Below.refl _ _).alloc (Nat.le_refl _) _) RT_v1.out.lt) HO.out (Nat.ne_of_lt RT_v1.out.lt))
         have RY_w3 : Hid (TRow w3 v1.heap.size 25 (l)) := HN
         have BB_w3 : Hid (Below w.heap.size w w3) := Lib.hid ((BB_v1.out.alloc BB_v1.out.size _).trans (HB.out.mono BB_v1.out.size))
         clear HO HB HN RT_v1 BB_v1)
      | ((with_reducible show wpList _ _ _ (⟨some 80, .load 25 (.tmp 7), _, _, _, _⟩ :: _) _ _); refine wpList_load_t (by rfl) 25 _ rfl (gt) (by exact rfl) _ Try.underlying25 (by kernel_rfl) 25 RT_v1.out ?_))
        generalize hgy : v1.heap.size = gy at *
        have LE_RY : Hid (w.heap.size ≤ gy) := Lib.hid LEV
        have NE_RT_RY : Hid (gt ≠ gy) := Lib.hid NEV
        clear hgy LEV NEV
        go_loopw [14, 15] (fun kv iv wr => ∃ k i : Nat, i = k + 1 ∧ i ≤ n + 1 ∧ iv = .int .i64 (i : Int) ∧ kv = .int .i64 (countT l k : Nat) ∧ TRow wr gt 25 l ∧ TRow wr gy 25 (ticksT l k) ∧ Below w.heap.size w wr) (fun _ iv _ => n + 1 - (intOf iv).toNat)
        case atStart => exact ⟨0, 1, rfl, by omega, rfl, rfl, RT_w3.out, RY_w3.out, BB_w3.out⟩
        case round =>
          clear RT_w3 RY_w3 BB_w3
          obtain ⟨k, i, hi, hi2, rfl, rfl, h1, h2, h3⟩ := hrel
          have HI := Lib.hid hi
          have RT_wr := Lib.hid h1
          have BB_wr := Lib.hid h3
          have KU := Lib.hid (fun W => KT.out k W)
          rw [show tickT (ticksT l k) = ticksT l i from by rw [hi]; rfl] at KU
          obtain ⟨tk, htk⟩ : ∃ x, ticksT l k = x := ⟨_, rfl⟩
          obtain ⟨tk2, htk2⟩ : ∃ x, ticksT l i = x := ⟨_, rfl⟩
          obtain ⟨ck, hck⟩ : ∃ x, countT l k = x := ⟨_, rfl⟩
          have hck2 : ck ≤ k := by rw [← hck]; exact countT_le _ _
          rw [htk] at h2
          have RY_wr := Lib.hid h2
          clear h1 h2 h3
          by_cases hlt : i ≤ n
          · have d1 : (i : Int) ≤ (n : Int) := by omega
            have hki : k < 300 := by omega
            by_cases hif : i = f
            · have dif : ((i : Int) == (f : Int)) = true := by simp [hif]
              have hq : asksT (ticksT l k) = true := by rw [asks_before HL.out HR.out k (by rw [HF.out]; omega), HF.out]; exact decide_eq_true (by omega)
              have HCK : Hid (countT l i = ck + 1) := Lib.hid (by rw [HI.out, countT, hq, hck]; rfl)
              rw [hq] at KU
              clear hq
              clear hif
              rw [htk2] at KU
              rw [htk] at KU
              rw [hck]
              clear hck htk hi hlt
              go_wp2_with (first
      | ((with_reducible show wpList _ _ _ (⟨none, .store 25 (.tmp 13) (.tmp 118), _, _, _, _⟩ :: _) _ _); refine wpList_store_t rfl 25 _ _ rfl (gy) (by exact rfl) (by exact rfl) (by kernel_rfl) 25 RY_wb.out ?_; intro wc HN HO HB
         have RT_wc : Hid (TRow wc (gt) 25 (l)) := Lib.hid (TRow.other RT_wb.out HO.out (NE_RT_RY.out))
         have RN_wc : Hid (TRow wc (wa.heap.size) 25 (tk2)) := Lib.hid (TRow.other RN_wb.out HO.out (NE_RN_RY.out))
         have RY_wc : Hid (TRow wc (gy) 25 (tk2)) := HN
         have BB_wc : Hid (Below w.heap.size w wc) := Lib.hid (BB_wb.out.trans (HB.out.mono LE_RY.out))
         clear HO HB HN RT_wb RY_wb RN_wb BB_wb)
      | ((with_reducible show wpList _ _ _ (⟨some 118, .load 25 (.tmp 16), _, _, _, _⟩ :: _) _ _); refine wpList_load_t (by rfl) 25 _ rfl (wa.heap.size) (by exact rfl) _ Try.underlying25 (by kernel_rfl) 25 RN_wb.out ?_)
      | ((with_reducible show wpList _ _ _ (⟨none, .store 25 (.tmp 16) (.tmp 89), _, _, _, _⟩ :: _) _ _); refine wpList_store_t  rfl 25 _ _ rfl (wa.heap.size) (by exact rfl) (by exact rfl) (by kernel_rfl) 25 (show TRow _ _ _ ⟨0, 0, 0⟩ from alloc_at _ _) ?_; intro wb HN HO HB
         have RT_wb : Hid (TRow wb (gt) 25 (l)) := Lib.hid (TRow.other (TRow.below RT_wa.out ((Below.refl _ _).alloc (Nat.le_refl _) _) RT_wa.out.lt) HO.out (Nat.ne_of_lt RT_wa.out.lt))
         have RY_wb : Hid (TRow wb (gy) 25 (tk)) := Lib.hid (TRow.other (TRow.below RY_wa.out ((Below.refl _ _).alloc (Nat.le_refl _) _) RY_wa.out.lt) HO.out (Nat.ne_of_lt RY_wa.out.lt))
         have RN_wb : Hid (TRow wb wa.heap.size 25 (tk2)) := HN
         have BB_wb : Hid (Below w.heap.size w wb) := Lib.hid ((BB_wa.out.alloc BB_wa.out.size _).trans (HB.out.mono BB_wa.out.size))
         have NE_RN_RY := Lib.hid (Nat.ne_of_gt RY_wa.out.lt)
         clear HO HB HN RT_wa RY_wa BB_wa)
      | (go_at_call 11; have hc := BB_wr; clear hc; (with_reducible refine (KU.out _).mono ?_); rintro e wa ⟨rfl, hB⟩
         have RT_wa : Hid (TRow wa (gt) 25 (l)) := Lib.hid (TRow.below RT_wr.out hB RT_wr.out.lt)
         have RY_wa : Hid (TRow wa (gy) 25 (tk)) := Lib.hid (TRow.below RY_wr.out hB RY_wr.out.lt)
         have BB_wa : Hid (Below w.heap.size w wa) := Lib.hid (BB_wr.out.trans (hB.mono BB_wr.out.size))
         clear hB RT_wr RY_wr BB_wr)
      | ((with_reducible show wpList _ _ _ (⟨some 87, .load 25 (.tmp 13), _, _, _, _⟩ :: _) _ _); refine wpList_load_t (by rfl) 25 _ rfl (gy) (by exact rfl) _ Try.underlying25 (by kernel_rfl) 25 RY_wr.out ?_))
              go_roundw
              case rel => exact ⟨i, i + 1, rfl, by omega, by go_num, by rw [HCK.out]; go_num, RT_wc.out, by rw [htk2]; exact RY_wc.out, BB_wc.out⟩
              case measure =>
                simp [intOf]
                omega
            · have dif : ((i : Int) == (f : Int)) = false := by simp; omega
              have hq : asksT (ticksT l k) = false := by
                by_cases hkf : k < f
                · rw [asks_before HL.out HR.out k (by rw [HF.out]; omega), HF.out]; exact decide_eq_false (by omega)
                · exact asks_once HL.out HR.out HA.out k (by rw [HF.out]; omega)
              have HCK : Hid (countT l i = ck) := Lib.hid (by rw [HI.out, countT, hq, hck]; rfl)
              rw [hq] at KU
              clear hq
              clear hif
              rw [htk2] at KU
              rw [htk] at KU
              rw [hck]
              clear hck htk hi hlt
              go_wp2_with (first
      | ((with_reducible show wpList _ _ _ (⟨none, .store 25 (.tmp 13) (.tmp 118), _, _, _, _⟩ :: _) _ _); refine wpList_store_t rfl 25 _ _ rfl (gy) (by exact rfl) (by exact rfl) (by kernel_rfl) 25 RY_wb.out ?_; intro wc HN HO HB
         have RT_wc : Hid (TRow wc (gt) 25 (l)) := Lib.hid (TRow.other RT_wb.out HO.out (NE_RT_RY.out))
         have RN_wc : Hid (TRow wc (wa.heap.size) 25 (tk2)) := Lib.hid (TRow.other RN_wb.out HO.out (NE_RN_RY.out))
         have RY_wc : Hid (TRow wc (gy) 25 (tk2)) := HN
         have BB_wc : Hid (Below w.heap.size w wc) := Lib.hid (BB_wb.out.trans (HB.out.mono LE_RY.out))
         clear HO HB HN RT_wb RY_wb RN_wb BB_wb)
      | ((with_reducible show wpList _ _ _ (⟨some 118, .load 25 (.tmp 16), _, _, _, _⟩ :: _) _ _); refine wpList_load_t (by rfl) 25 _ rfl (wa.heap.size) (by exact rfl) _ Try.underlying25 (by kernel_rfl) 25 RN_wb.out ?_)
      | ((with_reducible show wpList _ _ _ (⟨none, .store 25 (.tmp 16) (.tmp 89), _, _, _, _⟩ :: _) _ _); refine wpList_store_t  rfl 25 _ _ rfl (wa.heap.size) (by exact rfl) (by exact rfl) (by kernel_rfl) 25 (show TRow _ _ _ ⟨0, 0, 0⟩ from alloc_at _ _) ?_; intro wb HN HO HB
         have RT_wb : Hid (TRow wb (gt) 25 (l)) := Lib.hid (TRow.other (TRow.below RT_wa.out ((Below.refl _ _).alloc (Nat.le_refl _) _) RT_wa.out.lt) HO.out (Nat.ne_of_lt RT_wa.out.lt))
         have RY_wb : Hid (TRow wb (gy) 25 (tk)) := Lib.hid (TRow.other (TRow.below RY_wa.out ((Below.refl _ _).alloc (Nat.le_refl _) _) RY_wa.out.lt) HO.out (Nat.ne_of_lt RY_wa.out.lt))
         have RN_wb : Hid (TRow wb wa.heap.size 25 (tk2)) := HN
         have BB_wb : Hid (Below w.heap.size w wb) := Lib.hid ((BB_wa.out.alloc BB_wa.out.size _).trans (HB.out.mono BB_wa.out.size))
         have NE_RN_RY := Lib.hid (Nat.ne_of_gt RY_wa.out.lt)
         clear HO HB HN RT_wa RY_wa BB_wa)
      | (go_at_call 11; have hc := BB_wr; clear hc; (with_reducible refine (KU.out _).mono ?_); rintro e wa ⟨rfl, hB⟩
         have RT_wa : Hid (TRow wa (gt) 25 (l)) := Lib.hid (TRow.below RT_wr.out hB RT_wr.out.lt)
         have RY_wa : Hid (TRow wa (gy) 25 (tk)) := Lib.hid (TRow.below RY_wr.out hB RY_wr.out.lt)
         have BB_wa : Hid (Below w.heap.size w wa) := Lib.hid (BB_wr.out.trans (hB.mono BB_wr.out.size))
         clear hB RT_wr RY_wr BB_wr)
      | ((with_reducible show wpList _ _ _ (⟨some 87, .load 25 (.tmp 13), _, _, _, _⟩ :: _) _ _); refine wpList_load_t (by rfl) 25 _ rfl (gy) (by exact rfl) _ Try.underlying25 (by kernel_rfl) 25 RY_wr.out ?_))
              go_roundw
              case rel => exact ⟨i, i + 1, rfl, by omega, by go_num, by rw [HCK.out], RT_wc.out, by rw [htk2]; exact RY_wc.out, BB_wc.out⟩
              case measure =>
                simp [intOf]
                omega
          · obtain rfl : i = n + 1 := by omega
            obtain rfl : k = n := by omega
            have d1 : ¬ ((k + 1 : Nat) : Int) ≤ (k : Int) := by omega
            rw [htk, hck] at K1
            rw [hck]
            have HTB : Hid (tk.b = l.b) := Lib.hid (by rw [← htk]; exact ticksT_b l k)
            clear hck htk htk2 hi hi2 hlt KU KT
            have hE := run_neq_t
            have hE2 := run_eql_t
            have hG := guard_t
            by_cases hab : f ≤ a + b
            · have dab : (f : Int) ≤ (a : Int) + (b : Int) := by omega
              have dw : (((ca : Int) + (cb : Int)) == 1) = true := by have h1 := HALL.out; rw [(ticks_once HL.out HR.out HA.out (a + b) (by rw [HF.out]; exact hab)).2] at h1; simp; omega
              clear hab
              go_wp2_with (first
      | ((with_reducible show wpList _ _ _ (⟨some 185, .load 25 (.tmp 26), _, _, _, _⟩ :: _) _ _); refine wpList_load_t (by rfl) 25 _ rfl (x7.heap.size) (by exact rfl) _ Try.underlying25 (by kernel_rfl) 25 RW_x8.out ?_)
      | ((with_reducible show wpList _ _ _ (⟨some 184, .load 25 (.tmp 24), _, _, _, _⟩ :: _) _ _); refine wpList_load_t (by rfl) 25 _ rfl (x5.heap.size) (by exact rfl) _ Try.underlying25 (by kernel_rfl) 25 RQ_x8.out ?_)
      | ((with_reducible show wpList _ _ _ (⟨none, .store 25 (.tmp 26) (.tmp 165), _, _, _, _⟩ :: _) _ _); refine wpList_store_t  rfl 25 _ _ rfl (x7.heap.size) (by exact rfl) (by exact rfl) (by kernel_rfl) 25 (show TRow _ _ _ ⟨0, 0, 0⟩ from alloc_at _ _) ?_; intro x8 HN HO HB
         have RT_x8 : Hid (TRow x8 (gt) 25 (l)) := Lib.hid (TRow.other (TRow.below RT_x7.out ((Below.refl _ _).alloc (Nat.le_refl _) _) RT_x7.out.lt) HO.out (Nat.ne_of_lt RT_x7.out.lt))
         have RY_x8 : Hid (TRow x8 (gy) 25 (tk)) := Lib.hid (TRow.other (TRow.below RY_x7.out ((Below.refl _ _).alloc (Nat.le_refl _) _) RY_x7.out.lt) HO.out (Nat.ne_of_lt RY_x7.out.lt))
         have RZ_x8 : Hid (TRow x8 (x1.heap.size) 25 (tk)) := Lib.hid (TRow.other (TRow.below RZ_x7.out ((Below.refl _ _).alloc (Nat.le_refl _) _) RZ_x7.out.lt) HO.out (Nat.ne_of_lt RZ_x7.out.lt))
         have RP_x8 : Hid (TRow x8 (x3.heap.size) 25 (tA)) := Lib.hid (TRow.other (TRow.below RP_x7.out ((Below.refl _ _).alloc (Nat.le_refl _) _) RP_x7.out.lt) HO.out (Nat.ne_of_lt RP_x7.out.lt))
         have RQ_x8 : Hid (TRow x8 (x5.heap.size) 25 (tW)) := Lib.hid (TRow.other (TRow.below RQ_x7.out ((Below.refl _ _).alloc (Nat.le_refl _) _) RQ_x7.out.lt) HO.out (Nat.ne_of_lt RQ_x7.out.lt))
         have RW_x8 : Hid (TRow x8 x7.heap.size 25 (tW)) := HN
         have BB_x8 : Hid (Below w.heap.size w x8) := Lib.hid ((BB_x7.out.alloc BB_x7.out.size _).trans (HB.out.mono BB_x7.out.size))
         clear HO HB HN RT_x7 RY_x7 RZ_x7 RP_x7 RQ_x7 BB_x7)
      | (go_at_call 13; have hc := BB_x6; clear hc; (with_reducible refine (K4.out _).mono ?_); rintro e x7 ⟨rfl, hB⟩
         have RT_x7 : Hid (TRow x7 (gt) 25 (l)) := Lib.hid (TRow.below RT_x6.out hB RT_x6.out.lt)
         have RY_x7 : Hid (TRow x7 (gy) 25 (tk)) := Lib.hid (TRow.below RY_x6.out hB RY_x6.out.lt)
         have RZ_x7 : Hid (TRow x7 (x1.heap.size) 25 (tk)) := Lib.hid (TRow.below RZ_x6.out hB RZ_x6.out.lt)
         have RP_x7 : Hid (TRow x7 (x3.heap.size) 25 (tA)) := Lib.hid (TRow.below RP_x6.out hB RP_x6.out.lt)
         have RQ_x7 : Hid (TRow x7 (x5.heap.size) 25 (tW)) := Lib.hid (TRow.below RQ_x6.out hB RQ_x6.out.lt)
         have BB_x7 : Hid (Below w.heap.size w x7) := Lib.hid (BB_x6.out.trans (hB.mono BB_x6.out.size))
         clear hB RT_x6 RY_x6 RZ_x6 RP_x6 RQ_x6 BB_x6)
      | ((with_reducible show wpList _ _ _ (⟨some 160, .load 25 (.tmp 7), _, _, _, _⟩ :: _) _ _); refine wpList_load_t (by rfl) 25 _ rfl (gt) (by exact rfl) _ Try.underlying25 (by kernel_rfl) 25 RT_x6.out ?_)
      | ((with_reducible show wpList _ _ _ (⟨none, .store 25 (.tmp 24) (.tmp 157), _, _, _, _⟩ :: _) _ _); refine wpList_store_t  rfl 25 _ _ rfl (x5.heap.size) (by exact rfl) (by exact rfl) (by kernel_rfl) 25 (show TRow _ _ _ ⟨0, 0, 0⟩ from alloc_at _ _) ?_; intro x6 HN HO HB
         have RT_x6 : Hid (TRow x6 (gt) 25 (l)) := Lib.hid (TRow.other (TRow.below RT_x5.out ((Below.refl _ _).alloc (Nat.le_refl _) _) RT_x5.out.lt) HO.out (Nat.ne_of_lt RT_x5.out.lt))
         have RY_x6 : Hid (TRow x6 (gy) 25 (tk)) := Lib.hid (TRow.other (TRow.below RY_x5.out ((Below.refl _ _).alloc (Nat.le_refl _) _) RY_x5.out.lt) HO.out (Nat.ne_of_lt RY_x5.out.lt))
         have RZ_x6 : Hid (TRow x6 (x1.heap.size) 25 (tk)) := Lib.hid (TRow.other (TRow.below RZ_x5.out ((Below.refl _ _).alloc (Nat.le_refl _) _) RZ_x5.out.lt) HO.out (Nat.ne_of_lt RZ_x5.out.lt))
         have RP_x6 : Hid (TRow x6 (x3.heap.size) 25 (tA)) := Lib.hid (TRow.other (TRow.below RP_x5.out ((Below.refl _ _).alloc (Nat.le_refl _) _) RP_x5.out.lt) HO.out (Nat.ne_of_lt RP_x5.out.lt))
         have RQ_x6 : Hid (TRow x6 x5.heap.size 25 (tW)) := HN
         have BB_x6 : Hid (Below w.heap.size w x6) := Lib.hid ((BB_x5.out.alloc BB_x5.out.size _).trans (HB.out.mono BB_x5.out.size))
         clear HO HB HN RT_x5 RY_x5 RZ_x5 RP_x5 BB_x5)
      | (go_at_call 13; have hc := BB_x4; clear hc; (with_reducible refine (K3.out _).mono ?_); rintro e x5 ⟨rfl, hB⟩
         have RT_x5 : Hid (TRow x5 (gt) 25 (l)) := Lib.hid (TRow.below RT_x4.out hB RT_x4.out.lt)
         have RY_x5 : Hid (TRow x5 (gy) 25 (tk)) := Lib.hid (TRow.below RY_x4.out hB RY_x4.out.lt)
         have RZ_x5 : Hid (TRow x5 (x1.heap.size) 25 (tk)) := Lib.hid (TRow.below RZ_x4.out hB RZ_x4.out.lt)
         have RP_x5 : Hid (TRow x5 (x3.heap.size) 25 (tA)) := Lib.hid (TRow.below RP_x4.out hB RP_x4.out.lt)
         have BB_x5 : Hid (Below w.heap.size w x5) := Lib.hid (BB_x4.out.trans (hB.mono BB_x4.out.size))
         clear hB RT_x4 RY_x4 RZ_x4 RP_x4 BB_x4)
      | ((with_reducible show wpList _ _ _ (⟨some 154, .load 25 (.tmp 22), _, _, _, _⟩ :: _) _ _); refine wpList_load_t (by rfl) 25 _ rfl (x3.heap.size) (by exact rfl) _ Try.underlying25 (by kernel_rfl) 25 RP_x4.out ?_)
      | ((with_reducible show wpList _ _ _ (⟨none, .store 25 (.tmp 22) (.tmp 151), _, _, _, _⟩ :: _) _ _); refine wpList_store_t  rfl 25 _ _ rfl (x3.heap.size) (by exact rfl) (by exact rfl) (by kernel_rfl) 25 (show TRow _ _ _ ⟨0, 0, 0⟩ from alloc_at _ _) ?_; intro x4 HN HO HB
         have RT_x4 : Hid (TRow x4 (gt) 25 (l)) := Lib.hid (TRow.other (TRow.below RT_x3.out ((Below.refl _ _).alloc (Nat.le_refl _) _) RT_x3.out.lt) HO.out (Nat.ne_of_lt RT_x3.out.lt))
         have RY_x4 : Hid (TRow x4 (gy) 25 (tk)) := Lib.hid (TRow.other (TRow.below RY_x3.out ((Below.refl _ _).alloc (Nat.le_refl _) _) RY_x3.out.lt) HO.out (Nat.ne_of_lt RY_x3.out.lt))
         have RZ_x4 : Hid (TRow x4 (x1.heap.size) 25 (tk)) := Lib.hid (TRow.other (TRow.below RZ_x3.out ((Below.refl _ _).alloc (Nat.le_refl _) _) RZ_x3.out.lt) HO.out (Nat.ne_of_lt RZ_x3.out.lt))
         have RP_x4 : Hid (TRow x4 x3.heap.size 25 (tA)) := HN
         have BB_x4 : Hid (Below w.heap.size w x4) := Lib.hid ((BB_x3.out.alloc BB_x3.out.size _).trans (HB.out.mono BB_x3.out.size))
         clear HO HB HN RT_x3 RY_x3 RZ_x3 BB_x3)
      | (go_at_call 13; have hc := BB_x2; clear hc; (with_reducible refine (K2.out _).mono ?_); rintro e x3 ⟨rfl, hB⟩
         have RT_x3 : Hid (TRow x3 (gt) 25 (l)) := Lib.hid (TRow.below RT_x2.out hB RT_x2.out.lt)
         have RY_x3 : Hid (TRow x3 (gy) 25 (tk)) := Lib.hid (TRow.below RY_x2.out hB RY_x2.out.lt)
         have RZ_x3 : Hid (TRow x3 (x1.heap.size) 25 (tk)) := Lib.hid (TRow.below RZ_x2.out hB RZ_x2.out.lt)
         have BB_x3 : Hid (Below w.heap.size w x3) := Lib.hid (BB_x2.out.trans (hB.mono BB_x2.out.size))
         clear b1 c1
         clear hB RT_x2 RY_x2 RZ_x2 BB_x2)
      | ((with_reducible show wpList _ _ _ (⟨some 148, .load 25 (.tmp 7), _, _, _, _⟩ :: _) _ _); refine wpList_load_t (by rfl) 25 _ rfl (gt) (by exact rfl) _ Try.underlying25 (by kernel_rfl) 25 RT_x2.out ?_)
      | ((with_reducible show wpList _ _ _ (⟨some 126, .load 25 (.tmp 13), _, _, _, _⟩ :: _) _ _); refine wpList_load_t (by rfl) 25 _ rfl (gy) (by exact rfl) _ Try.underlying25 (by kernel_rfl) 25 RY_x2.out ?_)
      | ((with_reducible show wpList _ _ _ (⟨some 125, .load 25 (.tmp 18), _, _, _, _⟩ :: _) _ _); refine wpList_load_t (by rfl) 25 _ rfl (x1.heap.size) (by exact rfl) _ Try.underlying25 (by kernel_rfl) 25 RZ_x2.out ?_)
      | ((with_reducible show wpList _ _ _ (⟨none, .store 25 (.tmp 18) (.tmp 123), _, _, _, _⟩ :: _) _ _); refine wpList_store_t  rfl 25 _ _ rfl (x1.heap.size) (by exact rfl) (by exact rfl) (by kernel_rfl) 25 (show TRow _ _ _ ⟨0, 0, 0⟩ from alloc_at _ _) ?_; intro x2 HN HO HB
         have RT_x2 : Hid (TRow x2 (gt) 25 (l)) := Lib.hid (TRow.other (TRow.below RT_x1.out ((Below.refl _ _).alloc (Nat.le_refl _) _) RT_x1.out.lt) HO.out (Nat.ne_of_lt RT_x1.out.lt))
         have RY_x2 : Hid (TRow x2 (gy) 25 (tk)) := Lib.hid (TRow.other (TRow.below RY_x1.out ((Below.refl _ _).alloc (Nat.le_refl _) _) RY_x1.out.lt) HO.out (Nat.ne_of_lt RY_x1.out.lt))
         have RZ_x2 : Hid (TRow x2 x1.heap.size 25 (tk)) := HN
         have BB_x2 : Hid (Below w.heap.size w x2) := Lib.hid ((BB_x1.out.alloc BB_x1.out.size _).trans (HB.out.mono BB_x1.out.size))
         have b1 : x2.cell? ⟨gy, 1, none⟩ = some (.int .u16 (l.b : Int)) := by have h := RY_x2.out.c1; rw [HTB.out] at h; exact h
         have c1 := RT_x2.out.c1
         clear HO HB HN RT_x1 RY_x1 BB_x1)
      | (go_at_call 13; have hc := BB_wr; clear hc; (with_reducible refine (K1.out _).mono ?_); rintro e x1 ⟨rfl, hB⟩
         have RT_x1 : Hid (TRow x1 (gt) 25 (l)) := Lib.hid (TRow.below RT_wr.out hB RT_wr.out.lt)
         have RY_x1 : Hid (TRow x1 (gy) 25 (tk)) := Lib.hid (TRow.below RY_wr.out hB RY_wr.out.lt)
         have BB_x1 : Hid (Below w.heap.size w x1) := Lib.hid (BB_wr.out.trans (hB.mono BB_wr.out.size))
         clear hB RT_wr RY_wr BB_wr)
      | ((with_reducible show wpList _ _ _ (⟨some 120, .load 25 (.tmp 7), _, _, _, _⟩ :: _) _ _); refine wpList_load_t (by rfl) 25 _ rfl (gt) (by exact rfl) _ Try.underlying25 (by kernel_rfl) 25 RT_wr.out ?_))
              go_ret
              exact ⟨rfl, BB_x8.out⟩
            · have dab : ¬ (f : Int) ≤ (a : Int) + (b : Int) := by omega
              have dw : (((ca : Int) + (cb : Int)) == 0) = true := by have h1 := HALL.out; rw [(ticks_before HL.out HR.out (a + b) (by rw [HF.out]; omega)).2] at h1; simp; omega
              clear hab
              go_wp2_with (first
      | ((with_reducible show wpList _ _ _ (⟨some 185, .load 25 (.tmp 26), _, _, _, _⟩ :: _) _ _); refine wpList_load_t (by rfl) 25 _ rfl (x7.heap.size) (by exact rfl) _ Try.underlying25 (by kernel_rfl) 25 RW_x8.out ?_)
      | ((with_reducible show wpList _ _ _ (⟨some 184, .load 25 (.tmp 24), _, _, _, _⟩ :: _) _ _); refine wpList_load_t (by rfl) 25 _ rfl (x5.heap.size) (by exact rfl) _ Try.underlying25 (by kernel_rfl) 25 RQ_x8.out ?_)
      | ((with_reducible show wpList _ _ _ (⟨none, .store 25 (.tmp 26) (.tmp 165), _, _, _, _⟩ :: _) _ _); refine wpList_store_t  rfl 25 _ _ rfl (x7.heap.size) (by exact rfl) (by exact rfl) (by kernel_rfl) 25 (show TRow _ _ _ ⟨0, 0, 0⟩ from alloc_at _ _) ?_; intro x8 HN HO HB
         have RT_x8 : Hid (TRow x8 (gt) 25 (l)) := Lib.hid (TRow.other (TRow.below RT_x7.out ((Below.refl _ _).alloc (Nat.le_refl _) _) RT_x7.out.lt) HO.out (Nat.ne_of_lt RT_x7.out.lt))
         have RY_x8 : Hid (TRow x8 (gy) 25 (tk)) := Lib.hid (TRow.other (TRow.below RY_x7.out ((Below.refl _ _).alloc (Nat.le_refl _) _) RY_x7.out.lt) HO.out (Nat.ne_of_lt RY_x7.out.lt))
         have RZ_x8 : Hid (TRow x8 (x1.heap.size) 25 (tk)) := Lib.hid (TRow.other (TRow.below RZ_x7.out ((Below.refl _ _).alloc (Nat.le_refl _) _) RZ_x7.out.lt) HO.out (Nat.ne_of_lt RZ_x7.out.lt))
         have RP_x8 : Hid (TRow x8 (x3.heap.size) 25 (tA)) := Lib.hid (TRow.other (TRow.below RP_x7.out ((Below.refl _ _).alloc (Nat.le_refl _) _) RP_x7.out.lt) HO.out (Nat.ne_of_lt RP_x7.out.lt))
         have RQ_x8 : Hid (TRow x8 (x5.heap.size) 25 (tW)) := Lib.hid (TRow.other (TRow.below RQ_x7.out ((Below.refl _ _).alloc (Nat.le_refl _) _) RQ_x7.out.lt) HO.out (Nat.ne_of_lt RQ_x7.out.lt))
         have RW_x8 : Hid (TRow x8 x7.heap.size 25 (tW)) := HN
         have BB_x8 : Hid (Below w.heap.size w x8) := Lib.hid ((BB_x7.out.alloc BB_x7.out.size _).trans (HB.out.mono BB_x7.out.size))
         clear HO HB HN RT_x7 RY_x7 RZ_x7 RP_x7 RQ_x7 BB_x7)
      | (go_at_call 13; have hc := BB_x6; clear hc; (with_reducible refine (K4.out _).mono ?_); rintro e x7 ⟨rfl, hB⟩
         have RT_x7 : Hid (TRow x7 (gt) 25 (l)) := Lib.hid (TRow.below RT_x6.out hB RT_x6.out.lt)
         have RY_x7 : Hid (TRow x7 (gy) 25 (tk)) := Lib.hid (TRow.below RY_x6.out hB RY_x6.out.lt)
         have RZ_x7 : Hid (TRow x7 (x1.heap.size) 25 (tk)) := Lib.hid (TRow.below RZ_x6.out hB RZ_x6.out.lt)
         have RP_x7 : Hid (TRow x7 (x3.heap.size) 25 (tA)) := Lib.hid (TRow.below RP_x6.out hB RP_x6.out.lt)
         have RQ_x7 : Hid (TRow x7 (x5.heap.size) 25 (tW)) := Lib.hid (TRow.below RQ_x6.out hB RQ_x6.out.lt)
         have BB_x7 : Hid (Below w.heap.size w x7) := Lib.hid (BB_x6.out.trans (hB.mono BB_x6.out.size))
         clear hB RT_x6 RY_x6 RZ_x6 RP_x6 RQ_x6 BB_x6)
      | ((with_reducible show wpList _ _ _ (⟨some 160, .load 25 (.tmp 7), _, _, _, _⟩ :: _) _ _); refine wpList_load_t (by rfl) 25 _ rfl (gt) (by exact rfl) _ Try.underlying25 (by kernel_rfl) 25 RT_x6.out ?_)
      | ((with_reducible show wpList _ _ _ (⟨none, .store 25 (.tmp 24) (.tmp 157), _, _, _, _⟩ :: _) _ _); refine wpList_store_t  rfl 25 _ _ rfl (x5.heap.size) (by exact rfl) (by exact rfl) (by kernel_rfl) 25 (show TRow _ _ _ ⟨0, 0, 0⟩ from alloc_at _ _) ?_; intro x6 HN HO HB
         have RT_x6 : Hid (TRow x6 (gt) 25 (l)) := Lib.hid (TRow.other (TRow.below RT_x5.out ((Below.refl _ _).alloc (Nat.le_refl _) _) RT_x5.out.lt) HO.out (Nat.ne_of_lt RT_x5.out.lt))
         have RY_x6 : Hid (TRow x6 (gy) 25 (tk)) := Lib.hid (TRow.other (TRow.below RY_x5.out ((Below.refl _ _).alloc (Nat.le_refl _) _) RY_x5.out.lt) HO.out (Nat.ne_of_lt RY_x5.out.lt))
         have RZ_x6 : Hid (TRow x6 (x1.heap.size) 25 (tk)) := Lib.hid (TRow.other (TRow.below RZ_x5.out ((Below.refl _ _).alloc (Nat.le_refl _) _) RZ_x5.out.lt) HO.out (Nat.ne_of_lt RZ_x5.out.lt))
         have RP_x6 : Hid (TRow x6 (x3.heap.size) 25 (tA)) := Lib.hid (TRow.other (TRow.below RP_x5.out ((Below.refl _ _).alloc (Nat.le_refl _) _) RP_x5.out.lt) HO.out (Nat.ne_of_lt RP_x5.out.lt))
         have RQ_x6 : Hid (TRow x6 x5.heap.size 25 (tW)) := HN
         have BB_x6 : Hid (Below w.heap.size w x6) := Lib.hid ((BB_x5.out.alloc BB_x5.out.size _).trans (HB.out.mono BB_x5.out.size))
         clear HO HB HN RT_x5 RY_x5 RZ_x5 RP_x5 BB_x5)
      | (go_at_call 13; have hc := BB_x4; clear hc; (with_reducible refine (K3.out _).mono ?_); rintro e x5 ⟨rfl, hB⟩
         have RT_x5 : Hid (TRow x5 (gt) 25 (l)) := Lib.hid (TRow.below RT_x4.out hB RT_x4.out.lt)
         have RY_x5 : Hid (TRow x5 (gy) 25 (tk)) := Lib.hid (TRow.below RY_x4.out hB RY_x4.out.lt)
         have RZ_x5 : Hid (TRow x5 (x1.heap.size) 25 (tk)) := Lib.hid (TRow.below RZ_x4.out hB RZ_x4.out.lt)
         have RP_x5 : Hid (TRow x5 (x3.heap.size) 25 (tA)) := Lib.hid (TRow.below RP_x4.out hB RP_x4.out.lt)
         have BB_x5 : Hid (Below w.heap.size w x5) := Lib.hid (BB_x4.out.trans (hB.mono BB_x4.out.size))
         clear hB RT_x4 RY_x4 RZ_x4 RP_x4 BB_x4)
      | ((with_reducible show wpList _ _ _ (⟨some 154, .load 25 (.tmp 22), _, _, _, _⟩ :: _) _ _); refine wpList_load_t (by rfl) 25 _ rfl (x3.heap.size) (by exact rfl) _ Try.underlying25 (by kernel_rfl) 25 RP_x4.out ?_)
      | ((with_reducible show wpList _ _ _ (⟨none, .store 25 (.tmp 22) (.tmp 151), _, _, _, _⟩ :: _) _ _); refine wpList_store_t  rfl 25 _ _ rfl (x3.heap.size) (by exact rfl) (by exact rfl) (by kernel_rfl) 25 (show TRow _ _ _ ⟨0, 0, 0⟩ from alloc_at _ _) ?_; intro x4 HN HO HB
         have RT_x4 : Hid (TRow x4 (gt) 25 (l)) := Lib.hid (TRow.other (TRow.below RT_x3.out ((Below.refl _ _).alloc (Nat.le_refl _) _) RT_x3.out.lt) HO.out (Nat.ne_of_lt RT_x3.out.lt))
         have RY_x4 : Hid (TRow x4 (gy) 25 (tk)) := Lib.hid (TRow.other (TRow.below RY_x3.out ((Below.refl _ _).alloc (Nat.le_refl _) _) RY_x3.out.lt) HO.out (Nat.ne_of_lt RY_x3.out.lt))
         have RZ_x4 : Hid (TRow x4 (x1.heap.size) 25 (tk)) := Lib.hid (TRow.other (TRow.below RZ_x3.out ((Below.refl _ _).alloc (Nat.le_refl _) _) RZ_x3.out.lt) HO.out (Nat.ne_of_lt RZ_x3.out.lt))
         have RP_x4 : Hid (TRow x4 x3.heap.size 25 (tA)) := HN
         have BB_x4 : Hid (Below w.heap.size w x4) := Lib.hid ((BB_x3.out.alloc BB_x3.out.size _).trans (HB.out.mono BB_x3.out.size))
         clear HO HB HN RT_x3 RY_x3 RZ_x3 BB_x3)
      | (go_at_call 13; have hc := BB_x2; clear hc; (with_reducible refine (K2.out _).mono ?_); rintro e x3 ⟨rfl, hB⟩
         have RT_x3 : Hid (TRow x3 (gt) 25 (l)) := Lib.hid (TRow.below RT_x2.out hB RT_x2.out.lt)
         have RY_x3 : Hid (TRow x3 (gy) 25 (tk)) := Lib.hid (TRow.below RY_x2.out hB RY_x2.out.lt)
         have RZ_x3 : Hid (TRow x3 (x1.heap.size) 25 (tk)) := Lib.hid (TRow.below RZ_x2.out hB RZ_x2.out.lt)
         have BB_x3 : Hid (Below w.heap.size w x3) := Lib.hid (BB_x2.out.trans (hB.mono BB_x2.out.size))
         clear b1 c1
         clear hB RT_x2 RY_x2 RZ_x2 BB_x2)
      | ((with_reducible show wpList _ _ _ (⟨some 148, .load 25 (.tmp 7), _, _, _, _⟩ :: _) _ _); refine wpList_load_t (by rfl) 25 _ rfl (gt) (by exact rfl) _ Try.underlying25 (by kernel_rfl) 25 RT_x2.out ?_)
      | ((with_reducible show wpList _ _ _ (⟨some 126, .load 25 (.tmp 13), _, _, _, _⟩ :: _) _ _); refine wpList_load_t (by rfl) 25 _ rfl (gy) (by exact rfl) _ Try.underlying25 (by kernel_rfl) 25 RY_x2.out ?_)
      | ((with_reducible show wpList _ _ _ (⟨some 125, .load 25 (.tmp 18), _, _, _, _⟩ :: _) _ _); refine wpList_load_t (by rfl) 25 _ rfl (x1.heap.size) (by exact rfl) _ Try.underlying25 (by kernel_rfl) 25 RZ_x2.out ?_)
      | ((with_reducible show wpList _ _ _ (⟨none, .store 25 (.tmp 18) (.tmp 123), _, _, _, _⟩ :: _) _ _); refine wpList_store_t  rfl 25 _ _ rfl (x1.heap.size) (by exact rfl) (by exact rfl) (by kernel_rfl) 25 (show TRow _ _ _ ⟨0, 0, 0⟩ from alloc_at _ _) ?_; intro x2 HN HO HB
         have RT_x2 : Hid (TRow x2 (gt) 25 (l)) := Lib.hid (TRow.other (TRow.below RT_x1.out ((Below.refl _ _).alloc (Nat.le_refl _) _) RT_x1.out.lt) HO.out (Nat.ne_of_lt RT_x1.out.lt))
         have RY_x2 : Hid (TRow x2 (gy) 25 (tk)) := Lib.hid (TRow.other (TRow.below RY_x1.out ((Below.refl _ _).alloc (Nat.le_refl _) _) RY_x1.out.lt) HO.out (Nat.ne_of_lt RY_x1.out.lt))
         have RZ_x2 : Hid (TRow x2 x1.heap.size 25 (tk)) := HN
         have BB_x2 : Hid (Below w.heap.size w x2) := Lib.hid ((BB_x1.out.alloc BB_x1.out.size _).trans (HB.out.mono BB_x1.out.size))
         have b1 : x2.cell? ⟨gy, 1, none⟩ = some (.int .u16 (l.b : Int)) := by have h := RY_x2.out.c1; rw [HTB.out] at h; exact h
         have c1 := RT_x2.out.c1
         clear HO HB HN RT_x1 RY_x1 BB_x1)
      | (go_at_call 13; have hc := BB_wr; clear hc; (with_reducible refine (K1.out _).mono ?_); rintro e x1 ⟨rfl, hB⟩
         have RT_x1 : Hid (TRow x1 (gt) 25 (l)) := Lib.hid (TRow.below RT_wr.out hB RT_wr.out.lt)
         have RY_x1 : Hid (TRow x1 (gy) 25 (tk)) := Lib.hid (TRow.below RY_wr.out hB RY_wr.out.lt)
         have BB_x1 : Hid (Below w.heap.size w x1) := Lib.hid (BB_wr.out.trans (hB.mono BB_wr.out.size))
         clear hB RT_wr RY_wr BB_wr)
      | ((with_reducible show wpList _ _ _ (⟨some 120, .load 25 (.tmp 7), _, _, _, _⟩ :: _) _ _); refine wpList_load_t (by rfl) 25 _ rfl (gt) (by exact rfl) _ Try.underlying25 (by kernel_rfl) 25 RT_wr.out ?_))
              go_ret
              exact ⟨rfl, BB_x8.out⟩

      · have HB2 : Hid (bits .and .u16 (l.c : Int) 2 = 2) := Lib.hid hb2'
        have HA : Hid (l.c / 2 % 2 = 1) := Lib.hid (by have := HAG.out; simp at this; omega)
        clear hb2'
        skip
        go_upto_region 7 with fail
        refine wp_region_noPanic ?_
        refine wp_region_held_drew (S := fun X => Below v.heap.size v X) (by kernel_rfl) ((Below.refl _ v).drew) (fun hHeld => ?_)
        refine' take_ 0 rfl (by kernel_rfl) (by kernel_rfl) (by kernel_rfl) (fun _ _ _ h => h) (by rfl) (fun wS hSw => ?_) hHeld ?_
        rotate_left
        focus (go_simp; (try with_reducible rfl); done)
        try simp only [Act.put, List.setIfInBounds_toArray, List.set_cons_zero, List.set_cons_succ]
        refine' take_ 1 rfl (by kernel_rfl) (by kernel_rfl) (by kernel_rfl) (fun _ _ _ h => h) (by rfl) (fun wS hSw => ?_) hHeld ?_
        rotate_left
        focus (have s0 := (RT_v.out.below hSw RT_v.out.lt).c2; clear hSw; go_simp; (try with_reducible rfl); done)
        try simp only [Act.put, List.setIfInBounds_toArray, List.set_cons_zero, List.set_cons_succ]
        refine' take_ 2 rfl (by kernel_rfl) (by kernel_rfl) (by kernel_rfl) (fun _ _ _ h => h) (by rfl) (fun wS hSw => ?_) hHeld ?_
        rotate_left
        focus (go_simp; rw [HB1.out]; (try with_reducible rfl); done)
        try simp only [Act.put, List.setIfInBounds_toArray, List.set_cons_zero, List.set_cons_succ]
        refine' take_ 3 rfl (by kernel_rfl) (by kernel_rfl) (by kernel_rfl) (fun _ _ _ h => h) (by rfl) (fun wS hSw => ?_) hHeld ?_
        rotate_left
        focus (go_simp; (try with_reducible rfl); done)
        try simp only [Act.put, List.setIfInBounds_toArray, List.set_cons_zero, List.set_cons_succ]
        refine' take_ 4 rfl (by kernel_rfl) (by kernel_rfl) (by kernel_rfl) (fun _ _ _ h => h) (by rfl) (fun wS hSw => ?_) hHeld ?_
        rotate_left
        focus (go_simp; (try with_reducible rfl); done)
        try simp only [Act.put, List.setIfInBounds_toArray, List.set_cons_zero, List.set_cons_succ]
        refine' take_ 5 rfl (by kernel_rfl) (by kernel_rfl) (by kernel_rfl) (fun _ _ _ h => h) (by rfl) (fun wS hSw => ?_) hHeld ?_
        rotate_left
        focus (have s0 := (RT_v.out.below hSw RT_v.out.lt).c2; clear hSw; go_simp; (try with_reducible rfl); done)
        try simp only [Act.put, List.setIfInBounds_toArray, List.set_cons_zero, List.set_cons_succ]
        refine' take_ 6 rfl (by kernel_rfl) (by kernel_rfl) (by kernel_rfl) (fun _ _ _ h => h) (by rfl) (fun wS hSw => ?_) hHeld ?_
        rotate_left
        focus (go_simp; rw [HB2.out]; (try with_reducible rfl); done)
        try simp only [Act.put, List.setIfInBounds_toArray, List.set_cons_zero, List.set_cons_succ]
        refine' take_ 7 rfl (by kernel_rfl) (by kernel_rfl) (by kernel_rfl) (fun _ _ _ h => h) (by rfl) (fun wS hSw => ?_) hHeld ?_
        rotate_left
        focus (go_simp; (try with_reducible rfl); done)
        try simp only [Act.put, List.setIfInBounds_toArray, List.set_cons_zero, List.set_cons_succ]
        refine' take_ 8 rfl (by kernel_rfl) (by kernel_rfl) (by kernel_rfl) (fun _ _ _ h => h) (by rfl) (fun wS hSw => ?_) hHeld ?_
        rotate_left
        focus (go_simp; (try with_reducible rfl); done)
        try simp only [Act.put, List.setIfInBounds_toArray, List.set_cons_zero, List.set_cons_succ]
        refine' take_ 9 rfl (by kernel_rfl) (by kernel_rfl) (by kernel_rfl) (fun _ _ _ h => h) (by rfl) (fun wS hSw => ?_) hHeld ?_
        rotate_left
        focus (go_simp; (try with_reducible rfl); done)
        try simp only [Act.put, List.setIfInBounds_toArray, List.set_cons_zero, List.set_cons_succ]
        refine wpAnyH_done (by kernel_rfl) ?_ _
        refine NoPanic.normal ?_
        obtain ⟨v1, hv1⟩ : ∃ Z, Z = v.drew := ⟨_, rfl⟩
        rw [← hv1]
        have RT_v1 : Hid (TRow v1 gt 25 l) := Lib.hid (by rw [hv1]; exact RT_v.out.below (Below.refl _ _).drew RT_v.out.lt)
        have BB_v1 : Hid (Below w.heap.size w v1) := Lib.hid (by rw [hv1]; exact BB_v.out.drew)
        clear hHeld hv1 RT_v BB_v HB1 HB2
        have z0 := RT_v1.out.c0
        have z1 := RT_v1.out.c1
        have z2 := RT_v1.out.c2
        go_upto_region 11 with fail
        clear z0 z1 z2
        clear dfit
        have LEV := BB_v1.out.size
        have NEV := Nat.ne_of_lt RT_v1.out.lt
        go_wp2_with (first
      | ((with_reducible show wpList _ _ _ (⟨none, .store 25 (.tmp 13) (.tmp 80), _, _, _, _⟩ :: _) _ _); refine wpList_store_t (u := l) rfl 25 _ _ rfl (v1.heap.size) (by exact rfl) (by exact rfl) (by kernel_rfl) 25 (show TRow _ _ _ ⟨0, 0, 0⟩ from alloc_at _ _) ?_; intro w3 HN HO HB
         have RT_w3 : Hid (TRow w3 (gt) 25 (l)) := Lib.hid (TRow.other (TRow.below RT_v1.out ((Below.refl _ _).alloc (Nat.le_refl _) _) RT_v1.out.lt) HO.out (Nat.ne_of_lt RT_v1.out.lt))
         have RY_w3 : Hid (TRow w3 v1.heap.size 25 (l)) := HN
         have BB_w3 : Hid (Below w.heap.size w w3) := Lib.hid ((BB_v1.out.alloc BB_v1.out.size _).trans (HB.out.mono BB_v1.out.size))
         clear HO HB HN RT_v1 BB_v1)
      | ((with_reducible show wpList _ _ _ (⟨some 80, .load 25 (.tmp 7), _, _, _, _⟩ :: _) _ _); refine wpList_load_t (by rfl) 25 _ rfl (gt) (by exact rfl) _ Try.underlying25 (by kernel_rfl) 25 RT_v1.out ?_))
        generalize hgy : v1.heap.size = gy at *
        have LE_RY : Hid (w.heap.size ≤ gy) := Lib.hid LEV
        have NE_RT_RY : Hid (gt ≠ gy) := Lib.hid NEV
        clear hgy LEV NEV
        go_loopw [14, 15] (fun kv iv wr => ∃ k i : Nat, i = k + 1 ∧ i ≤ n + 1 ∧ iv = .int .i64 (i : Int) ∧ kv = .int .i64 (countT l k : Nat) ∧ TRow wr gt 25 l ∧ TRow wr gy 25 (ticksT l k) ∧ Below w.heap.size w wr) (fun _ iv _ => n + 1 - (intOf iv).toNat)
        case atStart => exact ⟨0, 1, rfl, by omega, rfl, rfl, RT_w3.out, RY_w3.out, BB_w3.out⟩
        case round =>
          clear RT_w3 RY_w3 BB_w3
          obtain ⟨k, i, hi, hi2, rfl, rfl, h1, h2, h3⟩ := hrel
          have HI := Lib.hid hi
          have RT_wr := Lib.hid h1
          have BB_wr := Lib.hid h3
          have KU := Lib.hid (fun W => KT.out k W)
          rw [show tickT (ticksT l k) = ticksT l i from by rw [hi]; rfl] at KU
          obtain ⟨tk, htk⟩ : ∃ x, ticksT l k = x := ⟨_, rfl⟩
          obtain ⟨tk2, htk2⟩ : ∃ x, ticksT l i = x := ⟨_, rfl⟩
          obtain ⟨ck, hck⟩ : ∃ x, countT l k = x := ⟨_, rfl⟩
          have hck2 : ck ≤ k := by rw [← hck]; exact countT_le _ _
          rw [htk] at h2
          have RY_wr := Lib.hid h2
          clear h1 h2 h3
          by_cases hlt : i ≤ n
          · have d1 : (i : Int) ≤ (n : Int) := by omega
            have hki : k < 300 := by omega
            have dp : (0 : Int) < (p : Int) := by omega
            by_cases hif : i = f
            · have dif : ((i : Int) == (f : Int)) = true := by simp [hif]
              have hq : asksT (ticksT l k) = true := by rw [asks_before HL.out HR.out k (by rw [HF.out]; omega), HF.out]; exact decide_eq_true (by omega)
              have HCK : Hid (countT l i = ck + 1) := Lib.hid (by rw [HI.out, countT, hq, hck]; rfl)
              rw [hq] at KU
              clear hq
              clear hif
              rw [htk2] at KU
              rw [htk] at KU
              rw [hck]
              clear hck htk hi hlt
              go_wp2_with (first
      | ((with_reducible show wpList _ _ _ (⟨none, .store 25 (.tmp 13) (.tmp 118), _, _, _, _⟩ :: _) _ _); refine wpList_store_t rfl 25 _ _ rfl (gy) (by exact rfl) (by exact rfl) (by kernel_rfl) 25 RY_wb.out ?_; intro wc HN HO HB
         have RT_wc : Hid (TRow wc (gt) 25 (l)) := Lib.hid (TRow.other RT_wb.out HO.out (NE_RT_RY.out))
         have RN_wc : Hid (TRow wc (wa.heap.size) 25 (tk2)) := Lib.hid (TRow.other RN_wb.out HO.out (NE_RN_RY.out))
         have RY_wc : Hid (TRow wc (gy) 25 (tk2)) := HN
         have BB_wc : Hid (Below w.heap.size w wc) := Lib.hid (BB_wb.out.trans (HB.out.mono LE_RY.out))
         clear HO HB HN RT_wb RY_wb RN_wb BB_wb)
      | ((with_reducible show wpList _ _ _ (⟨some 118, .load 25 (.tmp 16), _, _, _, _⟩ :: _) _ _); refine wpList_load_t (by rfl) 25 _ rfl (wa.heap.size) (by exact rfl) _ Try.underlying25 (by kernel_rfl) 25 RN_wb.out ?_)
      | ((with_reducible show wpList _ _ _ (⟨none, .store 25 (.tmp 16) (.tmp 89), _, _, _, _⟩ :: _) _ _); refine wpList_store_t  rfl 25 _ _ rfl (wa.heap.size) (by exact rfl) (by exact rfl) (by kernel_rfl) 25 (show TRow _ _ _ ⟨0, 0, 0⟩ from alloc_at _ _) ?_; intro wb HN HO HB
         have RT_wb : Hid (TRow wb (gt) 25 (l)) := Lib.hid (TRow.other (TRow.below RT_wa.out ((Below.refl _ _).alloc (Nat.le_refl _) _) RT_wa.out.lt) HO.out (Nat.ne_of_lt RT_wa.out.lt))
         have RY_wb : Hid (TRow wb (gy) 25 (tk)) := Lib.hid (TRow.other (TRow.below RY_wa.out ((Below.refl _ _).alloc (Nat.le_refl _) _) RY_wa.out.lt) HO.out (Nat.ne_of_lt RY_wa.out.lt))
         have RN_wb : Hid (TRow wb wa.heap.size 25 (tk2)) := HN
         have BB_wb : Hid (Below w.heap.size w wb) := Lib.hid ((BB_wa.out.alloc BB_wa.out.size _).trans (HB.out.mono BB_wa.out.size))
         have NE_RN_RY := Lib.hid (Nat.ne_of_gt RY_wa.out.lt)
         clear HO HB HN RT_wa RY_wa BB_wa)
      | (go_at_call 11; have hc := BB_wr; clear hc; (with_reducible refine (KU.out _).mono ?_); rintro e wa ⟨rfl, hB⟩
         have RT_wa : Hid (TRow wa (gt) 25 (l)) := Lib.hid (TRow.below RT_wr.out hB RT_wr.out.lt)
         have RY_wa : Hid (TRow wa (gy) 25 (tk)) := Lib.hid (TRow.below RY_wr.out hB RY_wr.out.lt)
         have BB_wa : Hid (Below w.heap.size w wa) := Lib.hid (BB_wr.out.trans (hB.mono BB_wr.out.size))
         clear hB RT_wr RY_wr BB_wr)
      | ((with_reducible show wpList _ _ _ (⟨some 87, .load 25 (.tmp 13), _, _, _, _⟩ :: _) _ _); refine wpList_load_t (by rfl) 25 _ rfl (gy) (by exact rfl) _ Try.underlying25 (by kernel_rfl) 25 RY_wr.out ?_))
              go_roundw
              case rel => exact ⟨i, i + 1, rfl, by omega, by go_num, by rw [HCK.out]; go_num, RT_wc.out, by rw [htk2]; exact RY_wc.out, BB_wc.out⟩
              case measure =>
                simp [intOf]
                omega
            · have dif : ((i : Int) == (f : Int)) = false := by simp; omega
              by_cases hgt : f < i
              · have dgt : (f : Int) < (i : Int) := by omega
                obtain ⟨r, hr1, hr2⟩ : ∃ r : Nat, ((i : Int) - (f : Int)).tmod (p : Int) = (r : Int) ∧ (k + 1 - f) % p = r := ⟨(k + 1 - f) % p, by rw [show (i : Int) - (f : Int) = ((k + 1 - f : Nat) : Int) from by omega, Int.tmod_eq_emod_of_nonneg (by omega)]; rfl, rfl⟩
                have hqq : asksT (ticksT l k) = decide (r = 0) := by rw [asks_again HL.out HR.out HA.out k (by rw [HF.out]; omega), HF.out, HP.out, hr2]
                by_cases hr0 : r = 0
                · subst hr0
                  have hq : asksT (ticksT l k) = true := hqq
                  have HCK : Hid (countT l i = ck + 1) := Lib.hid (by rw [HI.out, countT, hq, hck]; rfl)
                  rw [hq] at KU
                  clear hq
                  clear hqq hr2 hif hgt
                  rw [htk2] at KU
                  rw [htk] at KU
                  rw [hck]
                  clear hck htk hi hlt
                  go_wp2_with (first
      | ((with_reducible show wpList _ _ _ (⟨none, .store 25 (.tmp 13) (.tmp 118), _, _, _, _⟩ :: _) _ _); refine wpList_store_t rfl 25 _ _ rfl (gy) (by exact rfl) (by exact rfl) (by kernel_rfl) 25 RY_wb.out ?_; intro wc HN HO HB
         have RT_wc : Hid (TRow wc (gt) 25 (l)) := Lib.hid (TRow.other RT_wb.out HO.out (NE_RT_RY.out))
         have RN_wc : Hid (TRow wc (wa.heap.size) 25 (tk2)) := Lib.hid (TRow.other RN_wb.out HO.out (NE_RN_RY.out))
         have RY_wc : Hid (TRow wc (gy) 25 (tk2)) := HN
         have BB_wc : Hid (Below w.heap.size w wc) := Lib.hid (BB_wb.out.trans (HB.out.mono LE_RY.out))
         clear HO HB HN RT_wb RY_wb RN_wb BB_wb)
      | ((with_reducible show wpList _ _ _ (⟨some 118, .load 25 (.tmp 16), _, _, _, _⟩ :: _) _ _); refine wpList_load_t (by rfl) 25 _ rfl (wa.heap.size) (by exact rfl) _ Try.underlying25 (by kernel_rfl) 25 RN_wb.out ?_)
      | ((with_reducible show wpList _ _ _ (⟨none, .store 25 (.tmp 16) (.tmp 89), _, _, _, _⟩ :: _) _ _); refine wpList_store_t  rfl 25 _ _ rfl (wa.heap.size) (by exact rfl) (by exact rfl) (by kernel_rfl) 25 (show TRow _ _ _ ⟨0, 0, 0⟩ from alloc_at _ _) ?_; intro wb HN HO HB
         have RT_wb : Hid (TRow wb (gt) 25 (l)) := Lib.hid (TRow.other (TRow.below RT_wa.out ((Below.refl _ _).alloc (Nat.le_refl _) _) RT_wa.out.lt) HO.out (Nat.ne_of_lt RT_wa.out.lt))
         have RY_wb : Hid (TRow wb (gy) 25 (tk)) := Lib.hid (TRow.other (TRow.below RY_wa.out ((Below.refl _ _).alloc (Nat.le_refl _) _) RY_wa.out.lt) HO.out (Nat.ne_of_lt RY_wa.out.lt))
         have RN_wb : Hid (TRow wb wa.heap.size 25 (tk2)) := HN
         have BB_wb : Hid (Below w.heap.size w wb) := Lib.hid ((BB_wa.out.alloc BB_wa.out.size _).trans (HB.out.mono BB_wa.out.size))
         have NE_RN_RY := Lib.hid (Nat.ne_of_gt RY_wa.out.lt)
         clear HO HB HN RT_wa RY_wa BB_wa)
      | (go_at_call 11; have hc := BB_wr; clear hc; (with_reducible refine (KU.out _).mono ?_); rintro e wa ⟨rfl, hB⟩
         have RT_wa : Hid (TRow wa (gt) 25 (l)) := Lib.hid (TRow.below RT_wr.out hB RT_wr.out.lt)
         have RY_wa : Hid (TRow wa (gy) 25 (tk)) := Lib.hid (TRow.below RY_wr.out hB RY_wr.out.lt)
         have BB_wa : Hid (Below w.heap.size w wa) := Lib.hid (BB_wr.out.trans (hB.mono BB_wr.out.size))
         clear hB RT_wr RY_wr BB_wr)
      | ((with_reducible show wpList _ _ _ (⟨some 87, .load 25 (.tmp 13), _, _, _, _⟩ :: _) _ _); refine wpList_load_t (by rfl) 25 _ rfl (gy) (by exact rfl) _ Try.underlying25 (by kernel_rfl) 25 RY_wr.out ?_))
                  go_roundw
                  case rel => exact ⟨i, i + 1, rfl, by omega, by go_num, by rw [HCK.out]; go_num, RT_wc.out, by rw [htk2]; exact RY_wc.out, BB_wc.out⟩
                  case measure =>
                    simp [intOf]
                    omega
                · have dr : ((r : Int) == 0) = false := by simp; omega
                  have hq : asksT (ticksT l k) = false := by rw [hqq]; exact decide_eq_false hr0
                  have HCK : Hid (countT l i = ck) := Lib.hid (by rw [HI.out, countT, hq, hck]; rfl)
                  rw [hq] at KU
                  clear hq
                  clear hqq hr2 hif hgt hr0
                  rw [htk2] at KU
                  rw [htk] at KU
                  rw [hck]
                  clear hck htk hi hlt
                  go_wp2_with (first
      | ((with_reducible show wpList _ _ _ (⟨none, .store 25 (.tmp 13) (.tmp 118), _, _, _, _⟩ :: _) _ _); refine wpList_store_t rfl 25 _ _ rfl (gy) (by exact rfl) (by exact rfl) (by kernel_rfl) 25 RY_wb.out ?_; intro wc HN HO HB
         have RT_wc : Hid (TRow wc (gt) 25 (l)) := Lib.hid (TRow.other RT_wb.out HO.out (NE_RT_RY.out))
         have RN_wc : Hid (TRow wc (wa.heap.size) 25 (tk2)) := Lib.hid (TRow.other RN_wb.out HO.out (NE_RN_RY.out))
         have RY_wc : Hid (TRow wc (gy) 25 (tk2)) := HN
         have BB_wc : Hid (Below w.heap.size w wc) := Lib.hid (BB_wb.out.trans (HB.out.mono LE_RY.out))
         clear HO HB HN RT_wb RY_wb RN_wb BB_wb)
      | ((with_reducible show wpList _ _ _ (⟨some 118, .load 25 (.tmp 16), _, _, _, _⟩ :: _) _ _); refine wpList_load_t (by rfl) 25 _ rfl (wa.heap.size) (by exact rfl) _ Try.underlying25 (by kernel_rfl) 25 RN_wb.out ?_)
      | ((with_reducible show wpList _ _ _ (⟨none, .store 25 (.tmp 16) (.tmp 89), _, _, _, _⟩ :: _) _ _); refine wpList_store_t  rfl 25 _ _ rfl (wa.heap.size) (by exact rfl) (by exact rfl) (by kernel_rfl) 25 (show TRow _ _ _ ⟨0, 0, 0⟩ from alloc_at _ _) ?_; intro wb HN HO HB
         have RT_wb : Hid (TRow wb (gt) 25 (l)) := Lib.hid (TRow.other (TRow.below RT_wa.out ((Below.refl _ _).alloc (Nat.le_refl _) _) RT_wa.out.lt) HO.out (Nat.ne_of_lt RT_wa.out.lt))
         have RY_wb : Hid (TRow wb (gy) 25 (tk)) := Lib.hid (TRow.other (TRow.below RY_wa.out ((Below.refl _ _).alloc (Nat.le_refl _) _) RY_wa.out.lt) HO.out (Nat.ne_of_lt RY_wa.out.lt))
         have RN_wb : Hid (TRow wb wa.heap.size 25 (tk2)) := HN
         have BB_wb : Hid (Below w.heap.size w wb) := Lib.hid ((BB_wa.out.alloc BB_wa.out.size _).trans (HB.out.mono BB_wa.out.size))
         have NE_RN_RY := Lib.hid (Nat.ne_of_gt RY_wa.out.lt)
         clear HO HB HN RT_wa RY_wa BB_wa)
      | (go_at_call 11; have hc := BB_wr; clear hc; (with_reducible refine (KU.out _).mono ?_); rintro e wa ⟨rfl, hB⟩
         have RT_wa : Hid (TRow wa (gt) 25 (l)) := Lib.hid (TRow.below RT_wr.out hB RT_wr.out.lt)
         have RY_wa : Hid (TRow wa (gy) 25 (tk)) := Lib.hid (TRow.below RY_wr.out hB RY_wr.out.lt)
         have BB_wa : Hid (Below w.heap.size w wa) := Lib.hid (BB_wr.out.trans (hB.mono BB_wr.out.size))
         clear hB RT_wr RY_wr BB_wr)
      | ((with_reducible show wpList _ _ _ (⟨some 87, .load 25 (.tmp 13), _, _, _, _⟩ :: _) _ _); refine wpList_load_t (by rfl) 25 _ rfl (gy) (by exact rfl) _ Try.underlying25 (by kernel_rfl) 25 RY_wr.out ?_))
                  go_roundw
                  case rel => exact ⟨i, i + 1, rfl, by omega, by go_num, by rw [HCK.out], RT_wc.out, by rw [htk2]; exact RY_wc.out, BB_wc.out⟩
                  case measure =>
                    simp [intOf]
                    omega
              · have dgt : ¬ (f : Int) < (i : Int) := by omega
                have hq : asksT (ticksT l k) = false := by rw [asks_before HL.out HR.out k (by rw [HF.out]; omega), HF.out]; exact decide_eq_false (by omega)
                have HCK : Hid (countT l i = ck) := Lib.hid (by rw [HI.out, countT, hq, hck]; rfl)
                rw [hq] at KU
                clear hq
                clear hif hgt
                rw [htk2] at KU
                rw [htk] at KU
                rw [hck]
                clear hck htk hi hlt
                go_wp2_with (first
      | ((with_reducible show wpList _ _ _ (⟨none, .store 25 (.tmp 13) (.tmp 118), _, _, _, _⟩ :: _) _ _); refine wpList_store_t rfl 25 _ _ rfl (gy) (by exact rfl) (by exact rfl) (by kernel_rfl) 25 RY_wb.out ?_; intro wc HN HO HB
         have RT_wc : Hid (TRow wc (gt) 25 (l)) := Lib.hid (TRow.other RT_wb.out HO.out (NE_RT_RY.out))
         have RN_wc : Hid (TRow wc (wa.heap.size) 25 (tk2)) := Lib.hid (TRow.other RN_wb.out HO.out (NE_RN_RY.out))
         have RY_wc : Hid (TRow wc (gy) 25 (tk2)) := HN
         have BB_wc : Hid (Below w.heap.size w wc) := Lib.hid (BB_wb.out.trans (HB.out.mono LE_RY.out))
         clear HO HB HN RT_wb RY_wb RN_wb BB_wb)
      | ((with_reducible show wpList _ _ _ (⟨some 118, .load 25 (.tmp 16), _, _, _, _⟩ :: _) _ _); refine wpList_load_t (by rfl) 25 _ rfl (wa.heap.size) (by exact rfl) _ Try.underlying25 (by kernel_rfl) 25 RN_wb.out ?_)
      | ((with_reducible show wpList _ _ _ (⟨none, .store 25 (.tmp 16) (.tmp 89), _, _, _, _⟩ :: _) _ _); refine wpList_store_t  rfl 25 _ _ rfl (wa.heap.size) (by exact rfl) (by exact rfl) (by kernel_rfl) 25 (show TRow _ _ _ ⟨0, 0, 0⟩ from alloc_at _ _) ?_; intro wb HN HO HB
         have RT_wb : Hid (TRow wb (gt) 25 (l)) := Lib.hid (TRow.other (TRow.below RT_wa.out ((Below.refl _ _).alloc (Nat.le_refl _) _) RT_wa.out.lt) HO.out (Nat.ne_of_lt RT_wa.out.lt))
         have RY_wb : Hid (TRow wb (gy) 25 (tk)) := Lib.hid (TRow.other (TRow.below RY_wa.out ((Below.refl _ _).alloc (Nat.le_refl _) _) RY_wa.out.lt) HO.out (Nat.ne_of_lt RY_wa.out.lt))
         have RN_wb : Hid (TRow wb wa.heap.size 25 (tk2)) := HN
         have BB_wb : Hid (Below w.heap.size w wb) := Lib.hid ((BB_wa.out.alloc BB_wa.out.size _).trans (HB.out.mono BB_wa.out.size))
         have NE_RN_RY := Lib.hid (Nat.ne_of_gt RY_wa.out.lt)
         clear HO HB HN RT_wa RY_wa BB_wa)
      | (go_at_call 11; have hc := BB_wr; clear hc; (with_reducible refine (KU.out _).mono ?_); rintro e wa ⟨rfl, hB⟩
         have RT_wa : Hid (TRow wa (gt) 25 (l)) := Lib.hid (TRow.below RT_wr.out hB RT_wr.out.lt)
         have RY_wa : Hid (TRow wa (gy) 25 (tk)) := Lib.hid (TRow.below RY_wr.out hB RY_wr.out.lt)
         have BB_wa : Hid (Below w.heap.size w wa) := Lib.hid (BB_wr.out.trans (hB.mono BB_wr.out.size))
         clear hB RT_wr RY_wr BB_wr)
      | ((with_reducible show wpList _ _ _ (⟨some 87, .load 25 (.tmp 13), _, _, _, _⟩ :: _) _ _); refine wpList_load_t (by rfl) 25 _ rfl (gy) (by exact rfl) _ Try.underlying25 (by kernel_rfl) 25 RY_wr.out ?_))
                go_roundw
                case rel => exact ⟨i, i + 1, rfl, by omega, by go_num, by rw [HCK.out], RT_wc.out, by rw [htk2]; exact RY_wc.out, BB_wc.out⟩
                case measure =>
                  simp [intOf]
                  omega
          · obtain rfl : i = n + 1 := by omega
            obtain rfl : k = n := by omega
            have d1 : ¬ ((k + 1 : Nat) : Int) ≤ (k : Int) := by omega
            rw [htk, hck] at K1
            rw [hck]
            have HTB : Hid (tk.b = l.b) := Lib.hid (by rw [← htk]; exact ticksT_b l k)
            clear hck htk htk2 hi hi2 hlt KU KT
            have hE := run_neq_t
            have hE2 := run_eql_t
            have hG := guard_t
            have dp : (0 : Int) < (p : Int) := by omega
            by_cases hab : f ≤ a + b
            · have dab : (f : Int) ≤ (a : Int) + (b : Int) := by omega
              obtain ⟨qq, hq1, hq2⟩ : ∃ r : Nat, ((a : Int) + (b : Int) - (f : Int)).tdiv (p : Int) = (r : Int) ∧ (a + b - f) / p = r := ⟨(a + b - f) / p, by rw [show (a : Int) + (b : Int) - (f : Int) = ((a + b - f : Nat) : Int) from by omega, Int.tdiv_eq_ediv_of_nonneg (by omega)]; rfl, rfl⟩
              have hqb : qq ≤ 2000000 := by rw [← hq2]; exact Nat.le_trans (Nat.div_le_self _ _) (by omega)
              have dw : (((ca : Int) + (cb : Int)) == (1 : Int) + (qq : Int)) = true := by have h1 := HALL.out; rw [(ticks_again HL.out HR.out HA.out (a + b) (by rw [HF.out]; exact hab)).2, HF.out, HP.out, hq2] at h1; simp; omega
              clear hab hq2
              go_wp2_with (first
      | ((with_reducible show wpList _ _ _ (⟨some 185, .load 25 (.tmp 26), _, _, _, _⟩ :: _) _ _); refine wpList_load_t (by rfl) 25 _ rfl (x7.heap.size) (by exact rfl) _ Try.underlying25 (by kernel_rfl) 25 RW_x8.out ?_)
      | ((with_reducible show wpList _ _ _ (⟨some 184, .load 25 (.tmp 24), _, _, _, _⟩ :: _) _ _); refine wpList_load_t (by rfl) 25 _ rfl (x5.heap.size) (by exact rfl) _ Try.underlying25 (by kernel_rfl) 25 RQ_x8.out ?_)
      | ((with_reducible show wpList _ _ _ (⟨none, .store 25 (.tmp 26) (.tmp 165), _, _, _, _⟩ :: _) _ _); refine wpList_store_t  rfl 25 _ _ rfl (x7.heap.size) (by exact rfl) (by exact rfl) (by kernel_rfl) 25 (show TRow _ _ _ ⟨0, 0, 0⟩ from alloc_at _ _) ?_; intro x8 HN HO HB
         have RT_x8 : Hid (TRow x8 (gt) 25 (l)) := Lib.hid (TRow.other (TRow.below RT_x7.out ((Below.refl _ _).alloc (Nat.le_refl _) _) RT_x7.out.lt) HO.out (Nat.ne_of_lt RT_x7.out.lt))
         have RY_x8 : Hid (TRow x8 (gy) 25 (tk)) := Lib.hid (TRow.other (TRow.below RY_x7.out ((Below.refl _ _).alloc (Nat.le_refl _) _) RY_x7.out.lt) HO.out (Nat.ne_of_lt RY_x7.out.lt))
         have RZ_x8 : Hid (TRow x8 (x1.heap.size) 25 (tk)) := Lib.hid (TRow.other (TRow.below RZ_x7.out ((Below.refl _ _).alloc (Nat.le_refl _) _) RZ_x7.out.lt) HO.out (Nat.ne_of_lt RZ_x7.out.lt))
         have RP_x8 : Hid (TRow x8 (x3.heap.size) 25 (tA)) := Lib.hid (TRow.other (TRow.below RP_x7.out ((Below.refl _ _).alloc (Nat.le_refl _) _) RP_x7.out.lt) HO.out (Nat.ne_of_lt RP_x7.out.lt))
         have RQ_x8 : Hid (TRow x8 (x5.heap.size) 25 (tW)) := Lib.hid (TRow.other (TRow.below RQ_x7.out ((Below.refl _ _).alloc (Nat.le_refl _) _) RQ_x7.out.lt) HO.out (Nat.ne_of_lt RQ_x7.out.lt))
         have RW_x8 : Hid (TRow x8 x7.heap.size 25 (tW)) := HN
         have BB_x8 : Hid (Below w.heap.size w x8) := Lib.hid ((BB_x7.out.alloc BB_x7.out.size _).trans (HB.out.mono BB_x7.out.size))
         clear HO HB HN RT_x7 RY_x7 RZ_x7 RP_x7 RQ_x7 BB_x7)
      | (go_at_call 13; have hc := BB_x6; clear hc; (with_reducible refine (K4.out _).mono ?_); rintro e x7 ⟨rfl, hB⟩
         have RT_x7 : Hid (TRow x7 (gt) 25 (l)) := Lib.hid (TRow.below RT_x6.out hB RT_x6.out.lt)
         have RY_x7 : Hid (TRow x7 (gy) 25 (tk)) := Lib.hid (TRow.below RY_x6.out hB RY_x6.out.lt)
         have RZ_x7 : Hid (TRow x7 (x1.heap.size) 25 (tk)) := Lib.hid (TRow.below RZ_x6.out hB RZ_x6.out.lt)
         have RP_x7 : Hid (TRow x7 (x3.heap.size) 25 (tA)) := Lib.hid (TRow.below RP_x6.out hB RP_x6.out.lt)
         have RQ_x7 : Hid (TRow x7 (x5.heap.size) 25 (tW)) := Lib.hid (TRow.below RQ_x6.out hB RQ_x6.out.lt)
         have BB_x7 : Hid (Below w.heap.size w x7) := Lib.hid (BB_x6.out.trans (hB.mono BB_x6.out.size))
         clear hB RT_x6 RY_x6 RZ_x6 RP_x6 RQ_x6 BB_x6)
      | ((with_reducible show wpList _ _ _ (⟨some 160, .load 25 (.tmp 7), _, _, _, _⟩ :: _) _ _); refine wpList_load_t (by rfl) 25 _ rfl (gt) (by exact rfl) _ Try.underlying25 (by kernel_rfl) 25 RT_x6.out ?_)
      | ((with_reducible show wpList _ _ _ (⟨none, .store 25 (.tmp 24) (.tmp 157), _, _, _, _⟩ :: _) _ _); refine wpList_store_t  rfl 25 _ _ rfl (x5.heap.size) (by exact rfl) (by exact rfl) (by kernel_rfl) 25 (show TRow _ _ _ ⟨0, 0, 0⟩ from alloc_at _ _) ?_; intro x6 HN HO HB
         have RT_x6 : Hid (TRow x6 (gt) 25 (l)) := Lib.hid (TRow.other (TRow.below RT_x5.out ((Below.refl _ _).alloc (Nat.le_refl _) _) RT_x5.out.lt) HO.out (Nat.ne_of_lt RT_x5.out.lt))
         have RY_x6 : Hid (TRow x6 (gy) 25 (tk)) := Lib.hid (TRow.other (TRow.below RY_x5.out ((Below.refl _ _).alloc (Nat.le_refl _) _) RY_x5.out.lt) HO.out (Nat.ne_of_lt RY_x5.out.lt))
         have RZ_x6 : Hid (TRow x6 (x1.heap.size) 25 (tk)) := Lib.hid (TRow.other (TRow.below RZ_x5.out ((Below.refl _ _).alloc (Nat.le_refl _) _) RZ_x5.out.lt) HO.out (Nat.ne_of_lt RZ_x5.out.lt))
         have RP_x6 : Hid (TRow x6 (x3.heap.size) 25 (tA)) := Lib.hid (TRow.other (TRow.below RP_x5.out ((Below.refl _ _).alloc (Nat.le_refl _) _) RP_x5.out.lt) HO.out (Nat.ne_of_lt RP_x5.out.lt))
         have RQ_x6 : Hid (TRow x6 x5.heap.size 25 (tW)) := HN
         have BB_x6 : Hid (Below w.heap.size w x6) := Lib.hid ((BB_x5.out.alloc BB_x5.out.size _).trans (HB.out.mono BB_x5.out.size))
         clear HO HB HN RT_x5 RY_x5 RZ_x5 RP_x5 BB_x5)
      | (go_at_call 13; have hc := BB_x4; clear hc; (with_reducible refine (K3.out _).mono ?_); rintro e x5 ⟨rfl, hB⟩
         have RT_x5 : Hid (TRow x5 (gt) 25 (l)) := Lib.hid (TRow.below RT_x4.out hB RT_x4.out.lt)
         have RY_x5 : Hid (TRow x5 (gy) 25 (tk)) := Lib.hid (TRow.below RY_x4.out hB RY_x4.out.lt)
         have RZ_x5 : Hid (TRow x5 (x1.heap.size) 25 (tk)) := Lib.hid (TRow.below RZ_x4.out hB RZ_x4.out.lt)
         have RP_x5 : Hid (TRow x5 (x3.heap.size) 25 (tA)) := Lib.hid (TRow.below RP_x4.out hB RP_x4.out.lt)
         have BB_x5 : Hid (Below w.heap.size w x5) := Lib.hid (BB_x4.out.trans (hB.mono BB_x4.out.size))
         clear hB RT_x4 RY_x4 RZ_x4 RP_x4 BB_x4)
      | ((with_reducible show wpList _ _ _ (⟨some 154, .load 25 (.tmp 22), _, _, _, _⟩ :: _) _ _); refine wpList_load_t (by rfl) 25 _ rfl (x3.heap.size) (by exact rfl) _ Try.underlying25 (by kernel_rfl) 25 RP_x4.out ?_)
      | ((with_reducible show wpList _ _ _ (⟨none, .store 25 (.tmp 22) (.tmp 151), _, _, _, _⟩ :: _) _ _); refine wpList_store_t  rfl 25 _ _ rfl (x3.heap.size) (by exact rfl) (by exact rfl) (by kernel_rfl) 25 (show TRow _ _ _ ⟨0, 0, 0⟩ from alloc_at _ _) ?_; intro x4 HN HO HB
         have RT_x4 : Hid (TRow x4 (gt) 25 (l)) := Lib.hid (TRow.other (TRow.below RT_x3.out ((Below.refl _ _).alloc (Nat.le_refl _) _) RT_x3.out.lt) HO.out (Nat.ne_of_lt RT_x3.out.lt))
         have RY_x4 : Hid (TRow x4 (gy) 25 (tk)) := Lib.hid (TRow.other (TRow.below RY_x3.out ((Below.refl _ _).alloc (Nat.le_refl _) _) RY_x3.out.lt) HO.out (Nat.ne_of_lt RY_x3.out.lt))
         have RZ_x4 : Hid (TRow x4 (x1.heap.size) 25 (tk)) := Lib.hid (TRow.other (TRow.below RZ_x3.out ((Below.refl _ _).alloc (Nat.le_refl _) _) RZ_x3.out.lt) HO.out (Nat.ne_of_lt RZ_x3.out.lt))
         have RP_x4 : Hid (TRow x4 x3.heap.size 25 (tA)) := HN
         have BB_x4 : Hid (Below w.heap.size w x4) := Lib.hid ((BB_x3.out.alloc BB_x3.out.size _).trans (HB.out.mono BB_x3.out.size))
         clear HO HB HN RT_x3 RY_x3 RZ_x3 BB_x3)
      | (go_at_call 13; have hc := BB_x2; clear hc; (with_reducible refine (K2.out _).mono ?_); rintro e x3 ⟨rfl, hB⟩
         have RT_x3 : Hid (TRow x3 (gt) 25 (l)) := Lib.hid (TRow.below RT_x2.out hB RT_x2.out.lt)
         have RY_x3 : Hid (TRow x3 (gy) 25 (tk)) := Lib.hid (TRow.below RY_x2.out hB RY_x2.out.lt)
         have RZ_x3 : Hid (TRow x3 (x1.heap.size) 25 (tk)) := Lib.hid (TRow.below RZ_x2.out hB RZ_x2.out.lt)
         have BB_x3 : Hid (Below w.heap.size w x3) := Lib.hid (BB_x2.out.trans (hB.mono BB_x2.out.size))
         clear b1 c1
         clear hB RT_x2 RY_x2 RZ_x2 BB_x2)
      | ((with_reducible show wpList _ _ _ (⟨some 148, .load 25 (.tmp 7), _, _, _, _⟩ :: _) _ _); refine wpList_load_t (by rfl) 25 _ rfl (gt) (by exact rfl) _ Try.underlying25 (by kernel_rfl) 25 RT_x2.out ?_)
      | ((with_reducible show wpList _ _ _ (⟨some 126, .load 25 (.tmp 13), _, _, _, _⟩ :: _) _ _); refine wpList_load_t (by rfl) 25 _ rfl (gy) (by exact rfl) _ Try.underlying25 (by kernel_rfl) 25 RY_x2.out ?_)
      | ((with_reducible show wpList _ _ _ (⟨some 125, .load 25 (.tmp 18), _, _, _, _⟩ :: _) _ _); refine wpList_load_t (by rfl) 25 _ rfl (x1.heap.size) (by exact rfl) _ Try.underlying25 (by kernel_rfl) 25 RZ_x2.out ?_)
      | ((with_reducible show wpList _ _ _ (⟨none, .store 25 (.tmp 18) (.tmp 123), _, _, _, _⟩ :: _) _ _); refine wpList_store_t  rfl 25 _ _ rfl (x1.heap.size) (by exact rfl) (by exact rfl) (by kernel_rfl) 25 (show TRow _ _ _ ⟨0, 0, 0⟩ from alloc_at _ _) ?_; intro x2 HN HO HB
         have RT_x2 : Hid (TRow x2 (gt) 25 (l)) := Lib.hid (TRow.other (TRow.below RT_x1.out ((Below.refl _ _).alloc (Nat.le_refl _) _) RT_x1.out.lt) HO.out (Nat.ne_of_lt RT_x1.out.lt))
         have RY_x2 : Hid (TRow x2 (gy) 25 (tk)) := Lib.hid (TRow.other (TRow.below RY_x1.out ((Below.refl _ _).alloc (Nat.le_refl _) _) RY_x1.out.lt) HO.out (Nat.ne_of_lt RY_x1.out.lt))
         have RZ_x2 : Hid (TRow x2 x1.heap.size 25 (tk)) := HN
         have BB_x2 : Hid (Below w.heap.size w x2) := Lib.hid ((BB_x1.out.alloc BB_x1.out.size _).trans (HB.out.mono BB_x1.out.size))
         have b1 : x2.cell? ⟨gy, 1, none⟩ = some (.int .u16 (l.b : Int)) := by have h := RY_x2.out.c1; rw [HTB.out] at h; exact h
         have c1 := RT_x2.out.c1
         clear HO HB HN RT_x1 RY_x1 BB_x1)
      | (go_at_call 13; have hc := BB_wr; clear hc; (with_reducible refine (K1.out _).mono ?_); rintro e x1 ⟨rfl, hB⟩
         have RT_x1 : Hid (TRow x1 (gt) 25 (l)) := Lib.hid (TRow.below RT_wr.out hB RT_wr.out.lt)
         have RY_x1 : Hid (TRow x1 (gy) 25 (tk)) := Lib.hid (TRow.below RY_wr.out hB RY_wr.out.lt)
         have BB_x1 : Hid (Below w.heap.size w x1) := Lib.hid (BB_wr.out.trans (hB.mono BB_wr.out.size))
         clear hB RT_wr RY_wr BB_wr)
      | ((with_reducible show wpList _ _ _ (⟨some 120, .load 25 (.tmp 7), _, _, _, _⟩ :: _) _ _); refine wpList_load_t (by rfl) 25 _ rfl (gt) (by exact rfl) _ Try.underlying25 (by kernel_rfl) 25 RT_wr.out ?_))
              go_ret
              exact ⟨rfl, BB_x8.out⟩
            · have dab : ¬ (f : Int) ≤ (a : Int) + (b : Int) := by omega
              have dw : (((ca : Int) + (cb : Int)) == 0) = true := by have h1 := HALL.out; rw [(ticks_before HL.out HR.out (a + b) (by rw [HF.out]; omega)).2] at h1; simp; omega
              clear hab
              go_wp2_with (first
      | ((with_reducible show wpList _ _ _ (⟨some 185, .load 25 (.tmp 26), _, _, _, _⟩ :: _) _ _); refine wpList_load_t (by rfl) 25 _ rfl (x7.heap.size) (by exact rfl) _ Try.underlying25 (by kernel_rfl) 25 RW_x8.out ?_)
      | ((with_reducible show wpList _ _ _ (⟨some 184, .load 25 (.tmp 24), _, _, _, _⟩ :: _) _ _); refine wpList_load_t (by rfl) 25 _ rfl (x5.heap.size) (by exact rfl) _ Try.underlying25 (by kernel_rfl) 25 RQ_x8.out ?_)
      | ((with_reducible show wpList _ _ _ (⟨none, .store 25 (.tmp 26) (.tmp 165), _, _, _, _⟩ :: _) _ _); refine wpList_store_t  rfl 25 _ _ rfl (x7.heap.size) (by exact rfl) (by exact rfl) (by kernel_rfl) 25 (show TRow _ _ _ ⟨0, 0, 0⟩ from alloc_at _ _) ?_; intro x8 HN HO HB
         have RT_x8 : Hid (TRow x8 (gt) 25 (l)) := Lib.hid (TRow.other (TRow.below RT_x7.out ((Below.refl _ _).alloc (Nat.le_refl _) _) RT_x7.out.lt) HO.out (Nat.ne_of_lt RT_x7.out.lt))
         have RY_x8 : Hid (TRow x8 (gy) 25 (tk)) := Lib.hid (TRow.other (TRow.below RY_x7.out ((Below.refl _ _).alloc (Nat.le_refl _) _) RY_x7.out.lt) HO.out (Nat.ne_of_lt RY_x7.out.lt))
         have RZ_x8 : Hid (TRow x8 (x1.heap.size) 25 (tk)) := Lib.hid (TRow.other (TRow.below RZ_x7.out ((Below.refl _ _).alloc (Nat.le_refl _) _) RZ_x7.out.lt) HO.out (Nat.ne_of_lt RZ_x7.out.lt))
         have RP_x8 : Hid (TRow x8 (x3.heap.size) 25 (tA)) := Lib.hid (TRow.other (TRow.below RP_x7.out ((Below.refl _ _).alloc (Nat.le_refl _) _) RP_x7.out.lt) HO.out (Nat.ne_of_lt RP_x7.out.lt))
         have RQ_x8 : Hid (TRow x8 (x5.heap.size) 25 (tW)) := Lib.hid (TRow.other (TRow.below RQ_x7.out ((Below.refl _ _).alloc (Nat.le_refl _) _) RQ_x7.out.lt) HO.out (Nat.ne_of_lt RQ_x7.out.lt))
         have RW_x8 : Hid (TRow x8 x7.heap.size 25 (tW)) := HN
         have BB_x8 : Hid (Below w.heap.size w x8) := Lib.hid ((BB_x7.out.alloc BB_x7.out.size _).trans (HB.out.mono BB_x7.out.size))
         clear HO HB HN RT_x7 RY_x7 RZ_x7 RP_x7 RQ_x7 BB_x7)
      | (go_at_call 13; have hc := BB_x6; clear hc; (with_reducible refine (K4.out _).mono ?_); rintro e x7 ⟨rfl, hB⟩
         have RT_x7 : Hid (TRow x7 (gt) 25 (l)) := Lib.hid (TRow.below RT_x6.out hB RT_x6.out.lt)
         have RY_x7 : Hid (TRow x7 (gy) 25 (tk)) := Lib.hid (TRow.below RY_x6.out hB RY_x6.out.lt)
         have RZ_x7 : Hid (TRow x7 (x1.heap.size) 25 (tk)) := Lib.hid (TRow.below RZ_x6.out hB RZ_x6.out.lt)
         have RP_x7 : Hid (TRow x7 (x3.heap.size) 25 (tA)) := Lib.hid (TRow.below RP_x6.out hB RP_x6.out.lt)
         have RQ_x7 : Hid (TRow x7 (x5.heap.size) 25 (tW)) := Lib.hid (TRow.below RQ_x6.out hB RQ_x6.out.lt)
         have BB_x7 : Hid (Below w.heap.size w x7) := Lib.hid (BB_x6.out.trans (hB.mono BB_x6.out.size))
         clear hB RT_x6 RY_x6 RZ_x6 RP_x6 RQ_x6 BB_x6)
      | ((with_reducible show wpList _ _ _ (⟨some 160, .load 25 (.tmp 7), _, _, _, _⟩ :: _) _ _); refine wpList_load_t (by rfl) 25 _ rfl (gt) (by exact rfl) _ Try.underlying25 (by kernel_rfl) 25 RT_x6.out ?_)
      | ((with_reducible show wpList _ _ _ (⟨none, .store 25 (.tmp 24) (.tmp 157), _, _, _, _⟩ :: _) _ _); refine wpList_store_t  rfl 25 _ _ rfl (x5.heap.size) (by exact rfl) (by exact rfl) (by kernel_rfl) 25 (show TRow _ _ _ ⟨0, 0, 0⟩ from alloc_at _ _) ?_; intro x6 HN HO HB
         have RT_x6 : Hid (TRow x6 (gt) 25 (l)) := Lib.hid (TRow.other (TRow.below RT_x5.out ((Below.refl _ _).alloc (Nat.le_refl _) _) RT_x5.out.lt) HO.out (Nat.ne_of_lt RT_x5.out.lt))
         have RY_x6 : Hid (TRow x6 (gy) 25 (tk)) := Lib.hid (TRow.other (TRow.below RY_x5.out ((Below.refl _ _).alloc (Nat.le_refl _) _) RY_x5.out.lt) HO.out (Nat.ne_of_lt RY_x5.out.lt))
         have RZ_x6 : Hid (TRow x6 (x1.heap.size) 25 (tk)) := Lib.hid (TRow.other (TRow.below RZ_x5.out ((Below.refl _ _).alloc (Nat.le_refl _) _) RZ_x5.out.lt) HO.out (Nat.ne_of_lt RZ_x5.out.lt))
         have RP_x6 : Hid (TRow x6 (x3.heap.size) 25 (tA)) := Lib.hid (TRow.other (TRow.below RP_x5.out ((Below.refl _ _).alloc (Nat.le_refl _) _) RP_x5.out.lt) HO.out (Nat.ne_of_lt RP_x5.out.lt))
         have RQ_x6 : Hid (TRow x6 x5.heap.size 25 (tW)) := HN
         have BB_x6 : Hid (Below w.heap.size w x6) := Lib.hid ((BB_x5.out.alloc BB_x5.out.size _).trans (HB.out.mono BB_x5.out.size))
         clear HO HB HN RT_x5 RY_x5 RZ_x5 RP_x5 BB_x5)
      | (go_at_call 13; have hc := BB_x4; clear hc; (with_reducible refine (K3.out _).mono ?_); rintro e x5 ⟨rfl, hB⟩
         have RT_x5 : Hid (TRow x5 (gt) 25 (l)) := Lib.hid (TRow.below RT_x4.out hB RT_x4.out.lt)
         have RY_x5 : Hid (TRow x5 (gy) 25 (tk)) := Lib.hid (TRow.below RY_x4.out hB RY_x4.out.lt)
         have RZ_x5 : Hid (TRow x5 (x1.heap.size) 25 (tk)) := Lib.hid (TRow.below RZ_x4.out hB RZ_x4.out.lt)
         have RP_x5 : Hid (TRow x5 (x3.heap.size) 25 (tA)) := Lib.hid (TRow.below RP_x4.out hB RP_x4.out.lt)
         have BB_x5 : Hid (Below w.heap.size w x5) := Lib.hid (BB_x4.out.trans (hB.mono BB_x4.out.size))
         clear hB RT_x4 RY_x4 RZ_x4 RP_x4 BB_x4)
      | ((with_reducible show wpList _ _ _ (⟨some 154, .load 25 (.tmp 22), _, _, _, _⟩ :: _) _ _); refine wpList_load_t (by rfl) 25 _ rfl (x3.heap.size) (by exact rfl) _ Try.underlying25 (by kernel_rfl) 25 RP_x4.out ?_)
      | ((with_reducible show wpList _ _ _ (⟨none, .store 25 (.tmp 22) (.tmp 151), _, _, _, _⟩ :: _) _ _); refine wpList_store_t  rfl 25 _ _ rfl (x3.heap.size) (by exact rfl) (by exact rfl) (by kernel_rfl) 25 (show TRow _ _ _ ⟨0, 0, 0⟩ from alloc_at _ _) ?_; intro x4 HN HO HB
         have RT_x4 : Hid (TRow x4 (gt) 25 (l)) := Lib.hid (TRow.other (TRow.below RT_x3.out ((Below.refl _ _).alloc (Nat.le_refl _) _) RT_x3.out.lt) HO.out (Nat.ne_of_lt RT_x3.out.lt))
         have RY_x4 : Hid (TRow x4 (gy) 25 (tk)) := Lib.hid (TRow.other (TRow.below RY_x3.out ((Below.refl _ _).alloc (Nat.le_refl _) _) RY_x3.out.lt) HO.out (Nat.ne_of_lt RY_x3.out.lt))
         have RZ_x4 : Hid (TRow x4 (x1.heap.size) 25 (tk)) := Lib.hid (TRow.other (TRow.below RZ_x3.out ((Below.refl _ _).alloc (Nat.le_refl _) _) RZ_x3.out.lt) HO.out (Nat.ne_of_lt RZ_x3.out.lt))
         have RP_x4 : Hid (TRow x4 x3.heap.size 25 (tA)) := HN
         have BB_x4 : Hid (Below w.heap.size w x4) := Lib.hid ((BB_x3.out.alloc BB_x3.out.size _).trans (HB.out.mono BB_x3.out.size))
         clear HO HB HN RT_x3 RY_x3 RZ_x3 BB_x3)
      | (go_at_call 13; have hc := BB_x2; clear hc; (with_reducible refine (K2.out _).mono ?_); rintro e x3 ⟨rfl, hB⟩
         have RT_x3 : Hid (TRow x3 (gt) 25 (l)) := Lib.hid (TRow.below RT_x2.out hB RT_x2.out.lt)
         have RY_x3 : Hid (TRow x3 (gy) 25 (tk)) := Lib.hid (TRow.below RY_x2.out hB RY_x2.out.lt)
         have RZ_x3 : Hid (TRow x3 (x1.heap.size) 25 (tk)) := Lib.hid (TRow.below RZ_x2.out hB RZ_x2.out.lt)
         have BB_x3 : Hid (Below w.heap.size w x3) := Lib.hid (BB_x2.out.trans (hB.mono BB_x2.out.size))
         clear b1 c1
         clear hB RT_x2 RY_x2 RZ_x2 BB_x2)
      | ((with_reducible show wpList _ _ _ (⟨some 148, .load 25 (.tmp 7), _, _, _, _⟩ :: _) _ _); refine wpList_load_t (by rfl) 25 _ rfl (gt) (by exact rfl) _ Try.underlying25 (by kernel_rfl) 25 RT_x2.out ?_)
      | ((with_reducible show wpList _ _ _ (⟨some 126, .load 25 (.tmp 13), _, _, _, _⟩ :: _) _ _); refine wpList_load_t (by rfl) 25 _ rfl (gy) (by exact rfl) _ Try.underlying25 (by kernel_rfl) 25 RY_x2.out ?_)
      | ((with_reducible show wpList _ _ _ (⟨some 125, .load 25 (.tmp 18), _, _, _, _⟩ :: _) _ _); refine wpList_load_t (by rfl) 25 _ rfl (x1.heap.size) (by exact rfl) _ Try.underlying25 (by kernel_rfl) 25 RZ_x2.out ?_)
      | ((with_reducible show wpList _ _ _ (⟨none, .store 25 (.tmp 18) (.tmp 123), _, _, _, _⟩ :: _) _ _); refine wpList_store_t  rfl 25 _ _ rfl (x1.heap.size) (by exact rfl) (by exact rfl) (by kernel_rfl) 25 (show TRow _ _ _ ⟨0, 0, 0⟩ from alloc_at _ _) ?_; intro x2 HN HO HB
         have RT_x2 : Hid (TRow x2 (gt) 25 (l)) := Lib.hid (TRow.other (TRow.below RT_x1.out ((Below.refl _ _).alloc (Nat.le_refl _) _) RT_x1.out.lt) HO.out (Nat.ne_of_lt RT_x1.out.lt))
         have RY_x2 : Hid (TRow x2 (gy) 25 (tk)) := Lib.hid (TRow.other (TRow.below RY_x1.out ((Below.refl _ _).alloc (Nat.le_refl _) _) RY_x1.out.lt) HO.out (Nat.ne_of_lt RY_x1.out.lt))
         have RZ_x2 : Hid (TRow x2 x1.heap.size 25 (tk)) := HN
         have BB_x2 : Hid (Below w.heap.size w x2) := Lib.hid ((BB_x1.out.alloc BB_x1.out.size _).trans (HB.out.mono BB_x1.out.size))
         have b1 : x2.cell? ⟨gy, 1, none⟩ = some (.int .u16 (l.b : Int)) := by have h := RY_x2.out.c1; rw [HTB.out] at h; exact h
         have c1 := RT_x2.out.c1
         clear HO HB HN RT_x1 RY_x1 BB_x1)
      | (go_at_call 13; have hc := BB_wr; clear hc; (with_reducible refine (K1.out _).mono ?_); rintro e x1 ⟨rfl, hB⟩
         have RT_x1 : Hid (TRow x1 (gt) 25 (l)) := Lib.hid (TRow.below RT_wr.out hB RT_wr.out.lt)
         have RY_x1 : Hid (TRow x1 (gy) 25 (tk)) := Lib.hid (TRow.below RY_wr.out hB RY_wr.out.lt)
         have BB_x1 : Hid (Below w.heap.size w x1) := Lib.hid (BB_wr.out.trans (hB.mono BB_wr.out.size))
         clear hB RT_wr RY_wr BB_wr)
      | ((with_reducible show wpList _ _ _ (⟨some 120, .load 25 (.tmp 7), _, _, _, _⟩ :: _) _ _); refine wpList_load_t (by rfl) 25 _ rfl (gt) (by exact rfl) _ Try.underlying25 (by kernel_rfl) 25 RT_wr.out ?_))
              go_ret
              exact ⟨rfl, BB_x8.out⟩

end Go.Proofs.Ytgibindoblhkeaa
