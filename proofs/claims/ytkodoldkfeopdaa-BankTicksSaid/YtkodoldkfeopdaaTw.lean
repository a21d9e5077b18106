/-
  BankTicks' walk, if the program's functions are what they must be: true. Made by wip/genbankref.py.
-/
import Derived.Test.YtkodoldkfeopdaaTm
import Derived.Test.YtkodoldkfeopdaaBe
import Derived.Test.YtkodoldkfeopdaaRk
import Derived.Deep.DeepCutAuto
import Derived.Deep.CutBlock
import Derived.Laws.BitsAllLaws
namespace Go.Proofs.Ytkodoldkfeopdaa
open Go.RowKit
set_option linter.unusedVariables false
set_option maxRecDepth 100000
theorem run_load_dev {P : Program} {a : Act} (w : World) (ty : TypeId) (x : Operand) (g off : Nat) (hx : a.eval x = .pointer (some ⟨g, off, none⟩)) (fs : Array Field) (hu : P.underlying ty = some (.struct fs)) (cs : List Value) (hi : (P.info? ty).map (·.size) = some cs.length) (hc : CellsAt w g off cs)
    (dst : Option Tmp) (type : TypeId) (pos : String) (after : Array Edge) (guard : Option (Nat × Bool)) : (execOp a.eval ⟨dst, .load ty x, type, pos, after, guard⟩).run P w = .ok (.value (.agg cs.toArray)) w :=
  run_load_at w ty x g off hx cs _ hc hu rfl hi dst type pos after guard
theorem ua_one (b : Bk) : ∀ u ∈ ucs b, u.oneCell' = true := Ua.uc_one _ _ _ _ _ _ _
theorem ua_ur (b : Bk) : Ua.ur b.R b.T b.l b.c b.k = .agg (ucs b).toArray := rfl
/-- What the uart asked within so many ticks. -/
def askU (b : Bk) (k : Nat) : Nat := if anyU b k = true then 4 else 0
theorem askU_lt (b : Bk) (k : Nat) : askU b k < 256 := by
  unfold askU
  split <;> decide
def ask0 (b : Bk) (n : Nat) : Nat := if 0 < Ti.countT b.t0 n then askU b n ||| 8 else askU b n
def ask1 (b : Bk) (n : Nat) : Nat := if 0 < Ti.countT b.t1 n then ask0 b n ||| 16 else ask0 b n
theorem or_asked : ∀ p : Fin 256, ∀ a b c : Bool, p.val ||| (if b = true then ((if a = true then ((if c = true then 4 else 0) ||| 8) else (if c = true then 4 else 0)) ||| 16) else (if a = true then ((if c = true then 4 else 0) ||| 8) else (if c = true then 4 else 0))) = ((p.val ||| (if a = true then 8 else 0)) ||| (if b = true then 16 else 0)) ||| (if c = true then 4 else 0) := by decide +kernel
theorem asked_p {b : Bk} (h : b.ok) (n : Nat) : b.q.p ||| ask1 b n = (tksB b n).q.p := by
  rw [(ticks_dev h n).2.2.2.2.2.2.2.2.2]
  have e := or_asked ⟨b.q.p, h.q.p⟩ (decide (0 < Ti.countT b.t0 n)) (decide (0 < Ti.countT b.t1 n)) (anyU b n)
  simp only [decide_eq_true_eq] at e
  unfold ask1 ask0 askU
  simp only [decide_eq_true_eq]
  exact e
def askJ (b : Bk) (n j : Nat) : Nat := if j = 0 then askU b n else if j = 1 then ask0 b n else ask1 b n
theorem ask0_lt (b : Bk) (n : Nat) : ask0 b n < 256 := by
  unfold ask0 askU
  split <;> split <;> decide
theorem ask1_lt (b : Bk) (n : Nat) : ask1 b n < 256 := by
  unfold ask1 ask0 askU
  split <;> split <;> split <;> decide
theorem askJ_lt (b : Bk) (n j : Nat) : askJ b n j < 256 := by
  unfold askJ
  split
  · exact askU_lt b n
  · split
    · exact ask0_lt b n
    · exact ask1_lt b n
theorem VRow.oth2 {X X' : World} {t : TypeId} {g r : Nat} {vs : List Value} (h : VRow X g t vs) (ho : ∀ j, j ≠ r → X'.heap[j]? = X.heap[j]?) (hr : g ≠ r) : VRow X' g t vs := (ho g hr).trans h
set_option maxHeartbeats 16000000 in
theorem ticks_walk (H : BankOk) (HU : Ua.TickC 17) (HT : Ti.TicksC 18) (A : Option Addr) (len cap : Nat) (m : Nat) (w : World) (hlen : len ≤ 9223372036854775807) (hA : ActsIn w A len) (hm : m < 256) :
    Calls Try.prog 6 #[.slice A len cap, .int .u8 (m : Int)] w fun e w' => e = .returned (.bool true) ∧ Below w.heap.size w w' := by
  have KW := Lib.hid (works_any H)
  have KP := Lib.hid (fun W (hb : Below w.heap.size w W) => played_any H A len cap W hlen (hA.below hb rfl))
  clear hA
  obtain ⟨N, hN⟩ : ∃ N, m % 101 = N := ⟨_, rfl⟩
  have hN1 : N ≤ 100 := by omega
  have HN1 := Lib.hid hN1
  have hm1 : (m : Int).tmod 101 = (N : Int) := by rw [Int.tmod_eq_emod_of_nonneg (by omega)]; omega
  have hm2 : (m : Int) % 101 = (N : Int) := by omega
  have hmi : (m : Int) < 256 := by omega
  clear hN hN1 hm
  go_enter Try.func6, Try.ntmps6
  have BB_w : Hid (Below w.heap.size w w) := Lib.hid (Below.refl _ _)
  go_upto_region 3 with (first
      | (go_at_call 7; have hc := BB_w; clear hc; (with_reducible refine (KW.out _).mono ?_); rintro e w1 ⟨rfl, hB⟩
         have BB_w1 : Hid (Below w.heap.size w w1) := Lib.hid (BB_w.out.trans (hB.mono BB_w.out.size))
         clear hB  BB_w))
  go_upto_region 4 with (first
      | ((with_reducible show wpList _ _ _ (⟨none, .store 41 (.tmp 5) (.tmp 23), _, _, _, _⟩ :: _) _ _); refine wpList_store_b  rfl 41 _ _ rfl (w2.heap.size) (by exact rfl) (by exact rfl) (by kernel_rfl) 41 (show BRow _ _ _ bare from alloc_at _ _) ?_; intro w3 HN HO HB
         have RB_w3 : Hid (BRow w3 w2.heap.size 41 (b)) := HN
         have BB_w3 : Hid (Below w.heap.size w w3) := Lib.hid ((BB_w2.out.alloc BB_w2.out.size _).trans (HB.out.mono BB_w2.out.size))
         clear HO HB HN  BB_w2)
      | (go_at_call 8; have hc := BB_w1; clear hc; (with_reducible refine (KP.out _ BB_w1.out).mono ?_); rintro e w2 ⟨⟨b, hok, rfl⟩, hB⟩
         have BB_w2 : Hid (Below w.heap.size w w2) := Lib.hid (BB_w1.out.trans (hB.mono BB_w1.out.size))
         have HOK := Lib.hid hok
         clear hok
         clear hB  BB_w1))
  clear KW KP
  obtain ⟨gb, hgb⟩ : ∃ g, w2.heap.size = g := ⟨_, rfl⟩
  rw [hgb] at RB_w3 ⊢
  clear hgb
  simp only [Act.put]
  go_cut [6, 7] (fun xv yv wx => ∃ (Wc : World) (b1 b2 : Nat), Wc = wx ∧ xv = .pointer (some ⟨b1, 0, none⟩) ∧ yv = .pointer (some ⟨b2, 0, none⟩) ∧ BRow Wc b1 41 b ∧ VRow Wc b2 33 (ucs b) ∧ w3.heap.size ≤ b1 ∧ w3.heap.size ≤ b2 ∧ b1 ≠ b2 ∧ Below w3.heap.size w3 Wc)
  case first =>
    refine wp_region_noPanic ?_
    refine wp_region_held_drew (S := fun X => Below w3.heap.size w3 X) (by kernel_rfl) ((Below.refl _ w3).drew) (fun hHeld => ?_)
    refine' take_ 0 rfl (by kernel_rfl) (by kernel_rfl) (by kernel_rfl) (fun _ _ _ h => h) (by rfl) (fun wS hSw => run_load_b wS 41 _ gb rfl _ Try.underlying41 (by kernel_rfl) 41 (BRow.below RB_w3.out hSw RB_w3.out.lt) _ _ _ _ _) hHeld ?_
    try simp only [Act.put, List.setIfInBounds_toArray, List.set_cons_zero, List.set_cons_succ]
    refine' take_ 1 rfl (by kernel_rfl) (by kernel_rfl) (by kernel_rfl) (fun _ _ _ h => h) (by rfl) (fun wS hSw => ?_) hHeld ?_
    rotate_left
    focus (go_simp; (try with_reducible rfl); done)
    try simp only [Act.put, List.setIfInBounds_toArray, List.set_cons_zero, List.set_cons_succ]
    refine' take_ 2 rfl (by kernel_rfl) (by kernel_rfl) (by kernel_rfl) (fun _ _ _ h => h) (by rfl) (fun wS hSw => run_load_dev wS 33 _ gb 3 rfl _ Try.underlying33 (ucs b) (by rw [ucs_length]; kernel_rfl) ((BRow.below RB_w3.out hSw RB_w3.out.lt).ua) _ _ _ _ _) hHeld ?_
    try simp only [Act.put, List.setIfInBounds_toArray, List.set_cons_zero, List.set_cons_succ]
    obtain ⟨Y0, hY0⟩ : ∃ Y, w3.drew = Y := ⟨_, rfl⟩
    rw [hY0] at hHeld ⊢
    clear hY0
    refine wpAnyH_ready (rs := [3, 4]) (by kernel_rfl) (by simp) ?_
    refine AllReadyH.cons rfl (fun K hK => ?_) ?_
    · rw [if_pos (by rfl)]
      refine wp_of_run (w' := Y0.alloc (.cells (bc bare).toArray 41)) (.pointer (some ⟨Y0.heap.size, 0, none⟩)) (by kernel_rfl) ?_
      have h1 := hHeld.alloc hHeld.size (.cells (bc bare).toArray 41)
      have rb := alloc_at Y0 (.cells (bc bare).toArray 41)
      have lrb := hHeld.size
      refine hK.out _ _ h1 (fun _ => ?_)
      clear hK K
      generalize Y0.alloc (.cells (bc bare).toArray 41) = Y1 at *
      show wpAnyH _ _ _ _ _ _ _ (Act.put _ (some 6) _) _
      try simp only [Act.put, List.setIfInBounds_toArray, List.set_cons_zero, List.set_cons_succ]
      refine only_ 4 rfl (by kernel_rfl) (by rfl) (fun K hK => ?_)
      refine wp_of_run (w' := Y1.alloc (.cells (ucs bare).toArray 33)) (.pointer (some ⟨Y1.heap.size, 0, none⟩)) (by kernel_rfl) ?_
      have h2 := h1.alloc h1.size (.cells (ucs bare).toArray 33)
      have ru := alloc_at Y1 (.cells (ucs bare).toArray 33)
      have lru := h1.size
      have ne := Nat.ne_of_lt (VRow.lt (cs := bc bare) rb)
      have rb2 : VRow _ _ 41 (bc bare) := VRow.below (cs := bc bare) rb ((Below.refl _ _).alloc (Nat.le_refl _) (.cells (ucs bare).toArray 33)) (VRow.lt (cs := bc bare) rb)
      refine hK.out _ _ h2 (fun _ => ?_)
      clear hK K
      generalize Y1.alloc (.cells (ucs bare).toArray 33) = Y2 at *
      show wpAnyH _ _ _ _ _ _ _ (Act.put _ (some 7) _) _
      try simp only [Act.put, List.setIfInBounds_toArray, List.set_cons_zero, List.set_cons_succ]
      refine only_ 5 rfl (by kernel_rfl) (by rfl) (fun K hK => ?_)
      refine wp_store_b (b := bare) 41 _ _ rfl (Y0.heap.size) rfl rfl (by kernel_rfl) 41 rb2 ?_
      intro Y3 HN HO HB
      have h3 := h2.trans (HB.out.mono lrb)
      have rb3 := HN.out
      have ru3 : VRow Y3 (Y1.heap.size) 33 (ucs bare) := VRow.oth2 ru HO.out (Ne.symm ne)
      refine hK.out _ _ h3 (fun _ => ?_)
      clear hK K HN HO HB
      show wpAnyH _ _ _ _ _ _ _ (Act.put _ none _) _
      try simp only [Act.put]
      refine only_ 6 rfl (by kernel_rfl) (by rfl) (fun K hK => ?_)
      refine wp_store_v 33 _ _ rfl (Y1.heap.size) rfl (ucs b) rfl (by rw [ucs_length]; kernel_rfl) (ua_one b) 33 (ucs bare) ru3 (by rw [ucs_length, ucs_length]) ?_
      intro Y4 HN HO HB
      have h4 := h3.trans (HB.out.mono lru)
      have ru4 := HN.out
      have rb4 : BRow Y4 (Y0.heap.size) 41 b := VRow.oth2 rb3 HO.out ne
      refine hK.out _ _ h4 (fun _ => ?_)
      clear hK K HN HO HB
      show wpAnyH _ _ _ _ _ _ _ (Act.put _ none _) _
      try simp only [Act.put]
      refine wpAnyH_done (by kernel_rfl) ?_ _
      refine NoPanic.normal ?_
      go_wp2_with fail
      go_meet
      case rel => exact ⟨_, _, _, rfl, rfl, rfl, rb4, ru4, lrb, lru, ne, h4⟩
    refine AllReadyH.cons rfl (fun K hK => ?_) ?_
    · rw [if_pos (by rfl)]
      refine wp_of_run (w' := Y0.alloc (.cells (ucs bare).toArray 33)) (.pointer (some ⟨Y0.heap.size, 0, none⟩)) (by kernel_rfl) ?_
      have h1 := hHeld.alloc hHeld.size (.cells (ucs bare).toArray 33)
      have ru := alloc_at Y0 (.cells (ucs bare).toArray 33)
      have lru := hHeld.size
      refine hK.out _ _ h1 (fun _ => ?_)
      clear hK K
      generalize Y0.alloc (.cells (ucs bare).toArray 33) = Y1 at *
      show wpAnyH _ _ _ _ _ _ _ (Act.put _ (some 7) _) _
      try simp only [Act.put, List.setIfInBounds_toArray, List.set_cons_zero, List.set_cons_succ]
      refine only_ 3 rfl (by kernel_rfl) (by rfl) (fun K hK => ?_)
      refine wp_of_run (w' := Y1.alloc (.cells (bc bare).toArray 41)) (.pointer (some ⟨Y1.heap.size, 0, none⟩)) (by kernel_rfl) ?_
      have h2 := h1.alloc h1.size (.cells (bc bare).toArray 41)
      have rb := alloc_at Y1 (.cells (bc bare).toArray 41)
      have lrb := h1.size
      have ne := Nat.ne_of_lt (VRow.lt (cs := ucs bare) ru)
      have ru2 : VRow _ _ 33 (ucs bare) := VRow.below (cs := ucs bare) ru ((Below.refl _ _).alloc (Nat.le_refl _) (.cells (bc bare).toArray 41)) (VRow.lt (cs := ucs bare) ru)
      refine hK.out _ _ h2 (fun _ => ?_)
      clear hK K
      generalize Y1.alloc (.cells (bc bare).toArray 41) = Y2 at *
      show wpAnyH _ _ _ _ _ _ _ (Act.put _ (some 6) _) _
      try simp only [Act.put, List.setIfInBounds_toArray, List.set_cons_zero, List.set_cons_succ]
      refine only_ 5 rfl (by kernel_rfl) (by rfl) (fun K hK => ?_)
      refine wp_store_b (b := bare) 41 _ _ rfl (Y1.heap.size) rfl rfl (by kernel_rfl) 41 rb ?_
      intro Y3 HN HO HB
      have h3 := h2.trans (HB.out.mono lrb)
      have rb3 := HN.out
      have ru3 : VRow Y3 (Y0.heap.size) 33 (ucs bare) := VRow.oth2 ru2 HO.out (Ne.symm (Ne.symm ne))
      refine hK.out _ _ h3 (fun _ => ?_)
      clear hK K HN HO HB
      show wpAnyH _ _ _ _ _ _ _ (Act.put _ none _) _
      try simp only [Act.put]
      refine only_ 6 rfl (by kernel_rfl) (by rfl) (fun K hK => ?_)
      refine wp_store_v 33 _ _ rfl (Y0.heap.size) rfl (ucs b) rfl (by rw [ucs_length]; kernel_rfl) (ua_one b) 33 (ucs bare) ru3 (by rw [ucs_length, ucs_length]) ?_
      intro Y4 HN HO HB
      have h4 := h3.trans (HB.out.mono lru)
      have ru4 := HN.out
      have rb4 : BRow Y4 (Y1.heap.size) 41 b := VRow.oth2 rb3 HO.out (Ne.symm ne)
      refine hK.out _ _ h4 (fun _ => ?_)
      clear hK K HN HO HB
      show wpAnyH _ _ _ _ _ _ _ (Act.put _ none _) _
      try simp only [Act.put]
      refine wpAnyH_done (by kernel_rfl) ?_ _
      refine NoPanic.normal ?_
      go_wp2_with fail
      go_meet
      case rel => exact ⟨_, _, _, rfl, rfl, rfl, rb4, ru4, lrb, lru, (Ne.symm ne), h4⟩
    exact AllReadyH.nil
  case rest =>
    obtain ⟨W5, g1, g2, rfl, rfl, rfl, q1, q2, q3, q4, q5, q6⟩ := hcut
    have RB_0 := Lib.hid (BRow.below RB_w3.out q6 RB_w3.out.lt)
    have BB_0 := Lib.hid (BB_w3.out.trans (q6.mono BB_w3.out.size))
    have RC_0 := Lib.hid q1
    have RU_0 := Lib.hid q2
    have LE_RC : Hid (w.heap.size ≤ g1) := Lib.hid (Nat.le_trans BB_w3.out.size q3)
    have LE_RU : Hid (w.heap.size ≤ g2) := Lib.hid (Nat.le_trans BB_w3.out.size q4)
    have NE_RB_RC : Hid (gb ≠ g1) := Lib.hid (Nat.ne_of_lt (Nat.lt_of_lt_of_le RB_w3.out.lt q3))
    have NE_RB_RU : Hid (gb ≠ g2) := Lib.hid (Nat.ne_of_lt (Nat.lt_of_lt_of_le RB_w3.out.lt q4))
    have NE_RC_RU : Hid (g1 ≠ g2) := Lib.hid q5
    have NE_RU_RC : Hid (g2 ≠ g1) := Lib.hid q5.symm
    clear q1 q2 q3 q4 q5 q6 RB_w3 BB_w3
    go_wp2_with fail
    go_loopw [8, 9] (fun av iv wx => ∃ k : Nat, k ≤ N ∧ av = .int .u8 ((askU b k : Nat) : Int) ∧ iv = .int .i64 (k : Int) ∧ BRow wx gb 41 b ∧ BRow wx g1 41 (tksB b k) ∧ VRow wx g2 33 (ucs (tksB b k)) ∧ Below w.heap.size w wx) (fun _ iv _ => N - (intOf iv).toNat)
    case atStart => exact ⟨0, by omega, rfl, rfl, RB_0.out, RC_0.out, RU_0.out, BB_0.out⟩
    case round =>
      clear RB_0 RC_0 RU_0 BB_0
      obtain ⟨k, hk, rfl, rfl, q1, q2, q3, q4⟩ := hrel
      obtain ⟨u, hu⟩ : ∃ W, wr = W := ⟨_, rfl⟩
      rw [hu] at q1 q2 q3 q4 ⊢
      clear hu
      have RB_u := Lib.hid q1
      have RC_u := Lib.hid q2
      have RU_u := Lib.hid q3
      have BB_u := Lib.hid q4
      clear q1 q2 q3 q4
      by_cases hlt : k < N
      · have hki : (k : Int) < (N : Int) := by omega
        have HLT := Lib.hid hlt
        have HN2 := Lib.hid HN1.out
        have hk100 : (k : Int) ≤ 100 := by have := HN1.out; omega
        have hok := tksB_ok HOK.out k
        have hdev := tick_dev (tksB b k)
        have hau := askU_lt b k
        have hs : askU b (k + 1) = if Ua.tickQ (tksB b k).T (tksB b k).c (tksB b k).k = true then 4 else askU b k := by
          unfold askU
          rw [anyU]
          cases Ua.tickQ (tksB b k).T (tksB b k).c (tksB b k).k <;> simp
        have HD : Hid (tksB b (k + 1) = tickB (tksB b k)) := Lib.hid rfl
        obtain ⟨c, hc⟩ : ∃ c, tksB b k = c := ⟨_, rfl⟩
        rw [hc] at hok hdev hs HD RC_u RU_u
        have K1 := Lib.hid (fun W => H.tick c W hok)
        have K2 : Hid (∀ W : World, Calls Try.prog 17 #[.agg (ucs c).toArray] W fun e w' => e = .returned (.tuple #[.agg (ucs (tickB c)).toArray, .int .u8 (Ua.tickB c.T c.k : Nat), .bool (Ua.sendsU c.T c.k), .bool (Ua.tickQ c.T c.c c.k)]) ∧ Below W.heap.size W w') := Lib.hid (fun W => by
          have h := Ua.ru_tick (l := c.l) HU W hok.u
          obtain ⟨-, -, -, e4, e5, e6, e7, e8, -⟩ := hdev
          have e : Ua.ur c.R (Ua.tickT c.T c.k) c.l c.c (Ua.tickK c.T c.k) = .agg (ucs (tickB c)).toArray := by rw [← ua_ur, e4, e5, e6, e7, e8]
          rw [e] at h
          exact h)
        obtain ⟨d, hd⟩ : ∃ d, tickB c = d := ⟨_, rfl⟩
        rw [hd] at K1 K2 HD
        obtain ⟨s, hsx⟩ : ∃ x, Ua.tickB c.T c.k = x := ⟨_, rfl⟩
        obtain ⟨is, his⟩ : ∃ x, Ua.sendsU c.T c.k = x := ⟨_, rfl⟩
        obtain ⟨rq, hrq⟩ : ∃ x, Ua.tickQ c.T c.c c.k = x := ⟨_, rfl⟩
        rw [hsx, his] at K1 K2
        rw [hrq] at K2 hs
        obtain ⟨a, hax⟩ : ∃ a, askU b k = a := ⟨_, rfl⟩
        rw [hax] at hau hs ⊢
        have hor : bits .or .u8 (a : Int) 4 = ((a ||| 4 : Nat) : Int) := u8_or_nat a 4 hau (by decide)
        have h44 : ∀ x, askU b x ||| 4 = 4 := fun x => by unfold askU; split <;> rfl
        have HO4 : Hid (a ||| 4 = 4) := Lib.hid (by rw [← hax]; exact h44 k)
        clear h44 hdev hok hc hd hsx his hrq hax hau
        go_upto_region 13 with (first
      | ((with_reducible show wpList _ _ _ (⟨none, .store 33 (.tmp 13) (.tmp 43), _, _, _, _⟩ :: _) _ _); refine wpList_store_v rfl 33 _ _ rfl (r3.heap.size) (by exact rfl) (ucs d) (by exact rfl) (by rw [ucs_length]; kernel_rfl) (ua_one _) 33 (ucs bare) (alloc_at _ _) (by rw [ucs_length, ucs_length]) ?_; intro r4 HN HO HB
         have RB_r4 : Hid (BRow r4 (gb) 41 (b)) := Lib.hid (BRow.other (BRow.below RB_r3.out ((Below.refl _ _).alloc (Nat.le_refl _) _) RB_r3.out.lt) HO.out (Nat.ne_of_lt RB_r3.out.lt))
         have RC_r4 : Hid (BRow r4 (g1) 41 (c)) := Lib.hid (BRow.other (BRow.below RC_r3.out ((Below.refl _ _).alloc (Nat.le_refl _) _) RC_r3.out.lt) HO.out (Nat.ne_of_lt RC_r3.out.lt))
         have RU_r4 : Hid (VRow r4 (g2) 33 (ucs c)) := Lib.hid (VRow.oth2 (VRow.below RU_r3.out ((Below.refl _ _).alloc (Nat.le_refl _) _) RU_r3.out.lt) HO.out (Nat.ne_of_lt RU_r3.out.lt))
         have RD_r4 : Hid (BRow r4 (r1.heap.size) 41 (d)) := Lib.hid (BRow.other (BRow.below RD_r3.out ((Below.refl _ _).alloc (Nat.le_refl _) _) RD_r3.out.lt) HO.out (Nat.ne_of_lt RD_r3.out.lt))
         have RV_r4 : Hid (VRow r4 r3.heap.size 33 (ucs d)) := HN
         have BB_r4 : Hid (Below w.heap.size w r4) := Lib.hid ((BB_r3.out.alloc BB_r3.out.size _).trans (HB.out.mono BB_r3.out.size))
         have NE_RB_RV : Hid (gb ≠ r3.heap.size) := Lib.hid (Nat.ne_of_lt RB_r3.out.lt)
         have NE_RC_RV : Hid (g1 ≠ r3.heap.size) := Lib.hid (Nat.ne_of_lt RC_r3.out.lt)
         have NE_RU_RV : Hid (g2 ≠ r3.heap.size) := Lib.hid (Nat.ne_of_lt RU_r3.out.lt)
         have NE_RD_RV : Hid (r1.heap.size ≠ r3.heap.size) := Lib.hid (Nat.ne_of_lt RD_r3.out.lt)
         have NE_RV_RB : Hid (r3.heap.size ≠ gb) := Lib.hid (Ne.symm NE_RB_RV.out)
         have NE_RV_RC : Hid (r3.heap.size ≠ g1) := Lib.hid (Ne.symm NE_RC_RV.out)
         have NE_RV_RU : Hid (r3.heap.size ≠ g2) := Lib.hid (Ne.symm NE_RU_RV.out)
         have NE_RV_RD : Hid (r3.heap.size ≠ r1.heap.size) := Lib.hid (Ne.symm NE_RD_RV.out)
         clear HO HB HN RB_r3 RC_r3 RU_r3 RD_r3 BB_r3)
      | (go_at_call 17; have hc := BB_r2; clear hc; (with_reducible refine (K2.out _).mono ?_); rintro e r3 ⟨rfl, hB⟩
         have RB_r3 : Hid (BRow r3 (gb) 41 (b)) := Lib.hid (BRow.below RB_r2.out hB RB_r2.out.lt)
         have RC_r3 : Hid (BRow r3 (g1) 41 (c)) := Lib.hid (BRow.below RC_r2.out hB RC_r2.out.lt)
         have RU_r3 : Hid (VRow r3 (g2) 33 (ucs c)) := Lib.hid (VRow.below RU_r2.out hB RU_r2.out.lt)
         have RD_r3 : Hid (BRow r3 (r1.heap.size) 41 (d)) := Lib.hid (BRow.below RD_r2.out hB RD_r2.out.lt)
         have BB_r3 : Hid (Below w.heap.size w r3) := Lib.hid (BB_r2.out.trans (hB.mono BB_r2.out.size))
         clear hB RB_r2 RC_r2 RU_r2 RD_r2 BB_r2)
      | ((with_reducible show wpList _ _ _ (⟨some 41, .load 33 (.tmp 7), _, _, _, _⟩ :: _) _ _); refine wpList_load_v (by rfl) 33 _ rfl (g2) (by exact rfl) _ Try.underlying33 33 (ucs c) RU_r2.out (by rw [ucs_length]; kernel_rfl) ?_)
      | ((with_reducible show wpList _ _ _ (⟨none, .store 41 (.tmp 10) (.tmp 37), _, _, _, _⟩ :: _) _ _); refine wpList_store_b  rfl 41 _ _ rfl (r1.heap.size) (by exact rfl) (by exact rfl) (by kernel_rfl) 41 (show BRow _ _ _ bare from alloc_at _ _) ?_; intro r2 HN HO HB
         have RB_r2 : Hid (BRow r2 (gb) 41 (b)) := Lib.hid (BRow.other (BRow.below RB_r1.out ((Below.refl _ _).alloc (Nat.le_refl _) _) RB_r1.out.lt) HO.out (Nat.ne_of_lt RB_r1.out.lt))
         have RC_r2 : Hid (BRow r2 (g1) 41 (c)) := Lib.hid (BRow.other (BRow.below RC_r1.out ((Below.refl _ _).alloc (Nat.le_refl _) _) RC_r1.out.lt) HO.out (Nat.ne_of_lt RC_r1.out.lt))
         have RU_r2 : Hid (VRow r2 (g2) 33 (ucs c)) := Lib.hid (VRow.oth2 (VRow.below RU_r1.out ((Below.refl _ _).alloc (Nat.le_refl _) _) RU_r1.out.lt) HO.out (Nat.ne_of_lt RU_r1.out.lt))
         have RD_r2 : Hid (BRow r2 r1.heap.size 41 (d)) := HN
         have BB_r2 : Hid (Below w.heap.size w r2) := Lib.hid ((BB_r1.out.alloc BB_r1.out.size _).trans (HB.out.mono BB_r1.out.size))
         have NE_RB_RD : Hid (gb ≠ r1.heap.size) := Lib.hid (Nat.ne_of_lt RB_r1.out.lt)
         have NE_RC_RD : Hid (g1 ≠ r1.heap.size) := Lib.hid (Nat.ne_of_lt RC_r1.out.lt)
         have NE_RU_RD : Hid (g2 ≠ r1.heap.size) := Lib.hid (Nat.ne_of_lt RU_r1.out.lt)
         have NE_RD_RB : Hid (r1.heap.size ≠ gb) := Lib.hid (Ne.symm NE_RB_RD.out)
         have NE_RD_RC : Hid (r1.heap.size ≠ g1) := Lib.hid (Ne.symm NE_RC_RD.out)
         have NE_RD_RU : Hid (r1.heap.size ≠ g2) := Lib.hid (Ne.symm NE_RU_RD.out)
         clear HO HB HN RB_r1 RC_r1 RU_r1 BB_r1)
      | (go_at_call 12; have hc := BB_u; clear hc; (with_reducible refine (K1.out _).mono ?_); rintro e r1 ⟨rfl, hB⟩
         have RB_r1 : Hid (BRow r1 (gb) 41 (b)) := Lib.hid (BRow.below RB_u.out hB RB_u.out.lt)
         have RC_r1 : Hid (BRow r1 (g1) 41 (c)) := Lib.hid (BRow.below RC_u.out hB RC_u.out.lt)
         have RU_r1 : Hid (VRow r1 (g2) 33 (ucs c)) := Lib.hid (VRow.below RU_u.out hB RU_u.out.lt)
         have BB_r1 : Hid (Below w.heap.size w r1) := Lib.hid (BB_u.out.trans (hB.mono BB_u.out.size))
         clear hB RB_u RC_u RU_u BB_u)
      | ((with_reducible show wpList _ _ _ (⟨some 35, .load 41 (.tmp 6), _, _, _, _⟩ :: _) _ _); refine wpList_load_b (by rfl) 41 _ rfl (g1) (by exact rfl) _ Try.underlying41 (by kernel_rfl) 41 RC_u.out ?_))
        cases rq
        · have HS : Hid (askU b (k + 1) = a) := Lib.hid hs
          clear hs
          go_wp2_with (first
        | ((with_reducible show wpList _ _ _ (⟨none, .store 33 (.tmp 7) (.tmp 59), _, _, _, _⟩ :: _) _ _); refine wpList_store_v rfl 33 _ _ rfl (g2) (by exact rfl) (ucs d) (by exact rfl) (by rw [ucs_length]; kernel_rfl) (ua_one _) 33 (ucs c) RU_r5.out (by rw [ucs_length, ucs_length]) ?_; intro r6 HN HO HB
           have RB_r6 : Hid (BRow r6 (gb) 41 (b)) := Lib.hid (BRow.other RB_r5.out HO.out (NE_RB_RU.out))
           have RC_r6 : Hid (BRow r6 (g1) 41 (d)) := Lib.hid (BRow.other RC_r5.out HO.out (NE_RC_RU.out))
           have RD_r6 : Hid (BRow r6 (r1.heap.size) 41 (d)) := Lib.hid (BRow.other RD_r5.out HO.out (NE_RD_RU.out))
           have RV_r6 : Hid (VRow r6 (r3.heap.size) 33 (ucs d)) := Lib.hid (VRow.oth2 RV_r5.out HO.out (NE_RV_RU.out))
           have RU_r6 : Hid (VRow r6 (g2) 33 (ucs d)) := HN
           have BB_r6 : Hid (Below w.heap.size w r6) := Lib.hid (BB_r5.out.trans (HB.out.mono LE_RU.out))
           clear HO HB HN RB_r5 RC_r5 RU_r5 RD_r5 RV_r5 BB_r5)
        | ((with_reducible show wpList _ _ _ (⟨some 59, .load 33 (.tmp 13), _, _, _, _⟩ :: _) _ _); refine wpList_load_v (by rfl) 33 _ rfl (r3.heap.size) (by exact rfl) _ Try.underlying33 33 (ucs d) RV_r5.out (by rw [ucs_length]; kernel_rfl) ?_)
        | ((with_reducible show wpList _ _ _ (⟨none, .store 41 (.tmp 6) (.tmp 58), _, _, _, _⟩ :: _) _ _); refine wpList_store_b rfl 41 _ _ rfl (g1) (by exact rfl) (by exact rfl) (by kernel_rfl) 41 RC_r4.out ?_; intro r5 HN HO HB
           have RB_r5 : Hid (BRow r5 (gb) 41 (b)) := Lib.hid (BRow.other RB_r4.out HO.out (NE_RB_RC.out))
           have RU_r5 : Hid (VRow r5 (g2) 33 (ucs c)) := Lib.hid (VRow.oth2 RU_r4.out HO.out (NE_RU_RC.out))
           have RD_r5 : Hid (BRow r5 (r1.heap.size) 41 (d)) := Lib.hid (BRow.other RD_r4.out HO.out (NE_RD_RC.out))
           have RV_r5 : Hid (VRow r5 (r3.heap.size) 33 (ucs d)) := Lib.hid (VRow.oth2 RV_r4.out HO.out (NE_RV_RC.out))
           have RC_r5 : Hid (BRow r5 (g1) 41 (d)) := HN
           have BB_r5 : Hid (Below w.heap.size w r5) := Lib.hid (BB_r4.out.trans (HB.out.mono LE_RC.out))
           clear HO HB HN RB_r4 RC_r4 RU_r4 RD_r4 RV_r4 BB_r4)
        | ((with_reducible show wpList _ _ _ (⟨some 58, .load 41 (.tmp 10), _, _, _, _⟩ :: _) _ _); refine wpList_load_b (by rfl) 41 _ rfl (r1.heap.size) (by exact rfl) _ Try.underlying41 (by kernel_rfl) 41 RD_r4.out ?_))
          go_roundw
          case rel => exact ⟨k + 1, by have := HLT.out; omega, by first | (rw [HS.out]; done) | (rw [HS.out]; rfl), by go_num, RB_r6.out, by rw [HD.out]; exact RC_r6.out, by rw [HD.out]; exact RU_r6.out, BB_r6.out⟩
          case measure =>
            simp [intOf]
            have := HLT.out
            (try omega)
        · have HS : Hid (askU b (k + 1) = a ||| 4) := Lib.hid (hs.trans HO4.out.symm)
          clear hs
          go_wp2_with (first
        | ((with_reducible show wpList _ _ _ (⟨none, .store 33 (.tmp 7) (.tmp 59), _, _, _, _⟩ :: _) _ _); refine wpList_store_v rfl 33 _ _ rfl (g2) (by exact rfl) (ucs d) (by exact rfl) (by rw [ucs_length]; kernel_rfl) (ua_one _) 33 (ucs c) RU_r5.out (by rw [ucs_length, ucs_length]) ?_; intro r6 HN HO HB
           have RB_r6 : Hid (BRow r6 (gb) 41 (b)) := Lib.hid (BRow.other RB_r5.out HO.out (NE_RB_RU.out))
           have RC_r6 : Hid (BRow r6 (g1) 41 (d)) := Lib.hid (BRow.other RC_r5.out HO.out (NE_RC_RU.out))
           have RD_r6 : Hid (BRow r6 (r1.heap.size) 41 (d)) := Lib.hid (BRow.other RD_r5.out HO.out (NE_RD_RU.out))
           have RV_r6 : Hid (VRow r6 (r3.heap.size) 33 (ucs d)) := Lib.hid (VRow.oth2 RV_r5.out HO.out (NE_RV_RU.out))
           have RU_r6 : Hid (VRow r6 (g2) 33 (ucs d)) := HN
           have BB_r6 : Hid (Below w.heap.size w r6) := Lib.hid (BB_r5.out.trans (HB.out.mono LE_RU.out))
           clear HO HB HN RB_r5 RC_r5 RU_r5 RD_r5 RV_r5 BB_r5)
        | ((with_reducible show wpList _ _ _ (⟨some 59, .load 33 (.tmp 13), _, _, _, _⟩ :: _) _ _); refine wpList_load_v (by rfl) 33 _ rfl (r3.heap.size) (by exact rfl) _ Try.underlying33 33 (ucs d) RV_r5.out (by rw [ucs_length]; kernel_rfl) ?_)
        | ((with_reducible show wpList _ _ _ (⟨none, .store 41 (.tmp 6) (.tmp 58), _, _, _, _⟩ :: _) _ _); refine wpList_store_b rfl 41 _ _ rfl (g1) (by exact rfl) (by exact rfl) (by kernel_rfl) 41 RC_r4.out ?_; intro r5 HN HO HB
           have RB_r5 : Hid (BRow r5 (gb) 41 (b)) := Lib.hid (BRow.other RB_r4.out HO.out (NE_RB_RC.out))
           have RU_r5 : Hid (VRow r5 (g2) 33 (ucs c)) := Lib.hid (VRow.oth2 RU_r4.out HO.out (NE_RU_RC.out))
           have RD_r5 : Hid (BRow r5 (r1.heap.size) 41 (d)) := Lib.hid (BRow.other RD_r4.out HO.out (NE_RD_RC.out))
           have RV_r5 : Hid (VRow r5 (r3.heap.size) 33 (ucs d)) := Lib.hid (VRow.oth2 RV_r4.out HO.out (NE_RV_RC.out))
           have RC_r5 : Hid (BRow r5 (g1) 41 (d)) := HN
           have BB_r5 : Hid (Below w.heap.size w r5) := Lib.hid (BB_r4.out.trans (HB.out.mono LE_RC.out))
           clear HO HB HN RB_r4 RC_r4 RU_r4 RD_r4 RV_r4 BB_r4)
        | ((with_reducible show wpList _ _ _ (⟨some 58, .load 41 (.tmp 10), _, _, _, _⟩ :: _) _ _); refine wpList_load_b (by rfl) 41 _ rfl (r1.heap.size) (by exact rfl) _ Try.underlying41 (by kernel_rfl) 41 RD_r4.out ?_))
          go_roundw
          case rel => exact ⟨k + 1, by have := HLT.out; omega, by first | (rw [HS.out]; done) | (rw [HS.out]; rfl), by go_num, RB_r6.out, by rw [HD.out]; exact RC_r6.out, by rw [HD.out]; exact RU_r6.out, BB_r6.out⟩
          case measure =>
            simp [intOf]
            have := HLT.out
            (try omega)
      · obtain rfl : N = k := by omega
        have hki : ¬ (N : Int) < (N : Int) := by omega
        have hN100 := HN1.out
        have hdv := ticks_dev HOK.out N
        have hap := asked_p HOK.out N
        have hal : ∀ j, askJ b N j < 256 := askJ_lt b N
        have HJ0 : Hid (askJ b N 0 = askU b N) := Lib.hid rfl
        have HJ1 : Hid (askJ b N 1 = if 0 < Ti.countT b.t0 N then askJ b N 0 ||| 8 else askJ b N 0) := Lib.hid rfl
        have HJ2 : Hid (askJ b N 2 = if 0 < Ti.countT b.t1 N then askJ b N 1 ||| 16 else askJ b N 1) := Lib.hid rfl
        have HAP : Hid (b.q.p ||| askJ b N 2 = (tksB b N).q.p) := Lib.hid hap
        obtain ⟨d, hd⟩ : ∃ d, tksB b N = d := ⟨_, rfl⟩
        rw [hd] at hdv RC_u RU_u HAP
        have HDV := Lib.hid hdv
        have HAL := Lib.hid hal
        have KT0 := Lib.hid (fun W => HT b.t0 (N : Int) W HOK.out.t0 (by omega) (by omega))
        have KT1 := Lib.hid (fun W => HT b.t1 (N : Int) W HOK.out.t1 (by omega) (by omega))
        obtain ⟨a0, ha0⟩ : ∃ a, askU b N = a := ⟨_, rfl⟩
        rw [ha0] at HJ0 ⊢
        clear hd hdv hap hal ha0 hlt hk hN100
        go_wp2_with fail
        go_loopw [8, 17] (fun av iv wx => ∃ j : Nat, j ≤ 2 ∧ av = .int .u8 ((askJ b N j : Nat) : Int) ∧ iv = .int .i64 (j : Int) ∧ BRow wx gb 41 b ∧ BRow wx g1 41 d ∧ VRow wx g2 33 (ucs d) ∧ Below w.heap.size w wx) (fun _ iv _ => 2 - (intOf iv).toNat)
        case atStart => exact ⟨0, by omega, by rw [HJ0.out], rfl, RB_u.out, RC_u.out, RU_u.out, BB_u.out⟩
        case round =>
          clear RB_u RC_u RU_u BB_u
          obtain ⟨j, hj, rfl, rfl, q1, q2, q3, q4⟩ := hrel
          obtain ⟨x, hx⟩ : ∃ W, wr = W := ⟨_, rfl⟩
          rw [hx] at q1 q2 q3 q4 ⊢
          clear hx
          have RB_x := Lib.hid q1
          have RC_x := Lib.hid q2
          have RU_x := Lib.hid q3
          have BB_x := Lib.hid q4
          clear q1 q2 q3 q4
          obtain rfl | rfl | rfl : j = 0 ∨ j = 1 ∨ j = 2 := by omega
          · obtain ⟨tt, htt⟩ : ∃ t, Ti.ticksT b.t0 N = t := ⟨_, rfl⟩
            obtain ⟨ct, hct⟩ : ∃ t, Ti.countT b.t0 N = t := ⟨_, rfl⟩
            have KT : Hid (∀ W : World, Calls Try.prog 18 #[Ti.tv b.t0, .int .i64 (N : Int)] W fun e w' => e = .returned (.tuple #[Ti.tv tt, .int .i64 (ct : Int)]) ∧ Below W.heap.size W w') := Lib.hid (fun W => by have h := KT0.out W; rw [Int.toNat_natCast, htt, hct] at h; exact h)
            have HTT : Hid (d.t0 = tt) := Lib.hid (by rw [← htt]; exact HDV.out.2.2.2.2.2.2.1)
            have hs := HJ1.out
            rw [hct] at hs
            have hal := HAL.out 0
            obtain ⟨a, ha⟩ : ∃ a, askJ b N 0 = a := ⟨_, rfl⟩
            rw [ha] at hs hal ⊢
            have hor : bits .or .u8 (a : Int) 8 = ((a ||| 8 : Nat) : Int) := u8_or_nat a 8 hal (by decide)
            clear htt hct ha hal
            go_upto_region 21 with (first
      | ((with_reducible show wpList _ _ _ (⟨none, .store 36 (.tmp 18) (.tmp 73), _, _, _, _⟩ :: _) _ _); refine wpList_store_v rfl 36 _ _ rfl (y1.heap.size) (by exact rfl) (Ti.tc tt) (by exact rfl) (by kernel_rfl) (Ti.tc_one _) 36 (Ti.tc ⟨0, 0, 0⟩) (alloc_at _ _) rfl ?_; intro y2 HN HO HB
         have RB_y2 : Hid (BRow y2 (gb) 41 (b)) := Lib.hid (BRow.other (BRow.below RB_y1.out ((Below.refl _ _).alloc (Nat.le_refl _) _) RB_y1.out.lt) HO.out (Nat.ne_of_lt RB_y1.out.lt))
         have RC_y2 : Hid (BRow y2 (g1) 41 (d)) := Lib.hid (BRow.other (BRow.below RC_y1.out ((Below.refl _ _).alloc (Nat.le_refl _) _) RC_y1.out.lt) HO.out (Nat.ne_of_lt RC_y1.out.lt))
         have RU_y2 : Hid (VRow y2 (g2) 33 (ucs d)) := Lib.hid (VRow.oth2 (VRow.below RU_y1.out ((Below.refl _ _).alloc (Nat.le_refl _) _) RU_y1.out.lt) HO.out (Nat.ne_of_lt RU_y1.out.lt))
         have RT_y2 : Hid (VRow y2 y1.heap.size 36 (Ti.tc tt)) := HN
         have BB_y2 : Hid (Below w.heap.size w y2) := Lib.hid ((BB_y1.out.alloc BB_y1.out.size _).trans (HB.out.mono BB_y1.out.size))
         clear HO HB HN RB_y1 RC_y1 RU_y1 BB_y1)
      | (go_at_call 18; have hc := BB_x; clear hc; (with_reducible refine (KT.out _).mono ?_); rintro e y1 ⟨rfl, hB⟩
         have RB_y1 : Hid (BRow y1 (gb) 41 (b)) := Lib.hid (BRow.below RB_x.out hB RB_x.out.lt)
         have RC_y1 : Hid (BRow y1 (g1) 41 (d)) := Lib.hid (BRow.below RC_x.out hB RC_x.out.lt)
         have RU_y1 : Hid (VRow y1 (g2) 33 (ucs d)) := Lib.hid (VRow.below RU_x.out hB RU_x.out.lt)
         have BB_y1 : Hid (Below w.heap.size w y1) := Lib.hid (BB_x.out.trans (hB.mono BB_x.out.size))
         clear hB RB_x RC_x RU_x BB_x)
      | ((with_reducible show wpList _ _ _ (⟨some 68, .load 36 (.tmp 67), _, _, _, _⟩ :: _) _ _); refine wpList_load_dev (by rfl) 36 _ rfl gb 24 (by exact rfl) _ Try.underlying36 (Ti.tc b.t0) (by kernel_rfl) (BRow.ta RB_x.out) (Ti.tv b.t0) rfl ?_))
            refine wp_region_noPanic ?_
            refine wp_region_held_drew (S := fun X => Below y2.heap.size y2 X) (by kernel_rfl) ((Below.refl _ y2).drew) (fun hHeld => ?_)
            refine' take_ 0 rfl (by kernel_rfl) (by kernel_rfl) (by kernel_rfl) (fun _ _ _ h => h) (by rfl) (fun wS hSw => ?_) hHeld ?_
            rotate_left
            focus (go_simp; (try with_reducible rfl); done)
            try simp only [Act.put, List.setIfInBounds_toArray, List.set_cons_zero, List.set_cons_succ]
            refine' take_ 1 rfl (by kernel_rfl) (by kernel_rfl) (by kernel_rfl) (fun _ _ _ h => h) (by rfl) (fun wS hSw => ?_) hHeld ?_
            rotate_left
            focus (go_simp; (try with_reducible rfl); done)
            try simp only [Act.put, List.setIfInBounds_toArray, List.set_cons_zero, List.set_cons_succ]
            refine' take_ 2 rfl (by kernel_rfl) (by kernel_rfl) (by kernel_rfl) (fun _ _ _ h => h) (by rfl) (fun wS hSw => ?_) hHeld ?_
            rotate_left
            focus (go_simp; (try with_reducible rfl); done)
            try simp only [Act.put, List.setIfInBounds_toArray, List.set_cons_zero, List.set_cons_succ]
            refine' take_ 3 rfl (by kernel_rfl) (by kernel_rfl) (by kernel_rfl) (fun _ _ _ h => h) (by rfl) (fun wS hSw => run_load_dev wS 36 _ g1 24 rfl _ Try.underlying36 (Ti.tc tt) (by rw [show (Ti.tc tt).length = 3 from rfl]; kernel_rfl) ((by have h := (BRow.below RC_y2.out hSw RC_y2.out.lt).ta; rw [HTT.out] at h; exact h)) _ _ _ _ _) hHeld ?_
            try simp only [Act.put, List.setIfInBounds_toArray, List.set_cons_zero, List.set_cons_succ]
            refine' take_ 4 rfl (by kernel_rfl) (by kernel_rfl) (by kernel_rfl) (fun _ _ _ h => h) (by rfl) (fun wS hSw => run_load_v wS 36 _ y1.heap.size rfl _ Try.underlying36 36 (Ti.tc tt) (VRow.below RT_y2.out hSw RT_y2.out.lt) (by kernel_rfl) _ _ _ _ _) hHeld ?_
            try simp only [Act.put, List.setIfInBounds_toArray, List.set_cons_zero, List.set_cons_succ]
            have hneq : ∀ W, (binOp .neq 36 (.agg (Ti.tc tt).toArray) (.agg (Ti.tc tt).toArray)).run Try.prog W = .ok (.bool false) W := fun W => neq_ti W tt
            refine' take_ 5 rfl (by kernel_rfl) (by kernel_rfl) (by kernel_rfl) (fun _ _ _ h => h) (by rfl) (fun wS hSw => ?_) hHeld ?_
            rotate_left
            focus (go_simp; (try rw [guard_ti]); (try go_simp); (try rw [hneq]); (try go_simp); (try with_reducible rfl); done)
            try simp only [Act.put, List.setIfInBounds_toArray, List.set_cons_zero, List.set_cons_succ]
            refine wpAnyH_done (by kernel_rfl) ?_ _
            refine NoPanic.normal ?_
            have RB_z := Lib.hid (BRow.below RB_y2.out hHeld RB_y2.out.lt)
            have RC_z := Lib.hid (BRow.below RC_y2.out hHeld RC_y2.out.lt)
            have RU_z := Lib.hid (VRow.below RU_y2.out hHeld RU_y2.out.lt)
            have BB_z := Lib.hid (BB_y2.out.trans (hHeld.mono BB_y2.out.size))
            clear hHeld hneq RB_y2 RC_y2 RU_y2 BB_y2
            by_cases hct : 0 < ct
            · rw [if_pos hct] at hs
              have hci : 0 < (ct : Int) := by omega
              have HS := Lib.hid hs
              clear hct hs
              go_wp2_with fail
              go_roundw
              case rel => exact ⟨1, by omega, by first | (rw [HS.out]; done) | (rw [HS.out]; rfl), by go_num, RB_z.out, RC_z.out, RU_z.out, BB_z.out⟩
              case measure =>
                simp [intOf]
            · rw [if_neg hct] at hs
              have hci : ¬ 0 < (ct : Int) := by omega
              have HS := Lib.hid hs
              clear hct hs
              go_wp2_with fail
              go_roundw
              case rel => exact ⟨1, by omega, by first | (rw [HS.out]; done) | (rw [HS.out]; rfl), by go_num, RB_z.out, RC_z.out, RU_z.out, BB_z.out⟩
              case measure =>
                simp [intOf]
          · obtain ⟨tt, htt⟩ : ∃ t, Ti.ticksT b.t1 N = t := ⟨_, rfl⟩
            obtain ⟨ct, hct⟩ : ∃ t, Ti.countT b.t1 N = t := ⟨_, rfl⟩
            have KT : Hid (∀ W : World, Calls Try.prog 18 #[Ti.tv b.t1, .int .i64 (N : Int)] W fun e w' => e = .returned (.tuple #[Ti.tv tt, .int .i64 (ct : Int)]) ∧ Below W.heap.size W w') := Lib.hid (fun W => by have h := KT1.out W; rw [Int.toNat_natCast, htt, hct] at h; exact h)
            have HTT : Hid (d.t1 = tt) := Lib.hid (by rw [← htt]; exact HDV.out.2.2.2.2.2.2.2.1)
            have hs := HJ2.out
            rw [hct] at hs
            have hal := HAL.out 1
            obtain ⟨a, ha⟩ : ∃ a, askJ b N 1 = a := ⟨_, rfl⟩
            rw [ha] at hs hal ⊢
            have hor : bits .or .u8 (a : Int) 16 = ((a ||| 16 : Nat) : Int) := u8_or_nat a 16 hal (by decide)
            clear htt hct ha hal
            go_upto_region 21 with (first
      | ((with_reducible show wpList _ _ _ (⟨none, .store 36 (.tmp 18) (.tmp 73), _, _, _, _⟩ :: _) _ _); refine wpList_store_v rfl 36 _ _ rfl (y1.heap.size) (by exact rfl) (Ti.tc tt) (by exact rfl) (by kernel_rfl) (Ti.tc_one _) 36 (Ti.tc ⟨0, 0, 0⟩) (alloc_at _ _) rfl ?_; intro y2 HN HO HB
         have RB_y2 : Hid (BRow y2 (gb) 41 (b)) := Lib.hid (BRow.other (BRow.below RB_y1.out ((Below.refl _ _).alloc (Nat.le_refl _) _) RB_y1.out.lt) HO.out (Nat.ne_of_lt RB_y1.out.lt))
         have RC_y2 : Hid (BRow y2 (g1) 41 (d)) := Lib.hid (BRow.other (BRow.below RC_y1.out ((Below.refl _ _).alloc (Nat.le_refl _) _) RC_y1.out.lt) HO.out (Nat.ne_of_lt RC_y1.out.lt))
         have RU_y2 : Hid (VRow y2 (g2) 33 (ucs d)) := Lib.hid (VRow.oth2 (VRow.below RU_y1.out ((Below.refl _ _).alloc (Nat.le_refl _) _) RU_y1.out.lt) HO.out (Nat.ne_of_lt RU_y1.out.lt))
         have RT_y2 : Hid (VRow y2 y1.heap.size 36 (Ti.tc tt)) := HN
         have BB_y2 : Hid (Below w.heap.size w y2) := Lib.hid ((BB_y1.out.alloc BB_y1.out.size _).trans (HB.out.mono BB_y1.out.size))
         clear HO HB HN RB_y1 RC_y1 RU_y1 BB_y1)
      | (go_at_call 18; have hc := BB_x; clear hc; (with_reducible refine (KT.out _).mono ?_); rintro e y1 ⟨rfl, hB⟩
         have RB_y1 : Hid (BRow y1 (gb) 41 (b)) := Lib.hid (BRow.below RB_x.out hB RB_x.out.lt)
         have RC_y1 : Hid (BRow y1 (g1) 41 (d)) := Lib.hid (BRow.below RC_x.out hB RC_x.out.lt)
         have RU_y1 : Hid (VRow y1 (g2) 33 (ucs d)) := Lib.hid (VRow.below RU_x.out hB RU_x.out.lt)
         have BB_y1 : Hid (Below w.heap.size w y1) := Lib.hid (BB_x.out.trans (hB.mono BB_x.out.size))
         clear hB RB_x RC_x RU_x BB_x)
      | ((with_reducible show wpList _ _ _ (⟨some 68, .load 36 (.tmp 67), _, _, _, _⟩ :: _) _ _); refine wpList_load_dev (by rfl) 36 _ rfl gb 27 (by exact rfl) _ Try.underlying36 (Ti.tc b.t1) (by kernel_rfl) (BRow.tb RB_x.out) (Ti.tv b.t1) rfl ?_))
            refine wp_region_noPanic ?_
            refine wp_region_held_drew (S := fun X => Below y2.heap.size y2 X) (by kernel_rfl) ((Below.refl _ y2).drew) (fun hHeld => ?_)
            refine' take_ 0 rfl (by kernel_rfl) (by kernel_rfl) (by kernel_rfl) (fun _ _ _ h => h) (by rfl) (fun wS hSw => ?_) hHeld ?_
            rotate_left
            focus (go_simp; (try with_reducible rfl); done)
            try simp only [Act.put, List.setIfInBounds_toArray, List.set_cons_zero, List.set_cons_succ]
            refine' take_ 1 rfl (by kernel_rfl) (by kernel_rfl) (by kernel_rfl) (fun _ _ _ h => h) (by rfl) (fun wS hSw => ?_) hHeld ?_
            rotate_left
            focus (go_simp; (try with_reducible rfl); done)
            try simp only [Act.put, List.setIfInBounds_toArray, List.set_cons_zero, List.set_cons_succ]
            refine' take_ 2 rfl (by kernel_rfl) (by kernel_rfl) (by kernel_rfl) (fun _ _ _ h => h) (by rfl) (fun wS hSw => ?_) hHeld ?_
            rotate_left
            focus (go_simp; (try with_reducible rfl); done)
            try simp only [Act.put, List.setIfInBounds_toArray, List.set_cons_zero, List.set_cons_succ]
            refine' take_ 3 rfl (by kernel_rfl) (by kernel_rfl) (by kernel_rfl) (fun _ _ _ h => h) (by rfl) (fun wS hSw => run_load_dev wS 36 _ g1 27 rfl _ Try.underlying36 (Ti.tc tt) (by rw [show (Ti.tc tt).length = 3 from rfl]; kernel_rfl) ((by have h := (BRow.below RC_y2.out hSw RC_y2.out.lt).tb; rw [HTT.out] at h; exact h)) _ _ _ _ _) hHeld ?_
            try simp only [Act.put, List.setIfInBounds_toArray, List.set_cons_zero, List.set_cons_succ]
            refine' take_ 4 rfl (by kernel_rfl) (by kernel_rfl) (by kernel_rfl) (fun _ _ _ h => h) (by rfl) (fun wS hSw => run_load_v wS 36 _ y1.heap.size rfl _ Try.underlying36 36 (Ti.tc tt) (VRow.below RT_y2.out hSw RT_y2.out.lt) (by kernel_rfl) _ _ _ _ _) hHeld ?_
            try simp only [Act.put, List.setIfInBounds_toArray, List.set_cons_zero, List.set_cons_succ]
            have hneq : ∀ W, (binOp .neq 36 (.agg (Ti.tc tt).toArray) (.agg (Ti.tc tt).toArray)).run Try.prog W = .ok (.bool false) W := fun W => neq_ti W tt
            refine' take_ 5 rfl (by kernel_rfl) (by kernel_rfl) (by kernel_rfl) (fun _ _ _ h => h) (by rfl) (fun wS hSw => ?_) hHeld ?_
            rotate_left
            focus (go_simp; (try rw [guard_ti]); (try go_simp); (try rw [hneq]); (try go_simp); (try with_reducible rfl); done)
            try simp only [Act.put, List.setIfInBounds_toArray, List.set_cons_zero, List.set_cons_succ]
            refine wpAnyH_done (by kernel_rfl) ?_ _
            refine NoPanic.normal ?_
            have RB_z := Lib.hid (BRow.below RB_y2.out hHeld RB_y2.out.lt)
            have RC_z := Lib.hid (BRow.below RC_y2.out hHeld RC_y2.out.lt)
            have RU_z := Lib.hid (VRow.below RU_y2.out hHeld RU_y2.out.lt)
            have BB_z := Lib.hid (BB_y2.out.trans (hHeld.mono BB_y2.out.size))
            clear hHeld hneq RB_y2 RC_y2 RU_y2 BB_y2
            by_cases hct : 0 < ct
            · rw [if_pos hct] at hs
              have hci : 0 < (ct : Int) := by omega
              have HS := Lib.hid hs
              clear hct hs
              go_wp2_with fail
              go_roundw
              case rel => exact ⟨2, by omega, by first | (rw [HS.out]; done) | (rw [HS.out]; rfl), by go_num, RB_z.out, RC_z.out, RU_z.out, BB_z.out⟩
              case measure =>
                simp [intOf]
            · rw [if_neg hct] at hs
              have hci : ¬ 0 < (ct : Int) := by omega
              have HS := Lib.hid hs
              clear hct hs
              go_wp2_with fail
              go_roundw
              case rel => exact ⟨2, by omega, by first | (rw [HS.out]; done) | (rw [HS.out]; rfl), by go_num, RB_z.out, RC_z.out, RU_z.out, BB_z.out⟩
              case measure =>
                simp [intOf]
          · obtain ⟨e1, e2, e3, -, -, -, -, -, e9, -⟩ := HDV.out
            have hal := HAL.out 2
            have hap := HAP.out
            have hor : bits .or .u8 (b.q.p : Int) ((askJ b N 2 : Nat) : Int) = ((b.q.p ||| askJ b N 2 : Nat) : Int) := u8_or_nat _ _ HOK.out.q.p hal
            rw [hap] at hor
            obtain ⟨a, ha⟩ : ∃ a, askJ b N 2 = a := ⟨_, rfl⟩
            rw [ha] at hor ⊢
            clear hap hal ha
            have G1 : Hid (∀ X, Below x.heap.size x X → CellsAt X g1 3 (ucs d)) := Lib.hid (fun X h => (BRow.below RC_x.out h RC_x.out.lt).ua)
            have G2 : Hid (∀ X, Below x.heap.size x X → CellsAt X g1 0 (Gp.gc b.o b.i b.e)) := Lib.hid (fun X h => by have q := (BRow.below RC_x.out h RC_x.out.lt).gp; rw [e1, e2, e3] at q; exact q)
            have G3 : Hid (∀ X, Below x.heap.size x X → CellsAt X gb 0 (Gp.gc b.o b.i b.e)) := Lib.hid (fun X h => (BRow.below RB_x.out h RB_x.out.lt).gp)
            have G4 : Hid (∀ X, Below x.heap.size x X → X.cell? ⟨g1, 30, none⟩ = some (.int .u8 (b.q.m : Int))) := Lib.hid (fun X h => by have q := (BRow.below RC_x.out h RC_x.out.lt).iq 0 _ rfl; rw [e9] at q; exact q)
            have G5 : Hid (∀ X, Below x.heap.size x X → X.cell? ⟨gb, 30, none⟩ = some (.int .u8 (b.q.m : Int))) := Lib.hid (fun X h => (BRow.below RB_x.out h RB_x.out.lt).iq 0 _ rfl)
            have G6 : Hid (∀ X, Below x.heap.size x X → X.cell? ⟨g1, 31, none⟩ = some (.int .u8 (d.q.p : Int))) := Lib.hid (fun X h => (BRow.below RC_x.out h RC_x.out.lt).iq 1 _ rfl)
            have G7 : Hid (∀ X, Below x.heap.size x X → X.cell? ⟨gb, 31, none⟩ = some (.int .u8 (b.q.p : Int))) := Lib.hid (fun X h => (BRow.below RB_x.out h RB_x.out.lt).iq 1 _ rfl)
            clear e1 e2 e3 e9
            have u1 := RB_x.out.lt
            have gg1 := fun (op : BinOp) (x y : Operand) (p q : Array Value) (W : World) => guard_ua W op x y p q
            have gg2 := fun (op : BinOp) (x y : Operand) (p q : Array Value) (W : World) => guard_gp W op x y p q
            have ge1 := fun (W : World) => eql_ua W d
            have ge2 := fun (W : World) => eql_gp W b.o b.i b.e
            have c1 := G4.out x (Below.refl _ _)
            have c2 := G5.out x (Below.refl _ _)
            have c3 := G6.out x (Below.refl _ _)
            have c4 := G7.out x (Below.refl _ _)
            clear u1
            go_wp2_with (first
              | ((with_reducible show wpList _ _ _ (⟨some 88, .load 33 (.tmp 87), _, _, _, _⟩ :: _) _ _); refine wpList_load_dev (by kernel_rfl) 33 _ rfl g1 3 (by exact rfl) _ Try.underlying33 (ucs d) (by rw [ucs_length]; kernel_rfl) (G1.out x (Below.refl _ _)) (.agg (ucs d).toArray) rfl ?_)
              | ((with_reducible show wpList _ _ _ (⟨some 89, .load 33 (.tmp 7), _, _, _, _⟩ :: _) _ _); refine wpList_load_v (by kernel_rfl) 33 _ rfl g2 (by exact rfl) _ Try.underlying33 33 (ucs d) RU_x.out (by rw [ucs_length]; kernel_rfl) ?_)
              | ((with_reducible show wpList _ _ _ (⟨some 93, .load 28 (.tmp 92), _, _, _, _⟩ :: _) _ _); refine wpList_load_dev (by kernel_rfl) 28 _ rfl g1 0 (by exact rfl) _ Try.underlying28 (Gp.gc b.o b.i b.e) (by kernel_rfl) (G2.out x (Below.refl _ _)) (.agg (Gp.gc b.o b.i b.e).toArray) rfl ?_)
              | ((with_reducible show wpList _ _ _ (⟨some 95, .load 28 (.tmp 94), _, _, _, _⟩ :: _) _ _); refine wpList_load_dev (by kernel_rfl) 28 _ rfl gb 0 (by exact rfl) _ Try.underlying28 (Gp.gc b.o b.i b.e) (by kernel_rfl) (G3.out x (Below.refl _ _)) (.agg (Gp.gc b.o b.i b.e).toArray) rfl ?_))
            go_ret
            exact ⟨rfl, BB_x.out⟩
end Go.Proofs.Ytkodoldkfeopdaa
