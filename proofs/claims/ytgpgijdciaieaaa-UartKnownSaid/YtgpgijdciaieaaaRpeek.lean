/-
  The document's Peek by its contract. Made by wip/genuartref.py.
-/
import Derived.Test.YtgpgijdciaieaaaRmend
namespace Go.Proofs.Ytgpgijdciaieaaa
open Go.RowKit
set_option linter.unusedVariables false
set_option maxRecDepth 100000 in
theorem rPeekU_any : PeekC 21 := by
  intro n bs m cs l c k reg w h hg0 hg1
  have C1 := Lib.hid (fun W => rMendU_any n bs m cs l c k W h)
  have hRl := cutL_le n bs h.hb
  have hTl := cutL_le m cs h.hc
  have hlR : ∀ x ∈ cutL n bs, x < 256 := cutL_lt h.lb
  have hlT : ∀ x ∈ cutL m cs, x < 256 := cutL_lt h.lc
  have hc8 := h.c8
  generalize cutL n bs = R at *
  generalize cutL m cs = T at *
  have hk4 := kM_lt T k
  have hk0 : T = [] → kM T k = 0 := fun h => by rw [h, kM_nil]
  generalize hkk : kM T k = k2 at *
  clear hkk
  obtain ⟨N, p, hN, hp, hp8, hN2, hE1⟩ := ofV_parts R hRl
  obtain ⟨M, q, hM, hq, hq8, hM2, hE2⟩ := ofV_parts T hTl
  have HC1 : Hid (∀ W : World, Calls Try.prog 23 #[uv n bs m cs l c k] W fun x w' => x = .returned (uv N p M q l c k2) ∧ Below W.heap.size W w') := Lib.hid (fun W => by
    have h1 := C1.out W
    unfold uq at h1
    rw [hN, hp, hM, hq] at h1
    exact h1)
  have HM2 := Lib.hid hM2
  have HN2 := Lib.hid hN2
  have HIN := Lib.hid (mended_in (c := c) hRl hTl hN hp hM hq hlR hlT hc8 hk4)
  have HKK : Hid (kM T k2 = k2) := Lib.hid (by by_cases h0 : T = []; (· rw [h0, kM_nil, hk0 h0]); (· exact if_neg (by rintro (h1 | h1); omega; exact h0 h1)))
  clear C1
  have hx : p[0]? = some (R.headD 0) := by rw [← hp]; exact pad_head R
  have hx8 := headD_lt hlR
  have HX : Hid (p[0]? = some (R.headD 0)) := Lib.hid hx
  generalize hxx : R.headD 0 = x at *
  clear hN hp hM hq hE1 hE2 hN2 hM2 hlR hlT hx
  unfold uv
  go_enter Try.func21, Try.ntmps21
  go_upto_region 1 with (fail)
  refine name_one (Q := fun X => Code.wp _ _ _ _ X) ?_
  intro W0 hq1 hB0 hZ0
  have T0 := Lib.hid (On.new h.hb h.hc 46 hq1 hB0)
  clear hq1 hB0 hZ0
  obtain ⟨g, hg⟩ : ∃ g, w.heap.size = g := ⟨_, rfl⟩
  rw [hg] at T0 ⊢
  clear hg
  go_upto_region 2 with (first
      | ((with_reducible show wpList _ _ _ (⟨none, .store 46 (.tmp 2) (.tmp 7), _, _, _, _⟩ :: _) _ _); refine wpList_store_u rfl 46 _ _ rfl g (by exact rfl) (by exact rfl) (by assumption) (by assumption) (by kernel_rfl) 46 T1.out.q ?_; intro WT2 HN HO HB
         have T2 := Lib.hid (T1.out.setG HN.out HO.out HB.out)
         have b1 : WT2.cell? ⟨g, 1, none⟩ = some (.int .u8 (x : Int)) := T2.out.q.b1 0 _ HX.out
         have b0 := T2.out.q.n0
         have b9 := T2.out.q.n9
         have b18 := T2.out.q.c18
         have b19 := T2.out.q.c19
         clear HN HO HB T1)
      | (go_at_call 23; refine (HC1.out _).mono ?_; rintro e WT1 ⟨rfl, hB⟩
         have T1 := Lib.hid (T0.out.under hB)
         clear hB T0)
      | ((with_reducible show wpList _ _ _ (⟨some 6, .load 46 (.tmp 2), _, _, _, _⟩ :: _) _ _); refine wpList_load_u (by rfl) 46 _ rfl g (by exact rfl) _ Try.underlying46 (by kernel_rfl) 46 T0.out.q ?_))
  by_cases h3 : reg = 3
  · subst h3
    have HE : Hid (peekU R T l c 3 = (x : Int)) := Lib.hid (by rw [show peekU R T l c 3 = ((R.headD 0 : Nat) : Int) from if_pos rfl, hxx])
    clear hxx hRl hTl
    go_wp2_with fail
    go_ret
    exact ⟨by rw [HE.out]; rfl, T2.out.b⟩
  by_cases h4 : reg = 4
  · subst h4
    have HE4 : Hid (peekU R T l c 4 = statU R T l) := Lib.hid ((if_neg (by decide)).trans (if_pos rfl))
    clear hxx
    have hr : (0 < N ∧ R ≠ []) ∨ (N = 0 ∧ R = []) := by
      rw [HN2.out]
      cases R with
      | nil => exact .inr ⟨rfl, rfl⟩
      | cons y R => exact .inl ⟨by simp, by simp⟩
    have ht : (M = 8 ∧ T.length = 8) ∨ (M ≠ 8 ∧ T.length ≠ 8) := by
      rw [HM2.out]
      omega
    clear hRl hTl
    rcases hr with ⟨d1, e1⟩ | ⟨d1, e1⟩ <;> rcases ht with ⟨d2, e2⟩ | ⟨d2, e2⟩ <;> cases l
    · have HE : Hid (peekU R T false c 4 = 3) := Lib.hid (HE4.out.trans (by simp [statU, e1, e2]))
      clear e1 e2
      subst d2
      go_wp2_with fail
      go_ret
      exact ⟨by rw [HE.out]; rfl, T2.out.b⟩
    · have HE : Hid (peekU R T true c 4 = 7) := Lib.hid (HE4.out.trans (by simp [statU, e1, e2]))
      clear e1 e2
      subst d2
      go_wp2_with fail
      go_ret
      exact ⟨by rw [HE.out]; rfl, T2.out.b⟩
    · have HE : Hid (peekU R T false c 4 = 1) := Lib.hid (HE4.out.trans (by simp [statU, e1, e2]))
      clear e1 e2
      go_wp2_with fail
      go_ret
      exact ⟨by rw [HE.out]; rfl, T2.out.b⟩
    · have HE : Hid (peekU R T true c 4 = 5) := Lib.hid (HE4.out.trans (by simp [statU, e1, e2]))
      clear e1 e2
      go_wp2_with fail
      go_ret
      exact ⟨by rw [HE.out]; rfl, T2.out.b⟩
    · have HE : Hid (peekU R T false c 4 = 2) := Lib.hid (HE4.out.trans (by simp [statU, e1, e2]))
      clear e1 e2
      subst d1
      subst d2
      go_wp2_with fail
      go_ret
      exact ⟨by rw [HE.out]; rfl, T2.out.b⟩
    · have HE : Hid (peekU R T true c 4 = 6) := Lib.hid (HE4.out.trans (by simp [statU, e1, e2]))
      clear e1 e2
      subst d1
      subst d2
      go_wp2_with fail
      go_ret
      exact ⟨by rw [HE.out]; rfl, T2.out.b⟩
    · have HE : Hid (peekU R T false c 4 = 0) := Lib.hid (HE4.out.trans (by simp [statU, e1, e2]))
      clear e1 e2
      subst d1
      go_wp2_with fail
      go_ret
      exact ⟨by rw [HE.out]; rfl, T2.out.b⟩
    · have HE : Hid (peekU R T true c 4 = 4) := Lib.hid (HE4.out.trans (by simp [statU, e1, e2]))
      clear e1 e2
      subst d1
      go_wp2_with fail
      go_ret
      exact ⟨by rw [HE.out]; rfl, T2.out.b⟩
  by_cases h5 : reg = 5
  · subst h5
    have HE : Hid (peekU R T l c 5 = (c : Int)) := Lib.hid ((if_neg (by decide)).trans ((if_neg (by decide)).trans (if_pos rfl)))
    clear hxx hRl hTl
    go_wp2_with fail
    go_ret
    exact ⟨by rw [HE.out]; rfl, T2.out.b⟩
  · have HE : Hid (peekU R T l c reg = 0) := Lib.hid ((if_neg h3).trans ((if_neg h4).trans (if_neg h5)))
    clear hxx hRl hTl
    go_wp2_with fail
    go_ret
    exact ⟨by rw [HE.out]; rfl, T2.out.b⟩
end Go.Proofs.Ytgpgijdciaieaaa
