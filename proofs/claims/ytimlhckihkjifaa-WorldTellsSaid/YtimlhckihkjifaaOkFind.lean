/-
  A script is searched for an input's place. Made by wip/genworldok3.py.
-/
import Derived.Test.YtimlhckihkjifaaOkChk
namespace Go.Proofs.Ytimlhckihkjifaa
open Go.RowKit
set_option linter.unusedVariables false
set_option linter.unusedSimpArgs false
/-- A call of a function value. -/
theorem wp_callv_ret {P : Program} {o : Oper} {a : Act} {w : World} {K : Act → World → Prop} {Q : Exit → Act → World → Prop} (f : FuncId) (x : Operand) (hx : a.eval x = .func (.func f) #[] #[]) (xs : List Operand) (ats : Array TypeId)
    (ho : o.op = .call { callee := .value x, args := xs.toArray, argTypes := ats }) (vs : List Value) (hv : xs.map a.eval = vs) (hc : (callFunc f vs.toArray).run P w = .ok (.enter f vs.toArray) w) (val : Value)
    (h : Calls P f vs.toArray w fun e w' => e = .returned val ∧ Below w.heap.size w w') (hk : ∀ w', Below w.heap.size w w' → K (a.put o.dst val) w') : o.wp P a w K Q := by
  unfold Oper.wp execOp
  simp only [ho, resolve, invoke, List.map_toArray, hv]
  simp [hx, Deferred.ofValue, hc]
  rw [Oper.upon_enter]
  refine h.mono ?_
  rintro e w' ⟨rfl, hR⟩
  exact hk w' hR
theorem errI_zero {p : Option In} {x : In} (h : errI p x = 0) : Rng x ∧ ∀ y, p = some y → aheadI y x = true := by
  unfold errI at h
  split at h
  · cases h
  · split at h
    · cases h
    · refine ⟨⟨by omega, by omega, by omega, by omega⟩, fun y hy => ?_⟩
      subst hy
      simp only at h
      split at h
      · assumption
      · cases h
theorem chkG_scr : ∀ (l : List In) (p : Option In) (i : Nat), (chkG p i l).2 = 0 → Scr l ∧ ∀ y, p = some y → ∀ x ∈ l, aheadI y x = true
  | [], p, i, _ => ⟨⟨by simp, List.Pairwise.nil⟩, by simp⟩
  | x :: t, p, i, h => by
    unfold chkG at h
    split at h
    · rename_i h0
      obtain ⟨h1, h2⟩ := chkG_scr t (some x) (i + 1) h
      obtain ⟨e1, e2⟩ := errI_zero h0
      refine ⟨⟨fun z hz => ?_, List.Pairwise.cons (fun z hz => h2 x rfl z hz) h1.srt⟩, fun y hy z hz => ?_⟩
      · rcases List.mem_cons.1 hz with rfl | hz
        · exact e1
        · exact h1.rng z hz
      · rcases List.mem_cons.1 hz with rfl | hz
        · exact e2 y hy
        · exact ahead_trans (e2 y hy) (h2 x rfl z hz)
    · rename_i h0
      exact absurd h h0
theorem chk_scr {l : List In} (h : (chkL l).2 = 0) : Scr l := (chkG_scr l none 0 h).1
theorem Scr.lt {l : List In} (h : Scr l) {p q : Nat} {y z : In} (hpq : p < q) (hp : l[p]? = some y) (hq : l[q]? = some z) : aheadI y z = true := by
  obtain ⟨h1, rfl⟩ := List.getElem?_eq_some_iff.1 hp
  obtain ⟨h2, rfl⟩ := List.getElem?_eq_some_iff.1 hq
  exact List.pairwise_iff_getElem.1 h.srt p q h1 h2 hpq
/-- The place of an input in a script. -/
structure Plc (l : List In) (x : In) (p : Nat) : Prop where
  le : p ≤ l.length
  lo : ∀ q y, q < p → l[q]? = some y → aheadI y x = true
  hi : ∀ q y, p ≤ q → l[q]? = some y → aheadI y x = false
def sameP (l : List In) (x : In) (p : Nat) : Bool := match l[p]? with | some y => ordI y x == 0 | none => false
theorem low_on {l : List In} (h : Scr l) {x z : In} {m : Nat} (hz : l[m]? = some z) (hn : aheadI z x = true) : ∀ q y, q < m + 1 → l[q]? = some y → aheadI y x = true := by
  intro q y hq hy
  rcases Nat.lt_or_ge q m with h1 | h1
  · exact ahead_trans (h.lt h1 hy hz) hn
  · obtain rfl : q = m := by omega
    rw [hy] at hz
    obtain rfl : y = z := by simpa using hz
    exact hn
theorem high_on {l : List In} (h : Scr l) {x z : In} {m : Nat} (hz : l[m]? = some z) (hn : aheadI z x = false) : ∀ q y, m ≤ q → l[q]? = some y → aheadI y x = false := by
  intro q y hq hy
  rcases Nat.lt_or_ge m q with h1 | h1
  · cases hh : aheadI y x with
    | false => rfl
    | true =>
      rw [ahead_trans (h.lt h1 hz hy) hh] at hn
      cases hn
  · obtain rfl : q = m := by omega
    rw [hy] at hz
    obtain rfl : y = z := by simpa using hz
    exact hn
set_option maxHeartbeats 4000000 in
set_option maxRecDepth 100000 in
theorem find_any (A : Option Addr) (cap B : Nat) (l : List In) (x : In) (w : World) (hr : Rd w B A l) (hB : B ≤ w.heap.size) (hlen : l.length ≤ 1000) (hx : x.ok) (hs : Scr l) :
    Calls Try.prog 29 #[.slice A l.length cap, iv x, .func (.func 30) #[] #[]] w fun e w' => (∃ p : Nat, e = .returned (.tuple #[.int .i64 (p : Int), .bool (sameP l x p)]) ∧ Plc l x p) ∧ Below w.heap.size w w' := by
  have HR := Lib.hid hr
  have HBW := Lib.hid hB
  have HXO := Lib.hid hx
  have HSC := Lib.hid hs
  clear hr hB hx hs
  unfold iv
  go_enter Try.func29, Try.ntmps29
  go_upto_region 1 with (fail)
  refine name_one (Q := fun X => Code.wp _ _ _ _ X) ?_
  intro W0 hq1 hB0 hz0
  have R0 : Hid (IRow W0 w.heap.size x) := Lib.hid hq1
  have B0 := Lib.hid hB0
  clear hq1 hB0 hz0
  obtain ⟨g, hg⟩ : ∃ g, w.heap.size = g := ⟨_, rfl⟩
  have HG := Lib.hid hg
  rw [hg] at R0 ⊢
  clear hg
  go_wp2_with fail
  go_loopw [9, 10] (fun iv jv wr => ∃ i j : Nat, i ≤ j ∧ j ≤ l.length ∧ iv = .int .i64 (i : Int) ∧ jv = .int .i64 (j : Int) ∧ (∀ q y, q < i → l[q]? = some y → aheadI y x = true) ∧ (∀ q y, j ≤ q → l[q]? = some y → aheadI y x = false) ∧ IRow wr g x ∧ Below w.heap.size w wr) (fun iv jv _ => (intOf jv).toNat - (intOf iv).toNat)
  case atStart => exact ⟨0, l.length, by omega, by omega, rfl, rfl, by omega, fun q y hq hy => by have := (List.getElem?_eq_some_iff.1 hy).1; omega, R0.out, B0.out⟩
  case round =>
    obtain ⟨i, j, hij, hj, rfl, rfl, hlo, hhi, hro, hb⟩ := hrel
    clear R0 B0
    obtain ⟨u, hu⟩ : ∃ W, wr = W := ⟨_, rfl⟩
    rw [hu] at hro hb ⊢
    have HLO := Lib.hid hlo
    have HHI := Lib.hid hhi
    have RX := Lib.hid hro
    have BB := Lib.hid hb
    clear hlo hhi hro hb hu
    by_cases hlt : i < j
    · obtain ⟨m, hm⟩ : ∃ m, (i + j) / 2 = m := ⟨_, rfl⟩
      have hm1 : i ≤ m := by omega
      have hm2 : m < j := by omega
      obtain ⟨z, hz⟩ : ∃ z, l[m]? = some z := ⟨l[m], List.getElem?_eq_getElem (by omega)⟩
      obtain ⟨a, hA, hab, hok, hc, _⟩ := (HR.out.below BB.out HBW.out).get hz
      subst hA
      have d1 : (i : Int) < (j : Int) := by omega
      have e1 : IntKind.i64.wrap ((i : Int) + (j : Int)) = ((i + j : Nat) : Int) := by rw [IntKind.wrap_i64]; omega
      have e3 : ((i : Int) + (j : Int)) / 2 = (m : Int) := by omega
      have hmn : (m : Int) < (l.length : Int) := by omega
      have HZ := Lib.hid hz
      have HC := Lib.hid hc
      have hab2 := Lib.hid hab
      have BU := Lib.hid (Nat.le_trans HBW.out BB.out.size)
      have KA := Lib.hid (fun W => order_any z x W hok HXO.out)
      have HON := Lib.hid (ord_neg z x)
      obtain ⟨o, ho⟩ : ∃ o, ordI z x = o := ⟨_, rfl⟩
      rw [ho] at KA HON
      clear hz hc hok hab ho
      go_upto_region 5 with fail
      refine wp_region_noPanic ?_
      refine wp_region_held_drew (S := fun X => Below u.heap.size u X) (by kernel_rfl) ((Below.refl _ u).drew) (fun hHeld => ?_)
      refine' take_ 0 rfl (by kernel_rfl) (by kernel_rfl) (by kernel_rfl) (fun _ _ _ h => h) (by rfl) (fun wS hSw => ?_) hHeld ?_
      rotate_left
      focus (go_simp; (try with_reducible rfl); done)
      try simp only [Act.put, List.setIfInBounds_toArray, List.set_cons_zero, List.set_cons_succ]
      refine' take_ 1 rfl (by kernel_rfl) (by kernel_rfl) (by kernel_rfl) (fun _ _ _ h => h) (by rfl) (fun wS hSw => ?_) hHeld ?_
      rotate_left
      focus (go_simp; (try with_reducible rfl); done)
      try simp only [Act.put, List.setIfInBounds_toArray, List.set_cons_zero, List.set_cons_succ]
      refine' take_ 2 rfl (by kernel_rfl) (by kernel_rfl) (by kernel_rfl) (fun _ _ _ h => h) (by rfl) (fun wS hSw => ?_) hHeld ?_
      rotate_left
      focus (go_simp; (try with_reducible rfl); done)
      try simp only [Act.put, List.setIfInBounds_toArray, List.set_cons_zero, List.set_cons_succ]
      refine' take_ 3 rfl (by kernel_rfl) (by kernel_rfl) (by kernel_rfl) (fun _ _ _ h => h) (by rfl) (fun wS hSw => ?_) hHeld ?_
      rotate_left
      focus (go_simp; (try with_reducible rfl); done)
      try simp only [Act.put, List.setIfInBounds_toArray, List.set_cons_zero, List.set_cons_succ]
      refine' take_ 4 rfl (by kernel_rfl) (by kernel_rfl) (by kernel_rfl) (fun _ _ _ h => h) (by rfl) (fun wS hSw => run_load_ad wS 25 _ _ rfl _ _ (HC.out.below hSw (by rw [add_block]; exact Nat.lt_of_lt_of_le hab2.out BU.out)) Try.underlying25 rfl (by kernel_rfl) _ _ _ _ _) hHeld ?_
      try simp only [Act.put, List.setIfInBounds_toArray, List.set_cons_zero, List.set_cons_succ]
      refine' take_ 5 rfl (by kernel_rfl) (by kernel_rfl) (by kernel_rfl) (fun _ _ _ h => h) (by rfl) (fun wS hSw => run_load_v wS 25 _ g rfl _ Try.underlying25 25 (ic x) (IRow.below RX.out hSw RX.out.lt) (by kernel_rfl) _ _ _ _ _) hHeld ?_
      try simp only [Act.put, List.setIfInBounds_toArray, List.set_cons_zero, List.set_cons_succ]
      refine only_ 6 rfl (by kernel_rfl) (by rfl) (fun K hK => ?_)
      obtain ⟨Y, hY⟩ : ∃ Y, u.drew = Y := ⟨_, rfl⟩
      rw [hY] at hHeld ⊢
      clear hY
      refine wp_callv_ret 30 (.tmp 24) rfl _ _ rfl _ (by rfl) (by kernel_rfl) _ (KA.out _) (fun Y2 hB => ?_)
      have hH2 := hHeld.trans (hB.mono hHeld.size)
      refine hK.out _ _ hH2 (fun _ => ?_)
      clear hK K hB hHeld
      have hHeld := hH2
      clear hH2
      show wpAnyH _ _ _ _ _ _ _ (Act.put _ (some 30) _) _
      try simp only [Act.put, List.setIfInBounds_toArray, List.set_cons_zero, List.set_cons_succ]
      refine' take_ 7 rfl (by kernel_rfl) (by kernel_rfl) (by kernel_rfl) (fun _ _ _ h => h) (by rfl) (fun wS hSw => ?_) hHeld ?_
      rotate_left
      focus (go_simp; (try with_reducible rfl); done)
      try simp only [Act.put, List.setIfInBounds_toArray, List.set_cons_zero, List.set_cons_succ]
      refine wpAnyH_done (by kernel_rfl) ?_ _
      refine NoPanic.normal ?_
      have BB2 := Lib.hid (BB.out.trans (hHeld.mono BB.out.size))
      have RX2 := Lib.hid (IRow.below RX.out hHeld RX.out.lt)
      clear hHeld RX BB
      by_cases hneg : o < 0
      · have HLO2 := Lib.hid (low_on HSC.out HZ.out (HON.out.1 hneg))
        go_wp2_with fail
        go_roundw
        case rel => exact ⟨m + 1, j, by omega, hj, by go_num, rfl, HLO2.out, HHI.out, RX2.out, BB2.out⟩
        case measure =>
          simp [intOf]
          (try omega)
      · have HHI2 := Lib.hid (high_on HSC.out HZ.out (by cases hh : aheadI z x with | false => rfl | true => exact absurd (HON.out.2 hh) hneg))
        have hnn : 0 ≤ o := by omega
        go_wp2_with fail
        go_roundw
        case rel => exact ⟨i, m, by omega, by omega, rfl, rfl, HLO.out, HHI2.out, RX2.out, BB2.out⟩
        case measure =>
          simp [intOf]
          (try omega)
    · obtain rfl : i = j := by omega
      have HP : Hid (Plc l x i) := Lib.hid ⟨hj, HLO.out, HHI.out⟩
      have d1 : ¬ (i : Int) < (i : Int) := by omega
      clear hlt
      by_cases hin : i < l.length
      · obtain ⟨z, hz⟩ : ∃ z, l[i]? = some z := ⟨l[i], List.getElem?_eq_getElem hin⟩
        obtain ⟨a, hA, hab, hok, hc, _⟩ := (HR.out.below BB.out HBW.out).get hz
        subst hA
        have d2 : (i : Int) < (l.length : Int) := by omega
        have HC := Lib.hid hc
        have hab2 := Lib.hid hab
        have BU := Lib.hid (Nat.le_trans HBW.out BB.out.size)
        have KA := Lib.hid (fun W => order_any z x W hok HXO.out)
        have HE : Hid (sameP l x i = (ordI z x == 0)) := Lib.hid (by unfold sameP; rw [hz])
        obtain ⟨o, ho⟩ : ∃ o, ordI z x = o := ⟨_, rfl⟩
        rw [ho] at KA HE
        clear hz hc hok hab ho hin
        go_upto_region 8 with fail
        refine wp_region_noPanic ?_
        refine wp_region_held_drew (S := fun X => Below u.heap.size u X) (by kernel_rfl) ((Below.refl _ u).drew) (fun hHeld => ?_)
        refine' take_ 0 rfl (by kernel_rfl) (by kernel_rfl) (by kernel_rfl) (fun _ _ _ h => h) (by rfl) (fun wS hSw => ?_) hHeld ?_
        rotate_left
        focus (go_simp; (try with_reducible rfl); done)
        try simp only [Act.put, List.setIfInBounds_toArray, List.set_cons_zero, List.set_cons_succ]
        refine' take_ 1 rfl (by kernel_rfl) (by kernel_rfl) (by kernel_rfl) (fun _ _ _ h => h) (by rfl) (fun wS hSw => ?_) hHeld ?_
        rotate_left
        focus (go_simp; (try with_reducible rfl); done)
        try simp only [Act.put, List.setIfInBounds_toArray, List.set_cons_zero, List.set_cons_succ]
        refine' take_ 2 rfl (by kernel_rfl) (by kernel_rfl) (by kernel_rfl) (fun _ _ _ h => h) (by rfl) (fun wS hSw => ?_) hHeld ?_
        rotate_left
        focus (go_simp; (try with_reducible rfl); done)
        try simp only [Act.put, List.setIfInBounds_toArray, List.set_cons_zero, List.set_cons_succ]
        refine' take_ 3 rfl (by kernel_rfl) (by kernel_rfl) (by kernel_rfl) (fun _ _ _ h => h) (by rfl) (fun wS hSw => ?_) hHeld ?_
        rotate_left
        focus (go_simp; (try with_reducible rfl); done)
        try simp only [Act.put, List.setIfInBounds_toArray, List.set_cons_zero, List.set_cons_succ]
        refine' take_ 4 rfl (by kernel_rfl) (by kernel_rfl) (by kernel_rfl) (fun _ _ _ h => h) (by rfl) (fun wS hSw => ?_) hHeld ?_
        rotate_left
        focus (go_simp; (try with_reducible rfl); done)
        try simp only [Act.put, List.setIfInBounds_toArray, List.set_cons_zero, List.set_cons_succ]
        refine' take_ 5 rfl (by kernel_rfl) (by kernel_rfl) (by kernel_rfl) (fun _ _ _ h => h) (by rfl) (fun wS hSw => ?_) hHeld ?_
        rotate_left
        focus (go_simp; (try with_reducible rfl); done)
        try simp only [Act.put, List.setIfInBounds_toArray, List.set_cons_zero, List.set_cons_succ]
        refine' take_ 6 rfl (by kernel_rfl) (by kernel_rfl) (by kernel_rfl) (fun _ _ _ h => h) (by rfl) (fun wS hSw => ?_) hHeld ?_
        rotate_left
        focus (go_simp; (try with_reducible rfl); done)
        try simp only [Act.put, List.setIfInBounds_toArray, List.set_cons_zero, List.set_cons_succ]
        refine' take_ 7 rfl (by kernel_rfl) (by kernel_rfl) (by kernel_rfl) (fun _ _ _ h => h) (by rfl) (fun wS hSw => ?_) hHeld ?_
        rotate_left
        focus (go_simp; (try with_reducible rfl); done)
        try simp only [Act.put, List.setIfInBounds_toArray, List.set_cons_zero, List.set_cons_succ]
        refine' take_ 8 rfl (by kernel_rfl) (by kernel_rfl) (by kernel_rfl) (fun _ _ _ h => h) (by rfl) (fun wS hSw => ?_) hHeld ?_
        rotate_left
        focus (go_simp; (try with_reducible rfl); done)
        try simp only [Act.put, List.setIfInBounds_toArray, List.set_cons_zero, List.set_cons_succ]
        refine' take_ 9 rfl (by kernel_rfl) (by kernel_rfl) (by kernel_rfl) (fun _ _ _ h => h) (by rfl) (fun wS hSw => run_load_ad wS 25 _ _ rfl _ _ (HC.out.below hSw (by rw [add_block]; exact Nat.lt_of_lt_of_le hab2.out BU.out)) Try.underlying25 rfl (by kernel_rfl) _ _ _ _ _) hHeld ?_
        try simp only [Act.put, List.setIfInBounds_toArray, List.set_cons_zero, List.set_cons_succ]
        refine' take_ 10 rfl (by kernel_rfl) (by kernel_rfl) (by kernel_rfl) (fun _ _ _ h => h) (by rfl) (fun wS hSw => run_load_v wS 25 _ g rfl _ Try.underlying25 25 (ic x) (IRow.below RX.out hSw RX.out.lt) (by kernel_rfl) _ _ _ _ _) hHeld ?_
        try simp only [Act.put, List.setIfInBounds_toArray, List.set_cons_zero, List.set_cons_succ]
        refine only_ 11 rfl (by kernel_rfl) (by rfl) (fun K hK => ?_)
        obtain ⟨Y, hY⟩ : ∃ Y, u.drew = Y := ⟨_, rfl⟩
        rw [hY] at hHeld ⊢
        clear hY
        refine wp_callv_ret 30 (.tmp 40) rfl _ _ rfl _ (by rfl) (by kernel_rfl) _ (KA.out _) (fun Y2 hB => ?_)
        have hH2 := hHeld.trans (hB.mono hHeld.size)
        refine hK.out _ _ hH2 (fun _ => ?_)
        clear hK K hB hHeld
        have hHeld := hH2
        clear hH2
        show wpAnyH _ _ _ _ _ _ _ (Act.put _ (some 46) _) _
        try simp only [Act.put, List.setIfInBounds_toArray, List.set_cons_zero, List.set_cons_succ]
        refine' take_ 12 rfl (by kernel_rfl) (by kernel_rfl) (by kernel_rfl) (fun _ _ _ h => h) (by rfl) (fun wS hSw => ?_) hHeld ?_
        rotate_left
        focus (go_simp; (try with_reducible rfl); done)
        try simp only [Act.put, List.setIfInBounds_toArray, List.set_cons_zero, List.set_cons_succ]
        refine' take_ 13 rfl (by kernel_rfl) (by kernel_rfl) (by kernel_rfl) (fun _ _ _ h => h) (by rfl) (fun wS hSw => ?_) hHeld ?_
        rotate_left
        focus (go_simp; (try with_reducible rfl); done)
        try simp only [Act.put, List.setIfInBounds_toArray, List.set_cons_zero, List.set_cons_succ]
        refine' take_ 14 rfl (by kernel_rfl) (by kernel_rfl) (by kernel_rfl) (fun _ _ _ h => h) (by rfl) (fun wS hSw => ?_) hHeld ?_
        rotate_left
        focus (go_simp; (try with_reducible rfl); done)
        try simp only [Act.put, List.setIfInBounds_toArray, List.set_cons_zero, List.set_cons_succ]
        refine' take_ 15 rfl (by kernel_rfl) (by kernel_rfl) (by kernel_rfl) (fun _ _ _ h => h) (by rfl) (fun wS hSw => ?_) hHeld ?_
        rotate_left
        focus (go_simp; (try with_reducible rfl); done)
        try simp only [Act.put, List.setIfInBounds_toArray, List.set_cons_zero, List.set_cons_succ]
        refine wpAnyH_done (by kernel_rfl) ?_ _
        refine NoPanic.normal ?_
        have BB2 := Lib.hid (BB.out.trans (hHeld.mono BB.out.size))
        go_wp2_with fail
        exact bodyPost_ret (v := .tuple #[.int .i64 (i : Int), .bool (o == 0)]) (results_tt Try.results29 _ _ _ _ _ rfl rfl) rfl ⟨⟨i, by rw [HE.out], HP.out⟩, BB2.out⟩
      · have d2 : ¬ (i : Int) < (l.length : Int) := by omega
        have HE : Hid (sameP l x i = false) := Lib.hid (by unfold sameP; rw [List.getElem?_eq_none (by omega)])
        go_upto_region 8 with fail
        refine wp_region_noPanic ?_
        refine wp_region_held_drew (S := fun X => Below u.heap.size u X) (by kernel_rfl) ((Below.refl _ u).drew) (fun hHeld => ?_)
        refine' take_ 0 rfl (by kernel_rfl) (by kernel_rfl) (by kernel_rfl) (fun _ _ _ h => h) (by rfl) (fun wS hSw => ?_) hHeld ?_
        rotate_left
        focus (go_simp; (try with_reducible rfl); done)
        try simp only [Act.put, List.setIfInBounds_toArray, List.set_cons_zero, List.set_cons_succ]
        refine' take_ 1 rfl (by kernel_rfl) (by kernel_rfl) (by kernel_rfl) (fun _ _ _ h => h) (by rfl) (fun wS hSw => ?_) hHeld ?_
        rotate_left
        focus (go_simp; (try with_reducible rfl); done)
        try simp only [Act.put, List.setIfInBounds_toArray, List.set_cons_zero, List.set_cons_succ]
        refine' take_ 2 rfl (by kernel_rfl) (by kernel_rfl) (by kernel_rfl) (fun _ _ _ h => h) (by rfl) (fun wS hSw => ?_) hHeld ?_
        rotate_left
        focus (go_simp; (try with_reducible rfl); done)
        try simp only [Act.put, List.setIfInBounds_toArray, List.set_cons_zero, List.set_cons_succ]
        refine' take_ 3 rfl (by kernel_rfl) (by kernel_rfl) (by kernel_rfl) (fun _ _ _ h => h) (by rfl) (fun wS hSw => ?_) hHeld ?_
        rotate_left
        focus (go_simp; (try with_reducible rfl); done)
        try simp only [Act.put, List.setIfInBounds_toArray, List.set_cons_zero, List.set_cons_succ]
        refine' take_ 4 rfl (by kernel_rfl) (by kernel_rfl) (by kernel_rfl) (fun _ _ _ h => h) (by rfl) (fun wS hSw => ?_) hHeld ?_
        rotate_left
        focus (go_simp; (try with_reducible rfl); done)
        try simp only [Act.put, List.setIfInBounds_toArray, List.set_cons_zero, List.set_cons_succ]
        refine' pass_ 5 rfl (by kernel_rfl) (by kernel_rfl) (by kernel_rfl) (fun _ _ _ h => h) (by rfl) hHeld ?_
        try simp only [Act.put, List.setIfInBounds_toArray, List.set_cons_zero, List.set_cons_succ]
        refine' pass_ 6 rfl (by kernel_rfl) (by kernel_rfl) (by kernel_rfl) (fun _ _ _ h => h) (by rfl) hHeld ?_
        try simp only [Act.put, List.setIfInBounds_toArray, List.set_cons_zero, List.set_cons_succ]
        refine' pass_ 7 rfl (by kernel_rfl) (by kernel_rfl) (by kernel_rfl) (fun _ _ _ h => h) (by rfl) hHeld ?_
        try simp only [Act.put, List.setIfInBounds_toArray, List.set_cons_zero, List.set_cons_succ]
        refine' pass_ 8 rfl (by kernel_rfl) (by kernel_rfl) (by kernel_rfl) (fun _ _ _ h => h) (by rfl) hHeld ?_
        try simp only [Act.put, List.setIfInBounds_toArray, List.set_cons_zero, List.set_cons_succ]
        refine' pass_ 9 rfl (by kernel_rfl) (by kernel_rfl) (by kernel_rfl) (fun _ _ _ h => h) (by rfl) hHeld ?_
        try simp only [Act.put, List.setIfInBounds_toArray, List.set_cons_zero, List.set_cons_succ]
        refine' pass_ 10 rfl (by kernel_rfl) (by kernel_rfl) (by kernel_rfl) (fun _ _ _ h => h) (by rfl) hHeld ?_
        try simp only [Act.put, List.setIfInBounds_toArray, List.set_cons_zero, List.set_cons_succ]
        refine' pass_ 11 rfl (by kernel_rfl) (by kernel_rfl) (by kernel_rfl) (fun _ _ _ h => h) (by rfl) hHeld ?_
        try simp only [Act.put, List.setIfInBounds_toArray, List.set_cons_zero, List.set_cons_succ]
        refine' pass_ 12 rfl (by kernel_rfl) (by kernel_rfl) (by kernel_rfl) (fun _ _ _ h => h) (by rfl) hHeld ?_
        try simp only [Act.put, List.setIfInBounds_toArray, List.set_cons_zero, List.set_cons_succ]
        refine' take_ 13 rfl (by kernel_rfl) (by kernel_rfl) (by kernel_rfl) (fun _ _ _ h => h) (by rfl) (fun wS hSw => ?_) hHeld ?_
        rotate_left
        focus (go_simp; (try with_reducible rfl); done)
        try simp only [Act.put, List.setIfInBounds_toArray, List.set_cons_zero, List.set_cons_succ]
        refine' take_ 14 rfl (by kernel_rfl) (by kernel_rfl) (by kernel_rfl) (fun _ _ _ h => h) (by rfl) (fun wS hSw => ?_) hHeld ?_
        rotate_left
        focus (go_simp; (try with_reducible rfl); done)
        try simp only [Act.put, List.setIfInBounds_toArray, List.set_cons_zero, List.set_cons_succ]
        refine' take_ 15 rfl (by kernel_rfl) (by kernel_rfl) (by kernel_rfl) (fun _ _ _ h => h) (by rfl) (fun wS hSw => ?_) hHeld ?_
        rotate_left
        focus (go_simp; (try with_reducible rfl); done)
        try simp only [Act.put, List.setIfInBounds_toArray, List.set_cons_zero, List.set_cons_succ]
        refine wpAnyH_done (by kernel_rfl) ?_ _
        refine NoPanic.normal ?_
        have BB2 := Lib.hid (BB.out.trans (hHeld.mono BB.out.size))
        go_wp2_with fail
        exact bodyPost_ret (v := .tuple #[.int .i64 (i : Int), .bool false]) (results_tt Try.results29 _ _ _ _ _ rfl rfl) rfl ⟨⟨i, by rw [HE.out], HP.out⟩, BB2.out⟩
end Go.Proofs.Ytimlhckihkjifaa
