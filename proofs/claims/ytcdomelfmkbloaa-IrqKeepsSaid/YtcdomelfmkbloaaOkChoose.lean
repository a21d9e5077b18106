/-
  The program's best and Choose by their contracts.
-/
import Derived.Test.YtcdomelfmkbloaaOkBest
namespace Go.Proofs.Ytcdomelfmkbloaa
open Go.RowKit Go.Shelf
set_option linter.unusedVariables false
attribute [local go_sem] Oper.semAt_some
theorem name_world {P F : World → Prop} (W : World) (hF : F W) (h : ∀ X, F X → P X) : P W := h W hF
theorem round_end {w Y : World} {D q2 : Nat} {rc : Loop} {b b' : Int} (hst : rc.state = .ready) (hpe : rc.pending = none) (hD : w.heap.size + 1 + 1 < D) (h : JB w w.heap.size D q2 { rc with state := .busy } b Y) (hb : b = b') :
    Y.heap[D + 1]? = some (.loop { rc with state := .busy }) ∧ Ending.returned (.bool true) = .returned (.bool true) ∧ JB w w.heap.size D q2 rc b' (Y.putObj (D + 1) (.loop { rc with state := .ready, pending := none })) := by
  subst hb
  have e : ({ rc with state := .ready, pending := none } : Loop) = rc := by
    cases rc
    simp only at hst hpe
    subst hst hpe
    rfl
  rw [e]
  exact ⟨h.l, rfl, h.put hD rc⟩
theorem mayI_bestK (c : Ic) (ps : List Int) (lev : Int) (mk k : Nat) (h : mayI c ps lev mk k = true) : bestK c ps lev mk (k + 1) = if beats ps k (bestK c ps lev mk k) = true then (k : Int) else bestK c ps lev mk k := by
  rw [bestK, h, Bool.true_and]
set_option maxRecDepth 100000 in
set_option maxHeartbeats 16000000 in
theorem best_any (q lb wb lk q2 : Nat) (c : Ic) (ps : List Int) (lev : Int) (mk : Nat) (w : World) (h : c.ok) (hp : PsOk ps) (h0 : -9223372036854775808 ≤ lev) (h1 : lev ≤ 9223372036854775807) (hm : mk < 256) (hE : Env w q lb wb lk c ps lev mk) (hR : PRow w q2 ps) :
    Calls Try.prog 19 #[.func (.func 26) #[] #[.pointer (some ⟨q, 0, none⟩), .pointer (some ⟨lb, 0, none⟩), .pointer (some ⟨wb, 0, none⟩)], .func (.func 21) #[] #[.pointer (some ⟨q2, 0, none⟩)]] w fun x w' =>
      x = .returned (.tuple #[.int .i64 (fnd (bestK c ps lev mk 8)), .bool (decide (0 ≤ bestK c ps lev mk 8))]) ∧ Below w.heap.size w w' := by
  have HE := Lib.hid hE
  have HR := Lib.hid hR
  have HP := Lib.hid hp
  have HC := Lib.hid h
  clear hE hR hp h
  refine (callsIn_wide (n := 3)).1 ?_
  refine callsIn_of_wp_marks Try.func19 rfl trivial ?_ rfl
  simp only [Try.ntmps19, List.size_toArray, List.length_cons, List.length_nil, Nat.reduceAdd, Nat.reduceSub, Array.replicate_succ, Array.replicate_zero, List.push_toArray, List.append_toArray, List.nil_append, List.cons_append]
  gi_wp2
  refine name_third (Q := fun X => Code.wpIn Fence.wide 3 Try.prog _ _ _ X) ?_
  intro W0 hq1 hq2 hq3 hz hB0
  have R1 : Hid (VRow W0 w.heap.size 53 [.func (.func 21) #[] #[.pointer (some ⟨q2, 0, none⟩)]]) := Lib.hid hq1
  have R2 : Hid (VRow W0 (w.heap.size + 1) 3 [.int .i64 0]) := Lib.hid hq2
  have R3 : Hid (VRow W0 (w.heap.size + 1 + 1) 4 [.bool false]) := Lib.hid hq3
  have HB := Lib.hid hB0
  obtain ⟨D, hD⟩ : ∃ D, W0.heap.size = D := ⟨_, rfl⟩
  have hzD : D = w.heap.size + 1 + 1 + 1 := by omega
  have HD := Lib.hid hD
  have HZ := Lib.hid hzD
  have hlt : w.heap.size + 1 + 1 < D := by omega
  clear hq1 hq2 hq3 hB0 hz
  refine range_wide (n := 2) (gf := 26) (lb := #[.pointer (some ⟨q, 0, none⟩), .pointer (some ⟨lb, 0, none⟩), .pointer (some ⟨wb, 0, none⟩)]) rfl (enters_of Try.func26 (by kernel_rfl) rfl) (fun fn => ?_)
  rw [HD.out]
  refine best_main w W0 D q lb wb lk q2 c ps lev mk HC.out HP.out h0 h1 hm HE.out HD.out HZ.out HB.out R1.out R2.out R3.out _ rfl rfl ?rd ?af
  case rd =>
    intro k W hk hmay hj
    clear hD hzD R1 R2 R3
    refine yield_wide hj.l rfl rfl ?_
    have HJ := Lib.hid hj
    have hl := hj.l
    simp only [rec0] at hl ⊢
    have HL := Lib.hid hl
    clear hl hj
    gi_wp2
    refine ⟨HL.out, ?_⟩
    gi_wp2
    refine name_world (P := fun Y => Code.wpIn _ 1 Try.prog _ _ _ Y) (F := fun Y => JB w w.heap.size D q2 _ (bestK c ps lev mk k) Y) _ (HJ.out.put hlt _) ?_
    intro Y hY
    have y0 := VRow.cell hY.r 0 _ rfl
    have y1 := VRow.cell hY.f 0 _ rfl
    have y2 := VRow.cell hY.s 0 _ rfl
    have yf1 : Y.frozen? ⟨w.heap.size + 1, 0, none⟩ = false := row_free hY.f
    have yf2 : Y.frozen? ⟨w.heap.size + 1 + 1, 0, none⟩ = false := row_free hY.s
    have hR : PRow Y q2 ps := HR.out.below hY.b HR.out.lt
    have KR := Lib.hid (fun v (hv : v < 8) => rank_any ps v q2 Y.drew HP.out hv hR)
    have HY := Lib.hid hY
    have HN := Lib.hid (mayI_bestK c ps lev mk k hmay)
    have hrg := bestK_range c ps lev mk k
    obtain ⟨b, hb⟩ : ∃ b, bestK c ps lev mk k = b := ⟨_, rfl⟩
    rw [hb] at HY HN y1 y2 hrg
    clear hY hR HL HJ hb hmay
    by_cases hn : b < 0
    · have e0 : decide (0 ≤ b) = false := decide_eq_false (by omega)
      have e1 : fnd b = 0 := if_pos hn
      have e2 : beats ps k b = true := by unfold beats; rw [decide_eq_true hn]; rfl
      have HNN : Hid ((k : Int) = bestK c ps lev mk (k + 1)) := Lib.hid (by rw [HN.out, if_pos e2])
      clear e2
      rw [e0] at y2
      refine wpIn_mono (Q := fun e a' w' => e = Exit.normal ∧ a' = ({ tmps := #[(.func (.func 26) #[] #[.pointer (some ⟨q, 0, none⟩), .pointer (some ⟨lb, 0, none⟩), .pointer (some ⟨wb, 0, none⟩)]), (.func (.func 21) #[] #[.pointer (some ⟨q2, 0, none⟩)]), undef, .pointer (some ⟨w.heap.size, 0, none⟩), .int .i64 0, .bool false, .pointer (some ⟨w.heap.size + 1, 0, none⟩), .pointer (some ⟨w.heap.size + 1 + 1, 0, none⟩), .int .i64 (k : Int), (.func (.func 26) #[] #[.pointer (some ⟨q, 0, none⟩), .pointer (some ⟨lb, 0, none⟩), .pointer (some ⟨wb, 0, none⟩)]), .int .i64 (k : Int), .bool false, .bool true, .bool true, undef, undef, undef, undef, undef, undef, undef, .bool true, undef, undef, undef], defers := [] } : Act) ∧ w' = Y.drew) ?_ ?_
      · gi_region_with (refine ⟨fun f hf => (by cases hf), ?_⟩)
        all_goals exact ⟨rfl, rfl, rfl⟩
      rintro e a' w' ⟨rfl, rfl, rfl⟩
      clear KR
      gi_wp2
      exact round_end rfl rfl hlt ((HY.out.below HY.out.b.size (Below.drewN' (Below.refl _ _) 1)).set hlt k) HNN.out
    · obtain ⟨m, rfl⟩ : ∃ m : Nat, b = (m : Int) := ⟨b.toNat, by omega⟩
      have hm8 : m < 8 := by omega
      have e0 : decide (0 ≤ (m : Int)) = true := by simp
      have e1 : fnd (m : Int) = (m : Int) := if_neg hn
      rw [e0] at y2
      rw [e1] at y1
      have eb : beats ps k (m : Int) = decide (prio ps m < prio ps k) := by unfold beats; rw [decide_eq_false hn]; rfl
      obtain ⟨pk, hpk⟩ : ∃ x, prio ps k = x := ⟨_, rfl⟩
      obtain ⟨pm, hpm⟩ : ∃ x, prio ps m = x := ⟨_, rfl⟩
      rw [hpk, hpm] at eb
      have K1 := KR.out k hk
      have K2 := KR.out m hm8
      rw [hpk] at K1
      rw [hpm] at K2
      have H1 := Lib.hid K1
      have H2 := Lib.hid K2
      clear K1 K2 hpk hpm e0 e1
      obtain ⟨bb, hbb⟩ : ∃ bb, decide (pm < pk) = bb := ⟨_, rfl⟩
      rw [hbb] at eb
      have HNB : Hid (∀ b', bb = b' → bestK c ps lev mk (k + 1) = if b' = true then (k : Int) else (m : Int)) := Lib.hid (fun b' e => by rw [HN.out, eb, e])
      clear eb HN
      refine wpIn_mono (Q := fun e a' w' => e = Exit.normal ∧ a' = ({ tmps := #[(.func (.func 26) #[] #[.pointer (some ⟨q, 0, none⟩), .pointer (some ⟨lb, 0, none⟩), .pointer (some ⟨wb, 0, none⟩)]), (.func (.func 21) #[] #[.pointer (some ⟨q2, 0, none⟩)]), undef, .pointer (some ⟨w.heap.size, 0, none⟩), .int .i64 0, .bool false, .pointer (some ⟨w.heap.size + 1, 0, none⟩), .pointer (some ⟨w.heap.size + 1 + 1, 0, none⟩), .int .i64 (k : Int), (.func (.func 26) #[] #[.pointer (some ⟨q, 0, none⟩), .pointer (some ⟨lb, 0, none⟩), .pointer (some ⟨wb, 0, none⟩)]), .int .i64 (k : Int), .bool true, .bool false, .bool false, (.func (.func 21) #[] #[.pointer (some ⟨q2, 0, none⟩)]), .int .i64 (k : Int), .int .i64 pk, (.func (.func 21) #[] #[.pointer (some ⟨q2, 0, none⟩)]), .int .i64 (m : Int), .int .i64 pm, .bool bb, .bool bb, undef, undef, undef], defers := [] } : Act) ∧ w' = Y.drew) ?_ ?_
      · gi_region_with (refine ⟨trivial, ?_⟩; gi_at_call 21; first | (with_reducible refine ((callsIn_wide.2 H1.out).inRound _).mono ?_) | (with_reducible refine ((callsIn_wide.2 H2.out).inRound _).mono ?_); rintro e w' ⟨rfl, rfl⟩)
        all_goals exact ⟨rfl, rfl, rfl⟩
      rintro e a' w' ⟨rfl, rfl, rfl⟩
      clear H1 H2 hbb
      cases bb
      · have HNN : Hid ((m : Int) = bestK c ps lev mk (k + 1)) := Lib.hid ((HNB.out _ rfl).symm)
        clear HNB
        gi_wp2
        exact round_end rfl rfl hlt (HY.out.below HY.out.b.size (Below.drewN' (Below.refl _ _) 1)) HNN.out
      · have HNN : Hid ((k : Int) = bestK c ps lev mk (k + 1)) := Lib.hid ((HNB.out _ rfl).symm)
        clear HNB
        gi_wp2
        exact round_end rfl rfl hlt ((HY.out.below HY.out.b.size (Below.drewN' (Below.refl _ _) 1)).set hlt k) HNN.out
  case af =>
    intro W' hj
    have kd : ∀ o, (W'.putObj (D + 1) o).heap[D]? = some (.deferred (some [])) := fun o => (World.putObj_heap_other (by omega)).trans hj.d
    have k1 : ∀ o, (W'.putObj (D + 1) o).cell? ⟨w.heap.size + 1, 0, none⟩ = some (.int .i64 (fnd (bestK c ps lev mk 8))) := fun o => row_at ((World.putObj_heap_other (by omega)).trans hj.f) 0 _ rfl
    have k2 : ∀ o, (W'.putObj (D + 1) o).cell? ⟨w.heap.size + 1 + 1, 0, none⟩ = some (.bool (decide (0 ≤ bestK c ps lev mk 8))) := fun o => row_at ((World.putObj_heap_other (by omega)).trans hj.s) 0 _ rfl
    have KD := Lib.hid kd
    have KB := Lib.hid (fun o => put_below' hj.b (k := D + 1) (by omega) o)
    have HD2 : Hid (w.heap.size ≤ D) := Lib.hid (by omega)
    clear hj kd hD hzD R1 R2 R3
    gi_wp2
    gi_quiet (fail)
    gi_wp2
    refine ⟨by simp, .inl ⟨_, _, rfl, run_takeDeferred (KD.out _), ?_⟩⟩
    exact ⟨_, by simp [results, Try.results19, go_sem], rfl, put_below' (Below.drewN' (KB.out _) _) HD2.out _⟩
end Go.Proofs.Ytcdomelfmkbloaa
