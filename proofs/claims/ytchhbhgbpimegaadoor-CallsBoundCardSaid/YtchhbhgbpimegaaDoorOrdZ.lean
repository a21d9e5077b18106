/-
  ordered of no functions; of any graph of 64 at most. Order.
-/
import Derived.Test.YtchhbhgbpimegaaDoorOrdA
namespace Go.Proofs.YtchhbhgbpimegaaDoor
open Go.RowKit Go.Shelf
set_option linter.unusedVariables false
attribute [local go_sem] Oper.semAt_some
theorem zero_main {w wr W0 : World} {p : Nat} (hs : NilSet wr p) (hb : Below w.heap.size w wr)
    (hW0 : W0 = (wr.alloc (.cells #[.slice none 0 0] 36)).alloc (.cells #[.pointer (some ⟨p, 0, none⟩)] 66))
    (rc : Loop) (hst : rc.state = .ready) (hpe : rc.pending = none) {Q : Exit → Act → World → Prop} {a : Act}
    (after : ∀ W', Below w.heap.size w W' → W'.heap[W0.heap.size]? = some (.deferred (some [])) → W'.heap[wr.heap.size]? = some (.cells [.slice none 0 0].toArray 36 (0, 0)) →
      Q .normal { a with defers := { target := .collected W0.heap.size, args := #[] } :: a.defers } (W'.putObj (W0.heap.size + 1) (.loop { rc with state := .exhausted }))) :
    CallsIn Fence.wide 2 Tryd.prog 43 (#[.func (.yield (W0.heap.size + 1)) #[] #[]] ++ #[.pointer (some ⟨wr.heap.size + 1, 0, none⟩)]) ((W0.alloc (.deferred (some []))).alloc (.loop rc)) (AfterLoop Tryd.prog 2 Q a W0.heap.size) := by
  have hz0 : W0.heap.size = wr.heap.size + 2 := by rw [hW0]; simp
  have hbw : Below W0.heap.size W0 ((W0.alloc (.deferred (some []))).alloc (.loop rc)) := ((Below.refl _ _).alloc (Nat.le_refl _) _).alloc (by simp) _
  have hb0 : Below wr.heap.size wr W0 := by rw [hW0]; exact ((Below.refl _ _).alloc (Nat.le_refl _) _).alloc (by simp) _
  have hbr : Below wr.heap.size wr ((W0.alloc (.deferred (some []))).alloc (.loop rc)) := hb0.trans (hbw.mono (by omega))
  have g : ∀ k o, W0.heap[k]? = some o → ((W0.alloc (.deferred (some []))).alloc (.loop rc)).heap[k]? = some o := fun k o hk => (hbw.block k (Array.getElem?_eq_some_iff.1 hk).1).trans hk
  have hbn : ((W0.alloc (.deferred (some []))).alloc (.loop rc)).heap[wr.heap.size + 1]? = some (.cells [.pointer (some ⟨p, 0, none⟩)].toArray 66 (0, 0)) := g _ _ (by rw [hW0]; exact two_at _ _ _)
  refine (nil_iter 1 (W0.heap.size + 1) (wr.heap.size + 1) p _ (row_at hbn 0 _ rfl) (hs.below hbr)).mono ?_
  rintro e W' ⟨hv, m, rfl⟩
  refine ⟨hv, rc, two_at _ _ _, by rw [hst]; exact fun hc => (by cases hc), ?_⟩
  split
  · exact after _ (Below.drewN' (hb.trans (hbr.mono hb.size)) m) (two_at0 _ _ _) (g _ _ (by rw [hW0]; exact two_at0 _ _ _))
  · rename_i c hc
    rw [hpe] at hc
    cases hc
set_option maxRecDepth 100000 in
set_option maxHeartbeats 2000000 in
theorem ordered_zero (G : Nat → List Nat) (v : Value) (w : World) (h : GraphIs w v 0 G) :
    Calls Tryd.prog 36 #[v] w fun e w' => ∃ v', e = .returned v' ∧ w'.ownsRow w.heap.size 3 1 v' 0 [] ∧ Below w.heap.size w w' := by
  have HTU := Lib.hid (turned_any 0 G v w ⟨by omega, fun f hf => by omega, fun f hf => by omega⟩ (fun f hf => by omega) h)
  obtain ⟨A, c, rfl, -⟩ := h
  have hmk : ∀ W : World, (Instr.makeSlice 36 (.int .i64 0) (.int .i64 0)).run Tryd.prog W = .ok (.slice (some ⟨W.heap.size, 0, none⟩) 0 0) (W.alloc (.cells #[] 3)) := fun _ => by kernel_rfl
  refine (callsIn_wide (n := 3)).1 ?_
  refine callsIn_of_wp_marks Tryd.func36 rfl trivial ?_ rfl
  simp only [Tryd.ntmps36, List.size_toArray, List.length_cons, List.length_nil, Nat.reduceAdd, Nat.reduceSub, Array.replicate_succ, Array.replicate_zero, List.push_toArray, List.append_toArray, List.nil_append, List.cons_append]
  gi_wp2_with (first | (refine ⟨trivial, ?_⟩; gi_at_call 55; refine (callsIn_wide.2 HTU.out).mono ?_; rintro e w1 ⟨cv, rfl, hcv, hb1⟩; obtain ⟨A2, cp, rfl, -⟩ := hcv; have HB1 := Lib.hid hb1; clear hb1) | (refine ⟨trivial, ?_⟩; gi_at_call 22; refine (callsIn_wide.2 (newSet_zero _)).mono ?_; rintro e w3 ⟨rfl, hb3, hs3⟩; have HB3 := Lib.hid hb3; have HS3 := Lib.hid hs3; clear hb3 hs3))
  have HB4 := Lib.hid ((((((HB1.out.alloc HB1.out.size (.cells #[.slice A2 0 cp] 33)).alloc (by have := HB1.out.size; simp; omega) (.cells #[] 3)).alloc (by have := HB1.out.size; simp; omega) (.cells #[.slice (some ⟨w1.heap.size + 1, 0, none⟩) 0 0] 36)).trans (HB3.out.mono (by have := HB1.out.size; simp; omega)))).alloc (by have := HB3.out.size; have := HB1.out.size; simp at *; omega) (.cells #[.pointer (some ⟨w1.heap.size + 1 + 1 + 1, 0, none⟩)] 66))
  have HS4 := Lib.hid (HS3.out.below ((Below.refl _ _).alloc (Nat.le_refl _) (.cells #[.pointer (some ⟨w1.heap.size + 1 + 1 + 1, 0, none⟩)] 66)))
  have hbx := alloc_at w3 (.cells #[.pointer (some ⟨w1.heap.size + 1 + 1 + 1, 0, none⟩)] 66)
  have hlt2 : w3.heap.size < (w3.alloc (.cells #[.pointer (some ⟨w1.heap.size + 1 + 1 + 1, 0, none⟩)] 66)).heap.size := by simp
  clear HB1 HB3 HS3 HTU
  simp only [World.size_alloc] at HS4
  generalize (w3.alloc (.cells #[.pointer (some ⟨w1.heap.size + 1 + 1 + 1, 0, none⟩)] 66)) = W0 at *
  generalize w3.heap.size = b5 at *
  generalize w1.heap.size = N at *
  have c4 : W0.cell? ⟨b5, 0, none⟩ = some (.pointer (some ⟨N + 1 + 1 + 1, 0, none⟩)) := by rw [cell_of_row _ _ 0 _ _ _ hbx]; rfl
  clear hbx
  gi_loopw [21] (fun i wr => i = .int .i64 0 ∧ wr = W0) (fun i _ => 0)
  case atStart => exact ⟨rfl, rfl⟩
  case round =>
    obtain ⟨rfl, rfl⟩ := hrel
    have c5 : (wr.alloc (.cells #[.slice none 0 0] 36)).cell? ⟨b5, 0, none⟩ = some (.pointer (some ⟨N + 1 + 1 + 1, 0, none⟩)) := by
      rw [((Below.refl _ wr).alloc (Nat.le_refl _) _).cell (p := ⟨b5, 0, none⟩) hlt2]
      exact c4
    gi_wp2_with (refine ⟨trivial, ?_⟩; gi_at_call 26; refine (callsIn_wide.2 (taken_any _ _)).mono ?_; rintro e w' ⟨rfl, rfl⟩)
    obtain ⟨W1, hW1⟩ : ∃ W1, ((wr.alloc (.cells #[.slice none 0 0] 36)).alloc (.cells #[.pointer (some ⟨N + 1 + 1 + 1, 0, none⟩)] 66)) = W1 := ⟨_, rfl⟩
    have hz1 : W1.heap.size = wr.heap.size + 2 := by rw [← hW1]; simp
    have HW1 := Lib.hid hW1
    rw [hW1]
    clear hW1 c4 c5
    refine range_wide (n := 2) (gf := 43) (lb := #[.pointer (some ⟨wr.heap.size + 1, 0, none⟩)]) rfl (enters_of Tryd.func43 (by kernel_rfl) rfl) (fun fn => ?_)
    refine zero_main HS4.out HB4.out HW1.out.symm _ rfl rfl ?after
    case after =>
      intro W' hb hd hbox
      have HBa := Lib.hid hb
      have HD := Lib.hid hd
      have hdz := (Array.getElem?_eq_some_iff.1 hd).1
      have c3 : ∀ o, (W'.putObj (W1.heap.size + 1) o).cell? ⟨wr.heap.size, 0, none⟩ = some (.slice none 0 0) := fun o => by rw [cell_of_row _ _ 0 _ _ _ ((World.putObj_heap_other (by omega)).trans hbox)]; rfl
      have HSZ := Lib.hid hz1
      have hbs := HB4.out.size
      clear hb hd hbox hz1
      gi_wp2
      refine ⟨by simp, .inl ⟨_, _, rfl, run_takeDeferred ((World.putObj_heap_other (by omega)).trans HD.out), ?_⟩⟩
      have hsz := HSZ.out
      refine ⟨_, results_tmp rfl _ _ _, _, rfl, World.ownsRow_nil _ _ _ _, below_gb (below_gb HBa.out (gb_put _ _ _) HBa.out.size (fun b e => by cases e; omega)) (gb_put _ _ _) (by have := HBa.out.size; simp; omega) (fun b e => by cases e; omega)⟩
theorem orderL_zero (G : Nat → List Nat) : orderL 0 G = [] := rfl
theorem ordered_any (n : Nat) (G : Nat → List Nat) (v : Value) (w : World) (hG : IsG n G) (hL : ∀ f, f < n → (G f).length ≤ 1048576) (h : GraphIs w v n G) (hT : Tab w) :
    Calls Tryd.prog 36 #[v] w fun e w' => ∃ v', e = .returned v' ∧ w'.ownsRow w.heap.size 3 1 v' (orderL n G).length ((orderL n G).map iv) ∧ Below w.heap.size w w' := by
  by_cases hn : 1 ≤ n
  · exact ordered_some n G v w hn hG hL h hT
  · obtain rfl : n = 0 := by omega
    exact ordered_zero G v w h
end Go.Proofs.YtchhbhgbpimegaaDoor
