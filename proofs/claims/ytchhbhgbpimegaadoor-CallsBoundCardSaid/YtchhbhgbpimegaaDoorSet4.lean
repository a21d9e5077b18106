/-
  A set of bits: least where it has some, under the contract of math/bits.TrailingZeros64.
-/
import Derived.Test.YtchhbhgbpimegaaDoorSet3
import Derived.Test.YtchhbhgbpimegaaDoorBack
import Derived.Sort.QuietIn
import Derived.Sort.CutIn
import Derived.Shelf.Abstract
namespace Go.Proofs.YtchhbhgbpimegaaDoor
open Go.RowKit Go.Shelf
set_option linter.unusedVariables false
attribute [local go_sem] Oper.semAt_some
theorem name_world {P F : World → Prop} (W : World) (hF : F W) (h : ∀ X, F X → P X) : P W := h W hF
theorem put_below {B : Nat} {a w : World} {k : Nat} (h : Below B a w) (hk : B ≤ k) (o : Obj) : Below B a (w.putObj k o) :=
  ⟨h.os, h.tape, h.output, by simpa using h.size, fun i hi => (World.putObj_heap_other (by omega)).trans (h.block i hi)⟩
theorem IsSet.below {w w' : World} {p lv wb x : Nat} (h : IsSet w p lv wb x) (hb : Below w.heap.size w w') : IsSet w' p lv wb x := by
  obtain ⟨c, h1⟩ := h.row
  obtain ⟨r, h2⟩ := h.lev
  exact ⟨h.lt, h.ne, ⟨c, (hb.block _ (Array.getElem?_eq_some_iff.1 h1).1).trans h1⟩, ⟨r, (hb.block _ (Array.getElem?_eq_some_iff.1 h2).1).trans h2⟩, (hb.block _ (Array.getElem?_eq_some_iff.1 h.word).1).trans h.word⟩
theorem least_round {w Y : World} {l d m : Nat} {r : Loop} {a : Act} (hm : m < 64) (hl : Y.heap[l]? = some (.loop { r with state := .busy })) (h5 : Y.heap[w.heap.size]? = some (.cells [.int .i64 0].toArray 3 (0, 0)))
    (hd : Y.heap[d]? = some (.deferred (some []))) (hB : Below w.heap.size w Y) (hn : w.heap.size < d) (hdl : d < l) (hz : l < Y.heap.size) :
    RoundEnds l r (fun e W' => e = .returned (.bool true) ∧ (∃ r : Loop, W'.heap[l]? = some (.loop r) ∧ r.state = .ready ∧ r.pending = none) ∧ W'.heap[w.heap.size]? = some (.cells [.int .i64 m].toArray 3 (0, 0)) ∧ W'.heap[d]? = some (.deferred (some [])) ∧ Below w.heap.size w W') .normal a ((Y.setCell ⟨w.heap.size, 0, none⟩ (.int .i64 (IntKind.i64.wrap (IntKind.i64.wrap 0 + m)))).drew) := by
  have hw : IntKind.i64.wrap (IntKind.i64.wrap 0 + m) = m := by
    rw [IntKind.wrap_i64, IntKind.wrap_i64]
    omega
  rw [hw]
  have g : ∀ k, k ≠ w.heap.size → (Y.setCell ⟨w.heap.size, 0, none⟩ (.int .i64 m)).drew.heap[k]? = Y.heap[k]? := fun k hk => heap_setCell_other _ _ _ _ hk
  have hz2 : l < (Y.setCell ⟨w.heap.size, 0, none⟩ (.int .i64 m)).drew.heap.size := by
    have : (Y.setCell ⟨w.heap.size, 0, none⟩ (.int .i64 m)).drew.heap.size = Y.heap.size := by simp [World.setCell, World.drew]
    omega
  have hB2 : Below w.heap.size w (Y.setCell ⟨w.heap.size, 0, none⟩ (.int .i64 m)).drew :=
    ⟨hB.os, hB.tape, hB.output, by have := hB.size; simpa [World.setCell, World.drew] using this, fun k hk => (g k (by omega)).trans (hB.block k hk)⟩
  refine ⟨(g l (by omega)).trans hl, rfl, ⟨_, World.putObj_heap_same hz2, rfl, rfl⟩, (World.putObj_heap_other (by omega)).trans ?_, (World.putObj_heap_other (by omega)).trans ((g d (by omega)).trans hd), put_below hB2 (by omega) _⟩
  exact row_setCell h5
set_option maxRecDepth 100000 in
set_option maxHeartbeats 4000000 in
theorem least_some (p lv wb x m : Nat) (w : World) (h : IsSet w p lv wb x) (hx0 : x ≠ 0) (hm : m < 64) (hT : ∀ w', Below w.heap.size w w' → Calls Tryd.prog 60 #[.int .u64 x] w' fun e w'' => e = .returned (.int .i64 m) ∧ w'' = w') : Calls Tryd.prog 44 #[.pointer (some ⟨p, 0, none⟩)] w fun e w' => e = .returned (.tuple #[.int .i64 m, .bool true]) ∧ Below w.heap.size w w' := by
  obtain ⟨c, hr⟩ := h.row
  obtain ⟨rest, hl⟩ := h.lev
  have HI := Lib.hid h
  have c0 := row_at hr 0 _ rfl
  have c1 := row_at hl 0 _ rfl
  have c2 := row_at h.word 0 _ rfl
  have hz : ((x : Int) == 0) = false := by simp; omega
  have HT := Lib.hid hT
  clear h hr hl hT
  refine (callsIn_wide (n := 2)).1 ?_
  refine callsIn_of_wp_marks Tryd.func44 rfl trivial ?_ rfl
  simp only [Tryd.ntmps44, List.size_toArray, List.length_cons, List.length_nil, Nat.reduceAdd, Nat.reduceSub, Array.replicate_succ, Array.replicate_zero, List.push_toArray, List.append_toArray, List.nil_append, List.cons_append]
  gi_wp2
  gi_quiet (fail)
  have HIW : Hid (IsSet (w.drewN nq) p lv wb x) := HI.out.set ((Touch.refl wb w).drewN _) HI.out.lt HI.out.word
  have HBW : Hid (Below w.heap.size w (w.drewN nq)) := Below.drewN' (Below.refl _ _) nq
  have hsz : (w.drewN nq).heap.size = w.heap.size := rfl
  change Exit.then _ _ _ _ (w.drewN nq)
  generalize w.drewN nq = W at *
  obtain ⟨c', hr⟩ := HIW.out.row
  obtain ⟨rest', hl⟩ := HIW.out.lev
  clear c0 c1 c2
  have c0 := row_at hr 0 _ rfl
  have c1 := row_at hl 0 _ rfl
  have c2 := row_at HIW.out.word 0 _ rfl
  have hpb : p < W.heap.size := (Array.getElem?_eq_some_iff.1 hr).1
  clear hr hl
  have d0 : (W.alloc (.cells #[.int .i64 0] 3)).cell? ⟨p, 0, none⟩ = some (.slice (some ⟨lv, 0, none⟩) 1 c') := by
    rw [((Below.refl _ W).alloc (Nat.le_refl _) _).cell (p := ⟨p, 0, none⟩) hpb]; exact c0
  gi_wp2_with (refine ⟨trivial, ?_⟩; gi_at_call 59; refine (callsIn_wide.2 (backward_any lv 1 c' _)).mono ?_; rintro e w' ⟨rfl, rfl⟩)
  have e5 : ((W.alloc (.cells #[.int .i64 0] 3)).alloc (.cells #[.slice (some ⟨lv, 0, none⟩) 1 c'] 94)).heap[w.heap.size]? = some (.cells [.int .i64 0].toArray 3 (0, 0)) := by rw [← hsz]; exact two_at0 W _ _
  have e6 : ((W.alloc (.cells #[.int .i64 0] 3)).alloc (.cells #[.slice (some ⟨lv, 0, none⟩) 1 c'] 94)).heap[w.heap.size + 1]? = some (.cells [.slice (some ⟨lv, 0, none⟩) 1 c'].toArray 94 (0, 0)) := by rw [← hsz]; exact two_at W _ _
  have e7 := HIW.out.below (two_below W (.cells #[.int .i64 0] 3) (.cells #[.slice (some ⟨lv, 0, none⟩) 1 c'] 94))
  have e8 := HBW.out.trans ((two_below W (.cells #[.int .i64 0] 3) (.cells #[.slice (some ⟨lv, 0, none⟩) 1 c'] 94)).mono (by omega))
  have e9 : ((W.alloc (.cells #[.int .i64 0] 3)).alloc (.cells #[.slice (some ⟨lv, 0, none⟩) 1 c'] 94)).heap.size = w.heap.size + 2 := by simp [hsz]
  have hwb : wb < w.heap.size := (Array.getElem?_eq_some_iff.1 HI.out.word).1
  obtain ⟨W0, hW0⟩ : ∃ W0, (W.alloc (.cells #[.int .i64 0] 3)).alloc (.cells #[.slice (some ⟨lv, 0, none⟩) 1 c'] 94) = W0 := ⟨_, rfl⟩
  rw [hW0] at e5 e6 e7 e8 e9 ⊢
  have H7 := Lib.hid e7
  have H8 := Lib.hid e8
  clear hW0 e7 e8 c0 c1 c2 d0 HIW HBW hpb hsz
  refine range_wide (n := 1) (gf := 66) (lb := #[.pointer (some ⟨w.heap.size + 1, 0, none⟩)]) rfl (enters_of Tryd.func66 (by kernel_rfl) rfl) (fun fn => ?_)
  refine (backward_one 0 (W0.heap.size + 1) (w.heap.size + 1) lv c' (.slice (some ⟨wb, 0, none⟩) 1 1) (fun W' => (∃ r : Loop, W'.heap[W0.heap.size + 1]? = some (.loop r) ∧ r.state = .ready ∧ r.pending = none) ∧ W'.heap[w.heap.size]? = some (.cells [.int .i64 m].toArray 3 (0, 0)) ∧ W'.heap[W0.heap.size]? = some (.deferred (some [])) ∧ Below w.heap.size w W') _ ?bbox ?blev ?byield).mono ?_
  case bbox =>
    rw [cell_of_row _ _ 0 _ _ _ ((Go.heap_alloc_old _ _ (by simp; omega)).trans ((Go.heap_alloc_old _ _ (by omega)).trans e6))]
    rfl
  case blev =>
    obtain ⟨rest2, hl2⟩ := H7.out.lev
    have hq := (Array.getElem?_eq_some_iff.1 hl2).1
    rw [cell_of_row _ _ 0 _ _ _ ((Go.heap_alloc_old _ _ (by simp; omega)).trans ((Go.heap_alloc_old _ _ (by omega)).trans hl2))]
    rfl
  case byield =>
    have hwb0 : wb < W0.heap.size := by omega
    refine name_world (P := fun X => YieldAt Fence.wide 0 Tryd.prog (W0.heap.size + 1) _ X _) (F := fun X => X.heap[W0.heap.size + 1]? = some (.loop _) ∧ X.heap[w.heap.size]? = some (.cells [.int .i64 0].toArray 3 (0, 0)) ∧ X.heap[wb]? = some (.cells [.int .u64 x].toArray 100 (0, 0)) ∧ X.heap[W0.heap.size]? = some (.deferred (some [])) ∧ Below w.heap.size w X ∧ X.heap.size = W0.heap.size + 2) _ ⟨two_at W0 _ _, (Go.heap_alloc_old _ _ (by simp; omega)).trans ((Go.heap_alloc_old _ _ (by omega)).trans e5), (Go.heap_alloc_old _ _ (by simp; omega)).trans ((Go.heap_alloc_old _ _ (by omega)).trans H7.out.word), two_at0 W0 _ _, H8.out.trans ((two_below W0 _ _).mono (by omega)), by simp⟩ ?_
    rintro X ⟨hl, h5, h6, hd, hB, hz⟩
    refine yield_wide hl rfl rfl ?_
    have g : ∀ k o, k ≠ W0.heap.size + 1 → X.heap[k]? = some o → ∀ x, (X.putObj (W0.heap.size + 1) x).heap[k]? = some o := fun k o hk h x => (World.putObj_heap_other hk).trans h
    have HT5 := Lib.hid hB
    simp only [rec0] at hl ⊢
    have HL := Lib.hid hl
    have HG := Lib.hid g
    have HD := Lib.hid hd
    have H5 := Lib.hid h5
    have H6 := Lib.hid h6
    clear g h5 h6 hd hB hl e5 e6
    gi_wp2
    refine ⟨HL.out, ?_⟩
    gi_wp2
    refine name_world (P := fun Y => Code.wpIn _ 0 Tryd.prog _ _ _ Y) (F := fun Y => Y.heap[W0.heap.size + 1]? = some (.loop _) ∧ Y.heap[w.heap.size]? = some (.cells [.int .i64 0].toArray 3 (0, 0)) ∧ Y.heap[wb]? = some (.cells [.int .u64 x].toArray 100 (0, 0)) ∧ Y.heap[W0.heap.size]? = some (.deferred (some [])) ∧ Below w.heap.size w Y ∧ Y.heap.size = W0.heap.size + 2) _ ⟨World.putObj_heap_same (by omega), HG.out _ _ (by omega) H5.out _, HG.out _ _ (by omega) H6.out _, HG.out _ _ (by omega) HD.out _, put_below HT5.out (by omega) _, by simpa using hz⟩ ?_
    rintro Y ⟨hl, h5, h6, hd, hB, hz⟩
    clear HL HG HD H5 H6 HT5
    have y0 := row_at h5 0 _ rfl
    have y1 := row_at h6 0 _ rfl
    have y2 : Y.frozen? ⟨w.heap.size, 0, none⟩ = false := row_free h5
    have HL := Lib.hid hl
    have H5 := Lib.hid h5
    have HD := Lib.hid hd
    have HTX := Lib.hid (HT.out Y.drew ⟨hB.os, hB.tape, hB.output, hB.size, hB.block⟩)
    have HB := Lib.hid hB
    clear h5 h6 hd hB hl
    gi_region_with (refine ⟨trivial, rfl, ?_⟩; gi_at_call 60; refine ((callsIn_wide.2 HTX.out).inRound _).mono ?_; rintro e w' ⟨rfl, rfl⟩)
    all_goals gi_wp2
    all_goals exact least_round hm HL.out H5.out HD.out HB.out (by omega) (by omega) (by omega)
  rintro e W' ⟨hv, ⟨r, hr1, hr2, hr3⟩, h5, hd, hB⟩
  refine ⟨hv, r, hr1, by rw [hr2]; decide, ?_⟩
  rw [hr3]
  rw [e9] at hd ⊢
  have k5 : ∀ o, (W'.putObj (w.heap.size + 2 + 1) o).heap[w.heap.size]? = some (.cells [.int .i64 m].toArray 3 (0, 0)) := fun o => (World.putObj_heap_other (by omega)).trans h5
  have q5 : ∀ o, (W'.putObj (w.heap.size + 2 + 1) o).cell? ⟨w.heap.size, 0, none⟩ = some (.int .i64 m) := fun o => by rw [cell_of_row _ _ 0 _ _ _ (k5 o)]; rfl
  have HD : Hid (∀ o, (W'.putObj (w.heap.size + 2 + 1) o).heap[w.heap.size + 2]? = some (.deferred (some []))) := fun o => (World.putObj_heap_other (by omega)).trans hd
  have HB := Lib.hid (fun o => put_below hB (k := w.heap.size + 2 + 1) (by omega) o)
  clear hr1 hr2 hr3 k5 h5 hd hB hv
  gi_wp2
  refine ⟨by simp, .inl ⟨_, _, rfl, run_takeDeferred (HD.out _), ?_⟩⟩
  exact ⟨_, by simp [results, Tryd.results44, go_sem], rfl, put_below (HB.out _) (by omega) _⟩
end Go.Proofs.YtchhbhgbpimegaaDoor
