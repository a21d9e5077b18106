/-
  The law's works: the chapter's examples hold. Made by wip/genfoldworks.py.
-/
import Derived.Test.YthmphmndpfkbcaaLawBin
import Derived.Outline
namespace Go.Proofs.Ythmphmndpfkbcaa
open Go.RowKit
/-- The trees of the examples. -/
abbrev xT : Ex := .mk 26 0 ⟨#[]⟩ ⟨#[]⟩ 0 2 0 []
abbrev sixT : Ex := .mk 9 4 ⟨#[]⟩ ⟨#[]⟩ 0 2 0 [numT 2 2, numT 3 2]
abbrev sumT : Ex := .mk 12 2 ⟨#[]⟩ ⟨#[]⟩ 0 2 0 [xT, sixT]
abbrev overT : Ex := .mk 10 0 ⟨#[]⟩ ⟨#[]⟩ 0 1 0 [numT 1 1, numT 0 1]
theorem sum_folds : foldT sumT = .mk 12 2 ⟨#[]⟩ ⟨#[]⟩ 0 2 0 [xT, .mk 0 4 ⟨#[]⟩ ⟨#[]⟩ 6 2 0 []] := by kernel_rfl
theorem over_folds : foldT overT = overT := by kernel_rfl
/-- The sum lies there, behind the box of x. -/
theorem sum_in (w2 : World) (t : TypeId) : SlIn (InW (((w2.alloc (.cells (numL 2 2 ++ numL 3 2).toArray t)).alloc (.cells (exL 9 4 ⟨#[]⟩ ⟨#[]⟩ 0 2 0 (some w2.heap.size) 2 2).toArray t)).alloc (.cells ((exL 26 0 ⟨#[]⟩ ⟨#[]⟩ 0 2 0 none 0 0) ++ (exL 9 4 ⟨#[]⟩ ⟨#[]⟩ 0 2 0 (some w2.heap.size) 2 2)).toArray t))) (((w2.alloc (.cells (numL 2 2 ++ numL 3 2).toArray t)).alloc (.cells (exL 9 4 ⟨#[]⟩ ⟨#[]⟩ 0 2 0 (some w2.heap.size) 2 2).toArray t)).alloc (.cells ((exL 26 0 ⟨#[]⟩ ⟨#[]⟩ 0 2 0 none 0 0) ++ (exL 9 4 ⟨#[]⟩ ⟨#[]⟩ 0 2 0 (some w2.heap.size) 2 2)).toArray t)) (some (w2.heap.size + 2)) [xT, sixT] := by
  have h1 := alloc_at w2 (.cells (numL 2 2 ++ numL 3 2).toArray t)
  have hs1 : (w2.alloc (.cells (numL 2 2 ++ numL 3 2).toArray t)).heap.size = w2.heap.size + 1 := by simp
  have hs2 : ((w2.alloc (.cells (numL 2 2 ++ numL 3 2).toArray t)).alloc (.cells (exL 9 4 ⟨#[]⟩ ⟨#[]⟩ 0 2 0 (some w2.heap.size) 2 2).toArray t)).heap.size = w2.heap.size + 2 := by simp
  rw [← Below.heap_alloc _ (.cells (exL 9 4 ⟨#[]⟩ ⟨#[]⟩ 0 2 0 (some w2.heap.size) 2 2).toArray t) _ (by omega), ← Below.heap_alloc _ (.cells ((exL 26 0 ⟨#[]⟩ ⟨#[]⟩ 0 2 0 none 0 0) ++ (exL 9 4 ⟨#[]⟩ ⟨#[]⟩ 0 2 0 (some w2.heap.size) 2 2)).toArray t) _ (by omega)] at h1
  have h3 := alloc_at ((w2.alloc (.cells (numL 2 2 ++ numL 3 2).toArray t)).alloc (.cells (exL 9 4 ⟨#[]⟩ ⟨#[]⟩ 0 2 0 (some w2.heap.size) 2 2).toArray t)) (.cells ((exL 26 0 ⟨#[]⟩ ⟨#[]⟩ 0 2 0 none 0 0) ++ (exL 9 4 ⟨#[]⟩ ⟨#[]⟩ 0 2 0 (some w2.heap.size) 2 2)).toArray t)
  rw [hs2] at h3
  refine SlIn.two h3 (ExIn.mk (args := []) .nil) (ExIn.mk (args := [_, _]) (SlIn.two h1 (num_in _ _ _ _ _) (num_in _ _ _ _ _) ?_)) ?_
  · show _ < _
    simp
    omega
  · show _ < _
    simp
/-- What the examples' last line loads. -/
structure WI (w : World) (h3 b3 c3 h4 g : Nat) (W : World) : Prop where
  r0 : W.cell? ⟨h3, 0, none⟩ = some (.int .i64 12)
  r7 : W.cell? ⟨h3, 7, none⟩ = some (.slice (some ⟨b3, 0, none⟩) 2 c3)
  x0 : W.cell? ⟨b3, 0, none⟩ = some (.int .i64 26)
  y0 : W.cell? ⟨b3, 8, none⟩ = some (.int .i64 0)
  y4 : W.cell? ⟨b3, 12, none⟩ = some (.int .i64 6)
  y1 : W.cell? ⟨b3, 9, none⟩ = some (.int .i64 4)
  r4 : CellsAt W h4 0 (exL 10 0 ⟨#[]⟩ ⟨#[]⟩ 0 1 0 (some g) 2 2)
  sl : SlIn (InW W) W (some g) [numT 1 1, numT 0 1]
  l3 : h3 < W.heap.size
  lb : b3 < W.heap.size
  l4 : h4 < W.heap.size
  below : Below w.heap.size w W
theorem WI.under {w : World} {h3 b3 c3 h4 g : Nat} {W W' : World} (h : WI w h3 b3 c3 h4 g W) (hb : Below W.heap.size W W') : WI w h3 b3 c3 h4 g W' := by
  have hs := hb.size
  obtain ⟨r0, r7, x0, y0, y4, y1, r4, sl, l3, lb, l4, hw⟩ := h
  refine ⟨?_, ?_, ?_, ?_, ?_, ?_, r4.below hb l4, sl.later hb, by omega, by omega, by omega, hw.trans (hb.mono hw.size)⟩
  · rw [hb.cell (p := ⟨h3, 0, none⟩) l3]
    exact r0
  · rw [hb.cell (p := ⟨h3, 7, none⟩) l3]
    exact r7
  · rw [hb.cell (p := ⟨b3, 0, none⟩) lb]
    exact x0
  · rw [hb.cell (p := ⟨b3, 8, none⟩) lb]
    exact y0
  · rw [hb.cell (p := ⟨b3, 12, none⟩) lb]
    exact y4
  · rw [hb.cell (p := ⟨b3, 9, none⟩) lb]
    exact y1
theorem WI.al {w : World} {h3 b3 c3 h4 g : Nat} {W : World} (h : WI w h3 b3 c3 h4 g W) (o : Obj) : WI w h3 b3 c3 h4 g (W.alloc o) := h.under ((Below.refl _ _).alloc (Nat.le_refl _) _)
theorem WI.drew {w : World} {h3 b3 c3 h4 g : Nat} {W : World} (h : WI w h3 b3 c3 h4 g W) : WI w h3 b3 c3 h4 g W.drew := h.under (Below.refl _ _).drew
theorem wrap_at (t v r : Int) (w : World) (h : wrapT t v = r) : Calls Try.prog 13 #[.int .i64 t, .int .i64 v] w fun e w' => e = .returned (.int .i32 r) ∧ w = w' := by
  subst h
  exact wrap_any t v w
theorem one_over {W : World} {b q c : Nat} {t : TypeId} (h : W.heap[b]? = some (.cells (exL 10 0 ⟨#[]⟩ ⟨#[]⟩ 0 1 0 (some q) 2 c).toArray t (0, 0))) (hs : SlIn (InW W) W (some q) [numT 1 1, numT 0 1]) : SlIn (InW W) W (some b) [overT] :=
  SlIn.one h (ExIn.mk (args := [_, _]) hs) (Array.getElem?_eq_some_iff.1 h).1
/-- The cells of the division by nought. -/
abbrev ovL (q c : Nat) : List Value := exL 10 0 ⟨#[]⟩ ⟨#[]⟩ 0 1 0 (some q) 2 c
theorem works_AB (W : World) (q1 c1 q2 c2 : Nat) (t : TypeId) (h1 : SlIn (InW W) W (some q1) [numT 1 1, numT 0 1]) (h2 : SlIn (InW W) W (some q2) [numT 1 1, numT 0 1]) :
    SlIn (InW ((W.alloc (.cells (ovL q1 c1).toArray t)).alloc (.cells (ovL q2 c2).toArray t))) ((W.alloc (.cells (ovL q1 c1).toArray t)).alloc (.cells (ovL q2 c2).toArray t)) (some W.heap.size) [overT] ∧
    SlIn (InW ((W.alloc (.cells (ovL q1 c1).toArray t)).alloc (.cells (ovL q2 c2).toArray t))) ((W.alloc (.cells (ovL q1 c1).toArray t)).alloc (.cells (ovL q2 c2).toArray t)) (some (W.heap.size + 1)) [overT] := by
  have hs1 : (W.alloc (.cells (ovL q1 c1).toArray t)).heap.size = W.heap.size + 1 := by simp
  have hB : Below W.heap.size W ((W.alloc (.cells (ovL q1 c1).toArray t)).alloc (.cells (ovL q2 c2).toArray t)) := ((Below.refl _ _).alloc (Nat.le_refl _) _).alloc (by omega) _
  have r1 := alloc_at W (.cells (ovL q1 c1).toArray t)
  rw [← Below.heap_alloc _ (.cells (ovL q2 c2).toArray t) _ (by omega)] at r1
  have r2 := alloc_at (W.alloc (.cells (ovL q1 c1).toArray t)) (.cells (ovL q2 c2).toArray t)
  rw [hs1] at r2
  exact ⟨one_over r1 (h1.later hB), one_over r2 (h2.later hB)⟩
theorem works_C (W0 wf : World) (q1 c1 q2 c2 : Nat) (t : TypeId) (h0 : SlIn (InW W0) W0 (some q2) [numT 1 1, numT 0 1]) (hb : Below (W0.alloc (.cells (ovL q2 c2).toArray t)).heap.size (W0.alloc (.cells (ovL q2 c2).toArray t)) wf) (h1 : SlIn (InW wf) wf (some q1) [numT 1 1, numT 0 1]) :
    SlIn (InW (wf.alloc (.cells (ovL q1 c1).toArray t))) (wf.alloc (.cells (ovL q1 c1).toArray t)) (some wf.heap.size) [overT] ∧ SlIn (InW (wf.alloc (.cells (ovL q1 c1).toArray t))) (wf.alloc (.cells (ovL q1 c1).toArray t)) (some W0.heap.size) [overT] := by
  have hs1 : (W0.alloc (.cells (ovL q2 c2).toArray t)).heap.size = W0.heap.size + 1 := by simp
  have hz := hb.size
  have hB1 : Below wf.heap.size wf (wf.alloc (.cells (ovL q1 c1).toArray t)) := (Below.refl _ _).alloc (Nat.le_refl _) _
  have hB : Below W0.heap.size W0 (wf.alloc (.cells (ovL q1 c1).toArray t)) := (((Below.refl _ _).alloc (Nat.le_refl _) _).trans (hb.mono (by omega))).alloc (by omega) _
  have r2 := alloc_at W0 (.cells (ovL q2 c2).toArray t)
  rw [← hb.block _ (by omega), ← Below.heap_alloc _ (.cells (ovL q1 c1).toArray t) _ (by omega)] at r2
  exact ⟨one_over (alloc_at wf _) (h1.later hB1), one_over r2 (h0.later hB)⟩
/-- What Fold answers of the sum. -/
def SumAns (W : World) (e : Ending) (w' : World) : Prop := ∃ (b c : Nat), e = .returned (.agg (exL 12 2 ⟨#[]⟩ ⟨#[]⟩ 0 2 0 (some b) 2 c).toArray) ∧ b < w'.heap.size ∧ w'.cell? ⟨b, 0, none⟩ = some (.int .i64 26) ∧ w'.cell? ⟨b, 8, none⟩ = some (.int .i64 0) ∧ w'.cell? ⟨b, 12, none⟩ = some (.int .i64 6) ∧ w'.cell? ⟨b, 9, none⟩ = some (.int .i64 4) ∧ Below W.heap.size W w'
theorem SumAns.of {W : World} {e : Ending} {w' : World} (h : ExprAns sumT W e w') : SumAns W e w' := by
  obtain ⟨op, at_, name, field, n, ty, ref, A, c, args, S, rfl, hfx, hsl, hS, hb⟩ := h
  rw [sum_folds] at hfx
  injection hfx with e1 e2 e3 e4 e5 e6 e7 e8
  subst e1 e2 e3 e4 e5 e6 e7 e8
  cases hsl with
  | row hl hs rows hc h =>
    rename_i b
    have hsl : SlIn S w' (some b) [xT, .mk 0 4 ⟨#[]⟩ ⟨#[]⟩ 6 2 0 []] := .row hl hs rows hc h
    obtain ⟨_, _, _, _, _, _, _, _, _, _, _, ex, _, hx⟩ := hsl.at 0 _ rfl
    obtain ⟨_, _, _, _, _, _, _, _, _, _, _, ey, _, hy⟩ := hsl.at 1 _ rfl
    injection ex with x1 x2 x3 x4 x5 x6 x7 x8
    injection ey with y1 y2 y3 y4 y5 y6 y7 y8
    subst x1 x2 x3 x4 x5 x6 x7 x8 y1 y2 y3 y4 y5 y6 y7 y8
    exact ⟨b, c, rfl, (hS b hs).2, hx 0 _ rfl, hy 0 _ rfl, hy 4 _ rfl, hy 1 _ rfl, hb⟩
/-- What Fold answers of the division by nought. -/
def OverAns (W : World) (e : Ending) (w' : World) : Prop := ∃ (b c : Nat), e = .returned (.agg (exL 10 0 ⟨#[]⟩ ⟨#[]⟩ 0 1 0 (some b) 2 c).toArray) ∧ SlIn (InW w') w' (some b) [numT 1 1, numT 0 1] ∧ Below W.heap.size W w'
theorem OverAns.of {W : World} {e : Ending} {w' : World} (h : ExprAns overT W e w') : OverAns W e w' := by
  obtain ⟨op, at_, name, field, n, ty, ref, A, c, args, S, rfl, hfx, hsl, hS, hb⟩ := h
  rw [over_folds] at hfx
  injection hfx with e1 e2 e3 e4 e5 e6 e7 e8
  subst e1 e2 e3 e4 e5 e6 e7 e8
  cases hsl with
  | row hl hs rows hc h => exact ⟨_, c, rfl, SlIn.wide (.row hl hs rows hc h) (fun b hb => (hS b hb).2), hb⟩
theorem works_5 (w w3 w4 w5 : World) (b c : Nat) (hb : b < w3.heap.size) (hx : w3.cell? ⟨b, 0, none⟩ = some (.int .i64 26)) (hy : w3.cell? ⟨b, 8, none⟩ = some (.int .i64 0)) (hy4 : w3.cell? ⟨b, 12, none⟩ = some (.int .i64 6)) (hy1 : w3.cell? ⟨b, 9, none⟩ = some (.int .i64 4))
    (hb4 : Below (w3.alloc (.cells (exL 12 2 ⟨#[]⟩ ⟨#[]⟩ 0 2 0 (some b) 2 c).toArray 27)).heap.size (w3.alloc (.cells (exL 12 2 ⟨#[]⟩ ⟨#[]⟩ 0 2 0 (some b) 2 c).toArray 27)) w4) (hb5 : Below w4.heap.size w4 w5) (hw : Below w.heap.size w w3) :
    WI w w3.heap.size b c (w5.heap.size + 1) w5.heap.size ((w5.alloc (.cells (numL 1 1 ++ numL 0 1).toArray 27)).alloc (.cells (exL 10 0 ⟨#[]⟩ ⟨#[]⟩ 0 1 0 (some w5.heap.size) 2 2).toArray 27)) := by
  have hs : (w3.alloc (.cells (exL 12 2 ⟨#[]⟩ ⟨#[]⟩ 0 2 0 (some b) 2 c).toArray 27)).heap.size = w3.heap.size + 1 := by simp
  have h4 := hb4.size
  have h5 := hb5.size
  have hs1 : (w5.alloc (.cells (numL 1 1 ++ numL 0 1).toArray 27)).heap.size = w5.heap.size + 1 := by simp
  have hB : Below (w3.heap.size + 1) (w3.alloc (.cells (exL 12 2 ⟨#[]⟩ ⟨#[]⟩ 0 2 0 (some b) 2 c).toArray 27)) ((w5.alloc (.cells (numL 1 1 ++ numL 0 1).toArray 27)).alloc (.cells (exL 10 0 ⟨#[]⟩ ⟨#[]⟩ 0 1 0 (some w5.heap.size) 2 2).toArray 27)) := (((hb4.mono (by omega)).trans (hb5.mono (by omega))).alloc (by omega) _).alloc (by omega) _
  have hB3 : Below w3.heap.size w3 ((w5.alloc (.cells (numL 1 1 ++ numL 0 1).toArray 27)).alloc (.cells (exL 10 0 ⟨#[]⟩ ⟨#[]⟩ 0 1 0 (some w5.heap.size) 2 2).toArray 27)) := ((Below.refl _ _).alloc (Nat.le_refl _) _).trans (hB.mono (by omega))
  have r1 := alloc_at w5 (.cells (numL 1 1 ++ numL 0 1).toArray 27)
  rw [← Below.heap_alloc _ (.cells (exL 10 0 ⟨#[]⟩ ⟨#[]⟩ 0 1 0 (some w5.heap.size) 2 2).toArray 27) _ (by omega)] at r1
  have r2 := alloc_at (w5.alloc (.cells (numL 1 1 ++ numL 0 1).toArray 27)) (.cells (exL 10 0 ⟨#[]⟩ ⟨#[]⟩ 0 1 0 (some w5.heap.size) 2 2).toArray 27)
  rw [hs1] at r2
  have r3 : ((w5.alloc (.cells (numL 1 1 ++ numL 0 1).toArray 27)).alloc (.cells (exL 10 0 ⟨#[]⟩ ⟨#[]⟩ 0 1 0 (some w5.heap.size) 2 2).toArray 27)).heap[w3.heap.size]? = some (.cells (exL 12 2 ⟨#[]⟩ ⟨#[]⟩ 0 2 0 (some b) 2 c).toArray 27 (0, 0)) := by
    rw [hB.block _ (by omega)]
    exact alloc_at w3 _
  refine ⟨row_at r3 0 _ rfl, row_at r3 7 _ rfl, ?_, ?_, ?_, ?_, row_cells r2, SlIn.two r1 (num_in _ _ _ _ _) (num_in _ _ _ _ _) (by show _ < _; simp; omega), by simp; omega, by simp; omega, by simp, hw.trans (hB3.mono hw.size)⟩
  · rw [hB3.cell (p := ⟨b, 0, none⟩) hb]
    exact hx
  · rw [hB3.cell (p := ⟨b, 8, none⟩) hb]
    exact hy
  · rw [hB3.cell (p := ⟨b, 12, none⟩) hb]
    exact hy4
  · rw [hB3.cell (p := ⟨b, 9, none⟩) hb]
    exact hy1
theorem works_2 (w w1 w2 : World) (cs : List Value) (hb1 : Below (w.alloc (.cells cs.toArray 27)).heap.size (w.alloc (.cells cs.toArray 27)) w1) (hb2 : Below w1.heap.size w1 w2) :
    w2.heap[w.heap.size]? = some (.cells cs.toArray 27 (0, 0)) ∧ w.heap.size < w2.heap.size ∧ Below w.heap.size w w2 := by
  have hs : (w.alloc (.cells cs.toArray 27)).heap.size = w.heap.size + 1 := by simp
  have h1 := hb1.size
  have h2 := hb2.size
  refine ⟨?_, by omega, ((Below.refl _ _).alloc (Nat.le_refl _) _).trans ((hb1.mono (by omega)).trans (hb2.mono (by omega)))⟩
  rw [hb2.block _ (by omega), hb1.block _ (by omega)]
  exact alloc_at w _
set_option maxRecDepth 100000 in
set_option maxHeartbeats 4000000 in
theorem works_any (w : World) : Calls Try.prog 6 #[] w fun e w' => e = .returned (.bool true) ∧ Below w.heap.size w w' := by
  go_enter Try.func6, Try.ntmps6
  go_wp2_with (first | (go_at_call 17; refine (num_any 2 2 _).mono ?_; rintro e w1 ⟨rfl, hb1⟩) | (go_at_call 17; refine (num_any 3 2 _).mono ?_; rintro e w2 ⟨rfl, hb2⟩; obtain ⟨hrow, hlt, hbw⟩ := works_2 w w1 w2 _ hb1 hb2; have HBW := Lib.hid hbw; have q0 := row_at hrow 0 _ rfl; have q1 := row_at hrow 1 _ rfl; have q2 := row_at hrow 2 _ rfl; have q3 := row_at hrow 3 _ rfl; have q4 := row_at hrow 4 _ rfl; have q5 := row_at hrow 5 _ rfl; have q6 := row_at hrow 6 _ rfl; have q7 := row_at hrow 7 _ rfl; clear hrow hb1 hb2 hbw) | (go_at_call 8; refine (fold_any 12 2 ⟨#[]⟩ ⟨#[]⟩ 0 2 0 (some (w2.heap.size + 2)) 2 [xT, sixT] _ _ (sum_in w2 _) (fun _ h => h)).mono ?_; rintro e w3 hans; obtain ⟨b3, c3, rfl, hl3, hx3, hy3, hy34, hy31, hb3⟩ := SumAns.of hans; clear hans q0 q1 q2 q3 q4 q5 q6 q7; have HS3 := Lib.hid (And.intro hl3 (And.intro hx3 (And.intro hy3 (And.intro hy34 hy31)))); have HB3 : Hid (Below w.heap.size w w3) := (Below.al (Below.al (Below.al HBW.out (Nat.le_refl _) _) (Nat.le_refl _) _) (Nat.le_refl _) _).trans (hb3.mono (by have := HBW.out.size; simp; omega)); clear hl3 hx3 hy3 hy34 hy31 hb3 HBW hlt) | (go_at_call 17; refine (num_any 1 1 _).mono ?_; rintro e w4 ⟨rfl, hb4⟩) | (go_at_call 17; refine (num_any 0 1 _).mono ?_; rintro e w5 ⟨rfl, hb5⟩; have HI := Lib.hid (works_5 w w3 w4 w5 b3 c3 HS3.out.1 HS3.out.2.1 HS3.out.2.2.1 HS3.out.2.2.2.1 HS3.out.2.2.2.2 hb4 hb5 HB3.out); clear hb4 hb5 HS3 HB3) | (go_at_call 14; refine (binZ10 2 5 _).mono ?_; rintro e w' ⟨rfl, rfl⟩) | (go_at_call 13; refine (wrap_any _ _ _).mono ?_; rintro e w' ⟨rfl, rfl⟩))
  simp only [List.append_eq, List.cons_append, List.nil_append]
  have HI2 := HI.out
  clear HI
  have HI := Lib.hid HI2
  clear HI2
  generalize w5.heap.size + 1 = h4 at *
  refine wp_region_noPanic ?_
  refine wp_region_held_drew (S := (fun W => WI w w3.heap.size b3 c3 h4 w5.heap.size W)) (by as_aux_lemma => kernel_rfl) (by first | exact HI.out | exact HI.out.drew) (fun hHeld => ?_)
  refine only_ 0 rfl (by as_aux_lemma => kernel_rfl) (by rfl) (fun K hK => ?_)
  go_simp
  refine (wrap_at 1 (32768) (-32768) _ (by as_aux_lemma => kernel_rfl)).mono ?_
  rintro e wz ⟨rfl, rfl⟩
  go_simp
  refine hK.out _ _ hHeld (fun hHeld2 => ?_)
  clear hK K hHeld
  have hHeld := hHeld2
  clear hHeld2
  try simp only [Act.put, List.setIfInBounds_toArray, List.set_cons_zero, List.set_cons_succ]
  refine' take_ 1 rfl (by as_aux_lemma => kernel_rfl) (by as_aux_lemma => kernel_rfl) (by as_aux_lemma => kernel_rfl) (fun _ _ _ h => h) (by rfl) (fun wS hSw => ?_) hHeld ?_
  rotate_left
  focus (obtain ⟨s0, s7, sx0, sy0, sy4, sy1, _, _, _, _, _, _⟩ := hSw; go_simp; (try with_reducible rfl); done)
  try simp only [Act.put, List.setIfInBounds_toArray, List.set_cons_zero, List.set_cons_succ]
  refine' take_ 2 rfl (by as_aux_lemma => kernel_rfl) (by as_aux_lemma => kernel_rfl) (by as_aux_lemma => kernel_rfl) (fun _ _ _ h => h) (by rfl) (fun wS hSw => ?_) hHeld ?_
  rotate_left
  focus (obtain ⟨s0, s7, sx0, sy0, sy4, sy1, _, _, _, _, _, _⟩ := hSw; go_simp; (try with_reducible rfl); done)
  try simp only [Act.put, List.setIfInBounds_toArray, List.set_cons_zero, List.set_cons_succ]
  refine only_ 3 rfl (by as_aux_lemma => kernel_rfl) (by rfl) (fun K hK => ?_)
  go_simp
  refine (wrap_at 1 (65535) (-1) _ (by as_aux_lemma => kernel_rfl)).mono ?_
  rintro e wz ⟨rfl, rfl⟩
  go_simp
  refine hK.out _ _ hHeld (fun hHeld2 => ?_)
  clear hK K hHeld
  have hHeld := hHeld2
  clear hHeld2
  try simp only [Act.put, List.setIfInBounds_toArray, List.set_cons_zero, List.set_cons_succ]
  refine' take_ 4 rfl (by as_aux_lemma => kernel_rfl) (by as_aux_lemma => kernel_rfl) (by as_aux_lemma => kernel_rfl) (fun _ _ _ h => h) (by rfl) (fun wS hSw => ?_) hHeld ?_
  rotate_left
  focus (obtain ⟨s0, s7, sx0, sy0, sy4, sy1, _, _, _, _, _, _⟩ := hSw; go_simp; (try with_reducible rfl); done)
  try simp only [Act.put, List.setIfInBounds_toArray, List.set_cons_zero, List.set_cons_succ]
  refine' take_ 5 rfl (by as_aux_lemma => kernel_rfl) (by as_aux_lemma => kernel_rfl) (by as_aux_lemma => kernel_rfl) (fun _ _ _ h => h) (by rfl) (fun wS hSw => ?_) hHeld ?_
  rotate_left
  focus (obtain ⟨s0, s7, sx0, sy0, sy4, sy1, _, _, _, _, _, _⟩ := hSw; go_simp; (try with_reducible rfl); done)
  try simp only [Act.put, List.setIfInBounds_toArray, List.set_cons_zero, List.set_cons_succ]
  refine' take_ 6 rfl (by as_aux_lemma => kernel_rfl) (by as_aux_lemma => kernel_rfl) (by as_aux_lemma => kernel_rfl) (fun _ _ _ h => h) (by rfl) (fun wS hSw => ?_) hHeld ?_
  rotate_left
  focus (obtain ⟨s0, s7, sx0, sy0, sy4, sy1, _, _, _, _, _, _⟩ := hSw; go_simp; (try with_reducible rfl); done)
  try simp only [Act.put, List.setIfInBounds_toArray, List.set_cons_zero, List.set_cons_succ]
  refine only_ 7 rfl (by as_aux_lemma => kernel_rfl) (by rfl) (fun K hK => ?_)
  go_simp
  refine (wrap_at 1 (-32769) (32767) _ (by as_aux_lemma => kernel_rfl)).mono ?_
  rintro e wz ⟨rfl, rfl⟩
  go_simp
  refine hK.out _ _ hHeld (fun hHeld2 => ?_)
  clear hK K hHeld
  have hHeld := hHeld2
  clear hHeld2
  try simp only [Act.put, List.setIfInBounds_toArray, List.set_cons_zero, List.set_cons_succ]
  refine' take_ 8 rfl (by as_aux_lemma => kernel_rfl) (by as_aux_lemma => kernel_rfl) (by as_aux_lemma => kernel_rfl) (fun _ _ _ h => h) (by rfl) (fun wS hSw => ?_) hHeld ?_
  rotate_left
  focus (obtain ⟨s0, s7, sx0, sy0, sy4, sy1, _, _, _, _, _, _⟩ := hSw; go_simp; (try with_reducible rfl); done)
  try simp only [Act.put, List.setIfInBounds_toArray, List.set_cons_zero, List.set_cons_succ]
  refine' take_ 9 rfl (by as_aux_lemma => kernel_rfl) (by as_aux_lemma => kernel_rfl) (by as_aux_lemma => kernel_rfl) (fun _ _ _ h => h) (by rfl) (fun wS hSw => ?_) hHeld ?_
  rotate_left
  focus (obtain ⟨s0, s7, sx0, sy0, sy4, sy1, _, _, _, _, _, _⟩ := hSw; go_simp; (try with_reducible rfl); done)
  try simp only [Act.put, List.setIfInBounds_toArray, List.set_cons_zero, List.set_cons_succ]
  refine' take_ 10 rfl (by as_aux_lemma => kernel_rfl) (by as_aux_lemma => kernel_rfl) (by as_aux_lemma => kernel_rfl) (fun _ _ _ h => h) (by rfl) (fun wS hSw => ?_) hHeld ?_
  rotate_left
  focus (obtain ⟨s0, s7, sx0, sy0, sy4, sy1, _, _, _, _, _, _⟩ := hSw; go_simp; (try with_reducible rfl); done)
  try simp only [Act.put, List.setIfInBounds_toArray, List.set_cons_zero, List.set_cons_succ]
  refine only_ 11 rfl (by as_aux_lemma => kernel_rfl) (by rfl) (fun K hK => ?_)
  go_simp
  refine (lawBin (10) (1) (-32768) (-1) (-32768) _ (by as_aux_lemma => kernel_rfl)).mono ?_
  rintro e wb11 ⟨rfl, hb11⟩
  have HH := Lib.hid (hHeld.under hb11)
  clear hb11
  go_simp
  refine hK.out _ _ HH.out (fun hHeld2 => ?_)
  clear hK K hHeld
  have hHeld := hHeld2
  clear hHeld2
  try simp only [Act.put, List.setIfInBounds_toArray, List.set_cons_zero, List.set_cons_succ]
  clear HH
  refine' take_ 12 rfl (by as_aux_lemma => kernel_rfl) (by as_aux_lemma => kernel_rfl) (by as_aux_lemma => kernel_rfl) (fun _ _ _ h => h) (by rfl) (fun wS hSw => ?_) hHeld ?_
  rotate_left
  focus (obtain ⟨s0, s7, sx0, sy0, sy4, sy1, _, _, _, _, _, _⟩ := hSw; go_simp; (try with_reducible rfl); done)
  try simp only [Act.put, List.setIfInBounds_toArray, List.set_cons_zero, List.set_cons_succ]
  refine' take_ 13 rfl (by as_aux_lemma => kernel_rfl) (by as_aux_lemma => kernel_rfl) (by as_aux_lemma => kernel_rfl) (fun _ _ _ h => h) (by rfl) (fun wS hSw => ?_) hHeld ?_
  rotate_left
  focus (obtain ⟨s0, s7, sx0, sy0, sy4, sy1, _, _, _, _, _, _⟩ := hSw; go_simp; (try with_reducible rfl); done)
  try simp only [Act.put, List.setIfInBounds_toArray, List.set_cons_zero, List.set_cons_succ]
  refine only_ 14 rfl (by as_aux_lemma => kernel_rfl) (by rfl) (fun K hK => ?_)
  go_simp
  refine (lawBin (10) (2) (7) (-2) (-3) _ (by as_aux_lemma => kernel_rfl)).mono ?_
  rintro e wb14 ⟨rfl, hb14⟩
  have HH := Lib.hid (hHeld.under hb14)
  clear hb14
  go_simp
  refine hK.out _ _ HH.out (fun hHeld2 => ?_)
  clear hK K hHeld
  have hHeld := hHeld2
  clear hHeld2
  try simp only [Act.put, List.setIfInBounds_toArray, List.set_cons_zero, List.set_cons_succ]
  clear HH
  refine' take_ 15 rfl (by as_aux_lemma => kernel_rfl) (by as_aux_lemma => kernel_rfl) (by as_aux_lemma => kernel_rfl) (fun _ _ _ h => h) (by rfl) (fun wS hSw => ?_) hHeld ?_
  rotate_left
  focus (obtain ⟨s0, s7, sx0, sy0, sy4, sy1, _, _, _, _, _, _⟩ := hSw; go_simp; (try with_reducible rfl); done)
  try simp only [Act.put, List.setIfInBounds_toArray, List.set_cons_zero, List.set_cons_succ]
  refine' take_ 16 rfl (by as_aux_lemma => kernel_rfl) (by as_aux_lemma => kernel_rfl) (by as_aux_lemma => kernel_rfl) (fun _ _ _ h => h) (by rfl) (fun wS hSw => ?_) hHeld ?_
  rotate_left
  focus (obtain ⟨s0, s7, sx0, sy0, sy4, sy1, _, _, _, _, _, _⟩ := hSw; go_simp; (try with_reducible rfl); done)
  try simp only [Act.put, List.setIfInBounds_toArray, List.set_cons_zero, List.set_cons_succ]
  refine only_ 17 rfl (by as_aux_lemma => kernel_rfl) (by rfl) (fun K hK => ?_)
  go_simp
  refine (lawBin (11) (2) (-7) (2) (-1) _ (by as_aux_lemma => kernel_rfl)).mono ?_
  rintro e wb17 ⟨rfl, hb17⟩
  have HH := Lib.hid (hHeld.under hb17)
  clear hb17
  go_simp
  refine hK.out _ _ HH.out (fun hHeld2 => ?_)
  clear hK K hHeld
  have hHeld := hHeld2
  clear hHeld2
  try simp only [Act.put, List.setIfInBounds_toArray, List.set_cons_zero, List.set_cons_succ]
  clear HH
  refine' take_ 18 rfl (by as_aux_lemma => kernel_rfl) (by as_aux_lemma => kernel_rfl) (by as_aux_lemma => kernel_rfl) (fun _ _ _ h => h) (by rfl) (fun wS hSw => ?_) hHeld ?_
  rotate_left
  focus (obtain ⟨s0, s7, sx0, sy0, sy4, sy1, _, _, _, _, _, _⟩ := hSw; go_simp; (try with_reducible rfl); done)
  try simp only [Act.put, List.setIfInBounds_toArray, List.set_cons_zero, List.set_cons_succ]
  refine' take_ 19 rfl (by as_aux_lemma => kernel_rfl) (by as_aux_lemma => kernel_rfl) (by as_aux_lemma => kernel_rfl) (fun _ _ _ h => h) (by rfl) (fun wS hSw => ?_) hHeld ?_
  rotate_left
  focus (obtain ⟨s0, s7, sx0, sy0, sy4, sy1, _, _, _, _, _, _⟩ := hSw; go_simp; (try with_reducible rfl); done)
  try simp only [Act.put, List.setIfInBounds_toArray, List.set_cons_zero, List.set_cons_succ]
  refine only_ 20 rfl (by as_aux_lemma => kernel_rfl) (by rfl) (fun K hK => ?_)
  go_simp
  refine (lawBin (15) (1) (-5) (17) (-3) _ (by as_aux_lemma => kernel_rfl)).mono ?_
  rintro e wb20 ⟨rfl, hb20⟩
  have HH := Lib.hid (hHeld.under hb20)
  clear hb20
  go_simp
  refine hK.out _ _ HH.out (fun hHeld2 => ?_)
  clear hK K hHeld
  have hHeld := hHeld2
  clear hHeld2
  try simp only [Act.put, List.setIfInBounds_toArray, List.set_cons_zero, List.set_cons_succ]
  clear HH
  refine' take_ 21 rfl (by as_aux_lemma => kernel_rfl) (by as_aux_lemma => kernel_rfl) (by as_aux_lemma => kernel_rfl) (fun _ _ _ h => h) (by rfl) (fun wS hSw => ?_) hHeld ?_
  rotate_left
  focus (obtain ⟨s0, s7, sx0, sy0, sy4, sy1, _, _, _, _, _, _⟩ := hSw; go_simp; (try with_reducible rfl); done)
  try simp only [Act.put, List.setIfInBounds_toArray, List.set_cons_zero, List.set_cons_succ]
  refine' take_ 22 rfl (by as_aux_lemma => kernel_rfl) (by as_aux_lemma => kernel_rfl) (by as_aux_lemma => kernel_rfl) (fun _ _ _ h => h) (by rfl) (fun wS hSw => ?_) hHeld ?_
  rotate_left
  focus (obtain ⟨s0, s7, sx0, sy0, sy4, sy1, _, _, _, _, _, _⟩ := hSw; go_simp; (try with_reducible rfl); done)
  try simp only [Act.put, List.setIfInBounds_toArray, List.set_cons_zero, List.set_cons_succ]
  refine only_ 23 rfl (by as_aux_lemma => kernel_rfl) (by rfl) (fun K hK => ?_)
  go_simp
  refine (lawBin (14) (1) (1) (15) (-32768) _ (by as_aux_lemma => kernel_rfl)).mono ?_
  rintro e wb23 ⟨rfl, hb23⟩
  have HH := Lib.hid (hHeld.under hb23)
  clear hb23
  go_simp
  refine hK.out _ _ HH.out (fun hHeld2 => ?_)
  clear hK K hHeld
  have hHeld := hHeld2
  clear hHeld2
  try simp only [Act.put, List.setIfInBounds_toArray, List.set_cons_zero, List.set_cons_succ]
  clear HH
  refine' take_ 24 rfl (by as_aux_lemma => kernel_rfl) (by as_aux_lemma => kernel_rfl) (by as_aux_lemma => kernel_rfl) (fun _ _ _ h => h) (by rfl) (fun wS hSw => ?_) hHeld ?_
  rotate_left
  focus (obtain ⟨s0, s7, sx0, sy0, sy4, sy1, _, _, _, _, _, _⟩ := hSw; go_simp; (try with_reducible rfl); done)
  try simp only [Act.put, List.setIfInBounds_toArray, List.set_cons_zero, List.set_cons_succ]
  refine' take_ 25 rfl (by as_aux_lemma => kernel_rfl) (by as_aux_lemma => kernel_rfl) (by as_aux_lemma => kernel_rfl) (fun _ _ _ h => h) (by rfl) (fun wS hSw => ?_) hHeld ?_
  rotate_left
  focus (obtain ⟨s0, s7, sx0, sy0, sy4, sy1, _, _, _, _, _, _⟩ := hSw; go_simp; (try with_reducible rfl); done)
  try simp only [Act.put, List.setIfInBounds_toArray, List.set_cons_zero, List.set_cons_succ]
  refine only_ 26 rfl (by as_aux_lemma => kernel_rfl) (by rfl) (fun K hK => ?_)
  go_simp
  refine (lawBin (16) (1) (3) (4) (1) _ (by as_aux_lemma => kernel_rfl)).mono ?_
  rintro e wb26 ⟨rfl, hb26⟩
  have HH := Lib.hid (hHeld.under hb26)
  clear hb26
  go_simp
  refine hK.out _ _ HH.out (fun hHeld2 => ?_)
  clear hK K hHeld
  have hHeld := hHeld2
  clear hHeld2
  try simp only [Act.put, List.setIfInBounds_toArray, List.set_cons_zero, List.set_cons_succ]
  clear HH
  refine' take_ 27 rfl (by as_aux_lemma => kernel_rfl) (by as_aux_lemma => kernel_rfl) (by as_aux_lemma => kernel_rfl) (fun _ _ _ h => h) (by rfl) (fun wS hSw => ?_) hHeld ?_
  rotate_left
  focus (obtain ⟨s0, s7, sx0, sy0, sy4, sy1, _, _, _, _, _, _⟩ := hSw; go_simp; (try with_reducible rfl); done)
  try simp only [Act.put, List.setIfInBounds_toArray, List.set_cons_zero, List.set_cons_succ]
  refine' take_ 28 rfl (by as_aux_lemma => kernel_rfl) (by as_aux_lemma => kernel_rfl) (by as_aux_lemma => kernel_rfl) (fun _ _ _ h => h) (by rfl) (fun wS hSw => ?_) hHeld ?_
  rotate_left
  focus (obtain ⟨s0, s7, sx0, sy0, sy4, sy1, _, _, _, _, _, _⟩ := hSw; go_simp; (try with_reducible rfl); done)
  try simp only [Act.put, List.setIfInBounds_toArray, List.set_cons_zero, List.set_cons_succ]
  refine' take_ 29 rfl (by as_aux_lemma => kernel_rfl) (by as_aux_lemma => kernel_rfl) (by as_aux_lemma => kernel_rfl) (fun _ _ _ h => h) (by rfl) (fun wS hSw => ?_) hHeld ?_
  rotate_left
  focus (obtain ⟨s0, s7, sx0, sy0, sy4, sy1, _, _, _, _, _, _⟩ := hSw; go_simp; (try with_reducible rfl); done)
  try simp only [Act.put, List.setIfInBounds_toArray, List.set_cons_zero, List.set_cons_succ]
  refine' take_ 30 rfl (by as_aux_lemma => kernel_rfl) (by as_aux_lemma => kernel_rfl) (by as_aux_lemma => kernel_rfl) (fun _ _ _ h => h) (by rfl) (fun wS hSw => ?_) hHeld ?_
  rotate_left
  focus (obtain ⟨s0, s7, sx0, sy0, sy4, sy1, _, _, _, _, _, _⟩ := hSw; go_simp; (try with_reducible rfl); done)
  try simp only [Act.put, List.setIfInBounds_toArray, List.set_cons_zero, List.set_cons_succ]
  refine' take_ 31 rfl (by as_aux_lemma => kernel_rfl) (by as_aux_lemma => kernel_rfl) (by as_aux_lemma => kernel_rfl) (fun _ _ _ h => h) (by rfl) (fun wS hSw => ?_) hHeld ?_
  rotate_left
  focus (obtain ⟨s0, s7, sx0, sy0, sy4, sy1, _, _, _, _, _, _⟩ := hSw; go_simp; (try with_reducible rfl); done)
  try simp only [Act.put, List.setIfInBounds_toArray, List.set_cons_zero, List.set_cons_succ]
  refine' take_ 32 rfl (by as_aux_lemma => kernel_rfl) (by as_aux_lemma => kernel_rfl) (by as_aux_lemma => kernel_rfl) (fun _ _ _ h => h) (by rfl) (fun wS hSw => ?_) hHeld ?_
  rotate_left
  focus (obtain ⟨s0, s7, sx0, sy0, sy4, sy1, _, _, _, _, _, _⟩ := hSw; go_simp; (try with_reducible rfl); done)
  try simp only [Act.put, List.setIfInBounds_toArray, List.set_cons_zero, List.set_cons_succ]
  refine' take_ 33 rfl (by as_aux_lemma => kernel_rfl) (by as_aux_lemma => kernel_rfl) (by as_aux_lemma => kernel_rfl) (fun _ _ _ h => h) (by rfl) (fun wS hSw => ?_) hHeld ?_
  rotate_left
  focus (obtain ⟨s0, s7, sx0, sy0, sy4, sy1, _, _, _, _, _, _⟩ := hSw; go_simp; (try with_reducible rfl); done)
  try simp only [Act.put, List.setIfInBounds_toArray, List.set_cons_zero, List.set_cons_succ]
  refine' take_ 34 rfl (by as_aux_lemma => kernel_rfl) (by as_aux_lemma => kernel_rfl) (by as_aux_lemma => kernel_rfl) (fun _ _ _ h => h) (by rfl) (fun wS hSw => ?_) hHeld ?_
  rotate_left
  focus (obtain ⟨s0, s7, sx0, sy0, sy4, sy1, _, _, _, _, _, _⟩ := hSw; go_simp; (try with_reducible rfl); done)
  try simp only [Act.put, List.setIfInBounds_toArray, List.set_cons_zero, List.set_cons_succ]
  refine' take_ 35 rfl (by as_aux_lemma => kernel_rfl) (by as_aux_lemma => kernel_rfl) (by as_aux_lemma => kernel_rfl) (fun _ _ _ h => h) (by rfl) (fun wS hSw => ?_) hHeld ?_
  rotate_left
  focus (obtain ⟨s0, s7, sx0, sy0, sy4, sy1, _, _, _, _, _, _⟩ := hSw; go_simp; (try with_reducible rfl); done)
  try simp only [Act.put, List.setIfInBounds_toArray, List.set_cons_zero, List.set_cons_succ]
  refine' take_ 36 rfl (by as_aux_lemma => kernel_rfl) (by as_aux_lemma => kernel_rfl) (by as_aux_lemma => kernel_rfl) (fun _ _ _ h => h) (by rfl) (fun wS hSw => ?_) hHeld ?_
  rotate_left
  focus (obtain ⟨s0, s7, sx0, sy0, sy4, sy1, _, _, _, _, _, _⟩ := hSw; go_simp; (try with_reducible rfl); done)
  try simp only [Act.put, List.setIfInBounds_toArray, List.set_cons_zero, List.set_cons_succ]
  refine' take_ 37 rfl (by as_aux_lemma => kernel_rfl) (by as_aux_lemma => kernel_rfl) (by as_aux_lemma => kernel_rfl) (fun _ _ _ h => h) (by rfl) (fun wS hSw => ?_) hHeld ?_
  rotate_left
  focus (obtain ⟨s0, s7, sx0, sy0, sy4, sy1, _, _, _, _, _, _⟩ := hSw; go_simp; (try with_reducible rfl); done)
  try simp only [Act.put, List.setIfInBounds_toArray, List.set_cons_zero, List.set_cons_succ]
  refine' take_ 38 rfl (by as_aux_lemma => kernel_rfl) (by as_aux_lemma => kernel_rfl) (by as_aux_lemma => kernel_rfl) (fun _ _ _ h => h) (by rfl) (fun wS hSw => ?_) hHeld ?_
  rotate_left
  focus (obtain ⟨s0, s7, sx0, sy0, sy4, sy1, _, _, _, _, _, _⟩ := hSw; go_simp; (try with_reducible rfl); done)
  try simp only [Act.put, List.setIfInBounds_toArray, List.set_cons_zero, List.set_cons_succ]
  refine' take_ 39 rfl (by as_aux_lemma => kernel_rfl) (by as_aux_lemma => kernel_rfl) (by as_aux_lemma => kernel_rfl) (fun _ _ _ h => h) (by rfl) (fun wS hSw => ?_) hHeld ?_
  rotate_left
  focus (obtain ⟨s0, s7, sx0, sy0, sy4, sy1, _, _, _, _, _, _⟩ := hSw; go_simp; (try with_reducible rfl); done)
  try simp only [Act.put, List.setIfInBounds_toArray, List.set_cons_zero, List.set_cons_succ]
  refine' take_ 40 rfl (by as_aux_lemma => kernel_rfl) (by as_aux_lemma => kernel_rfl) (by as_aux_lemma => kernel_rfl) (fun _ _ _ h => h) (by rfl) (fun wS hSw => ?_) hHeld ?_
  rotate_left
  focus (obtain ⟨s0, s7, sx0, sy0, sy4, sy1, _, _, _, _, _, _⟩ := hSw; go_simp; (try with_reducible rfl); done)
  try simp only [Act.put, List.setIfInBounds_toArray, List.set_cons_zero, List.set_cons_succ]
  refine' take_ 41 rfl (by as_aux_lemma => kernel_rfl) (by as_aux_lemma => kernel_rfl) (by as_aux_lemma => kernel_rfl) (fun _ _ _ h => h) (by rfl) (fun wS hSw => ?_) hHeld ?_
  rotate_left
  focus (obtain ⟨s0, s7, sx0, sy0, sy4, sy1, _, _, _, _, _, _⟩ := hSw; go_simp; (try with_reducible rfl); done)
  try simp only [Act.put, List.setIfInBounds_toArray, List.set_cons_zero, List.set_cons_succ]
  refine' take_ 42 rfl (by as_aux_lemma => kernel_rfl) (by as_aux_lemma => kernel_rfl) (by as_aux_lemma => kernel_rfl) (fun _ _ _ h => h) (by rfl) (fun wS hSw => ?_) hHeld ?_
  rotate_left
  focus (obtain ⟨s0, s7, sx0, sy0, sy4, sy1, _, _, _, _, _, _⟩ := hSw; go_simp; (try with_reducible rfl); done)
  try simp only [Act.put, List.setIfInBounds_toArray, List.set_cons_zero, List.set_cons_succ]
  refine' take_ 43 rfl (by as_aux_lemma => kernel_rfl) (by as_aux_lemma => kernel_rfl) (by as_aux_lemma => kernel_rfl) (fun _ _ _ h => h) (by rfl) (fun wS hSw => ?_) hHeld ?_
  rotate_left
  focus (obtain ⟨s0, s7, sx0, sy0, sy4, sy1, _, _, _, _, _, _⟩ := hSw; go_simp; (try with_reducible rfl); done)
  try simp only [Act.put, List.setIfInBounds_toArray, List.set_cons_zero, List.set_cons_succ]
  refine' take_ 44 rfl (by as_aux_lemma => kernel_rfl) (by as_aux_lemma => kernel_rfl) (by as_aux_lemma => kernel_rfl) (fun _ _ _ h => h) (by rfl) (fun wS hSw => ?_) hHeld ?_
  rotate_left
  focus (obtain ⟨s0, s7, sx0, sy0, sy4, sy1, _, _, _, _, _, _⟩ := hSw; go_simp; (try with_reducible rfl); done)
  try simp only [Act.put, List.setIfInBounds_toArray, List.set_cons_zero, List.set_cons_succ]
  refine' take_ 45 rfl (by as_aux_lemma => kernel_rfl) (by as_aux_lemma => kernel_rfl) (by as_aux_lemma => kernel_rfl) (fun _ _ _ h => h) (by rfl) (fun wS hSw => ?_) hHeld ?_
  rotate_left
  focus (obtain ⟨s0, s7, sx0, sy0, sy4, sy1, _, _, _, _, _, _⟩ := hSw; go_simp; (try with_reducible rfl); done)
  try simp only [Act.put, List.setIfInBounds_toArray, List.set_cons_zero, List.set_cons_succ]
  refine' take_ 46 rfl (by as_aux_lemma => kernel_rfl) (by as_aux_lemma => kernel_rfl) (by as_aux_lemma => kernel_rfl) (fun _ _ _ h => h) (by rfl) (fun wS hSw => ?_) hHeld ?_
  rotate_left
  focus (obtain ⟨s0, s7, sx0, sy0, sy4, sy1, _, _, _, _, _, _⟩ := hSw; go_simp; (try with_reducible rfl); done)
  try simp only [Act.put, List.setIfInBounds_toArray, List.set_cons_zero, List.set_cons_succ]
  refine' take_ 47 rfl (by as_aux_lemma => kernel_rfl) (by as_aux_lemma => kernel_rfl) (by as_aux_lemma => kernel_rfl) (fun _ _ _ h => h) (by rfl) (fun wS hSw => ?_) hHeld ?_
  rotate_left
  focus (obtain ⟨s0, s7, sx0, sy0, sy4, sy1, _, _, _, _, _, _⟩ := hSw; go_simp; (try with_reducible rfl); done)
  try simp only [Act.put, List.setIfInBounds_toArray, List.set_cons_zero, List.set_cons_succ]
  refine' take_ 48 rfl (by as_aux_lemma => kernel_rfl) (by as_aux_lemma => kernel_rfl) (by as_aux_lemma => kernel_rfl) (fun _ _ _ h => h) (by rfl) (fun wS hSw => ?_) hHeld ?_
  rotate_left
  focus (obtain ⟨s0, s7, sx0, sy0, sy4, sy1, _, _, _, _, _, _⟩ := hSw; go_simp; (try with_reducible rfl); done)
  try simp only [Act.put, List.setIfInBounds_toArray, List.set_cons_zero, List.set_cons_succ]
  refine' take_ 49 rfl (by as_aux_lemma => kernel_rfl) (by as_aux_lemma => kernel_rfl) (by as_aux_lemma => kernel_rfl) (fun _ _ _ h => h) (by rfl) (fun wS hSw => ?_) hHeld ?_
  rotate_left
  focus (obtain ⟨s0, s7, sx0, sy0, sy4, sy1, _, _, _, _, _, _⟩ := hSw; go_simp; (try with_reducible rfl); done)
  try simp only [Act.put, List.setIfInBounds_toArray, List.set_cons_zero, List.set_cons_succ]
  refine' take_ 50 rfl (by as_aux_lemma => kernel_rfl) (by as_aux_lemma => kernel_rfl) (by as_aux_lemma => kernel_rfl) (fun _ _ _ h => h) (by rfl) (fun wS hSw => ?_) hHeld ?_
  rotate_left
  focus (obtain ⟨s0, s7, sx0, sy0, sy4, sy1, _, _, _, _, _, _⟩ := hSw; go_simp; (try with_reducible rfl); done)
  try simp only [Act.put, List.setIfInBounds_toArray, List.set_cons_zero, List.set_cons_succ]
  refine' take_ 51 rfl (by as_aux_lemma => kernel_rfl) (by as_aux_lemma => kernel_rfl) (by as_aux_lemma => kernel_rfl) (fun _ _ _ h => h) (by rfl) (fun wS hSw => ?_) hHeld ?_
  rotate_left
  focus (obtain ⟨s0, s7, sx0, sy0, sy4, sy1, _, _, _, _, _, _⟩ := hSw; go_simp; (try with_reducible rfl); done)
  try simp only [Act.put, List.setIfInBounds_toArray, List.set_cons_zero, List.set_cons_succ]
  refine' take_ 52 rfl (by as_aux_lemma => kernel_rfl) (by as_aux_lemma => kernel_rfl) (by as_aux_lemma => kernel_rfl) (fun _ _ _ h => h) (by rfl) (fun wS hSw => ?_) hHeld ?_
  rotate_left
  focus (obtain ⟨s0, s7, sx0, sy0, sy4, sy1, _, _, _, _, _, _⟩ := hSw; go_simp; (try with_reducible rfl); done)
  try simp only [Act.put, List.setIfInBounds_toArray, List.set_cons_zero, List.set_cons_succ]
  refine' take_ 53 rfl (by as_aux_lemma => kernel_rfl) (by as_aux_lemma => kernel_rfl) (by as_aux_lemma => kernel_rfl) (fun _ _ _ h => h) (by rfl) (fun wS hSw => ?_) hHeld ?_
  rotate_left
  focus (obtain ⟨s0, s7, sx0, sy0, sy4, sy1, _, _, _, _, _, _⟩ := hSw; go_simp; (try with_reducible rfl); done)
  try simp only [Act.put, List.setIfInBounds_toArray, List.set_cons_zero, List.set_cons_succ]
  refine' take_ 54 rfl (by as_aux_lemma => kernel_rfl) (by as_aux_lemma => kernel_rfl) (by as_aux_lemma => kernel_rfl) (fun _ _ _ h => h) (by rfl) (fun wS hSw => ?_) hHeld ?_
  rotate_left
  focus (obtain ⟨s0, s7, sx0, sy0, sy4, sy1, _, _, _, _, _, _⟩ := hSw; go_simp; (try with_reducible rfl); done)
  try simp only [Act.put, List.setIfInBounds_toArray, List.set_cons_zero, List.set_cons_succ]
  refine' take_ 55 rfl (by as_aux_lemma => kernel_rfl) (by as_aux_lemma => kernel_rfl) (by as_aux_lemma => kernel_rfl) (fun _ _ _ h => h) (by rfl) (fun wS hSw => ?_) hHeld ?_
  rotate_left
  focus (obtain ⟨s0, s7, sx0, sy0, sy4, sy1, _, _, _, _, _, _⟩ := hSw; go_simp; (try with_reducible rfl); done)
  try simp only [Act.put, List.setIfInBounds_toArray, List.set_cons_zero, List.set_cons_succ]
  refine' take_ 56 rfl (by as_aux_lemma => kernel_rfl) (by as_aux_lemma => kernel_rfl) (by as_aux_lemma => kernel_rfl) (fun _ _ _ h => h) (by rfl) (fun wS hSw => ?_) hHeld ?_
  rotate_left
  focus (obtain ⟨s0, s7, sx0, sy0, sy4, sy1, _, _, _, _, _, _⟩ := hSw; go_simp; (try with_reducible rfl); done)
  try simp only [Act.put, List.setIfInBounds_toArray, List.set_cons_zero, List.set_cons_succ]
  refine' take_ 57 rfl (by as_aux_lemma => kernel_rfl) (by as_aux_lemma => kernel_rfl) (by as_aux_lemma => kernel_rfl) (fun _ _ _ h => h) (by rfl) (fun wS hSw => ?_) hHeld ?_
  rotate_left
  focus (obtain ⟨s0, s7, sx0, sy0, sy4, sy1, _, _, _, _, _, _⟩ := hSw; go_simp; (try with_reducible rfl); done)
  try simp only [Act.put, List.setIfInBounds_toArray, List.set_cons_zero, List.set_cons_succ]
  refine' take_ 58 rfl (by as_aux_lemma => kernel_rfl) (by as_aux_lemma => kernel_rfl) (by as_aux_lemma => kernel_rfl) (fun _ _ _ h => h) (by rfl) (fun wS hSw => ?_) hHeld ?_
  rotate_left
  focus (obtain ⟨s0, s7, sx0, sy0, sy4, sy1, _, _, _, _, _, _⟩ := hSw; go_simp; (try with_reducible rfl); done)
  try simp only [Act.put, List.setIfInBounds_toArray, List.set_cons_zero, List.set_cons_succ]
  refine' take_ 59 rfl (by as_aux_lemma => kernel_rfl) (by as_aux_lemma => kernel_rfl) (by as_aux_lemma => kernel_rfl) (fun _ _ _ h => h) (by rfl) (fun wS hSw => ?_) hHeld ?_
  rotate_left
  focus (obtain ⟨s0, s7, sx0, sy0, sy4, sy1, _, _, _, _, _, _⟩ := hSw; go_simp; (try with_reducible rfl); done)
  try simp only [Act.put, List.setIfInBounds_toArray, List.set_cons_zero, List.set_cons_succ]
  refine' take_ 60 rfl (by as_aux_lemma => kernel_rfl) (by as_aux_lemma => kernel_rfl) (by as_aux_lemma => kernel_rfl) (fun _ _ _ h => h) (by rfl) (fun wS hSw => ?_) hHeld ?_
  rotate_left
  focus (obtain ⟨s0, s7, sx0, sy0, sy4, sy1, _, _, _, _, _, _⟩ := hSw; go_simp; (try with_reducible rfl); done)
  try simp only [Act.put, List.setIfInBounds_toArray, List.set_cons_zero, List.set_cons_succ]
  refine' take_ 61 rfl (by as_aux_lemma => kernel_rfl) (by as_aux_lemma => kernel_rfl) (by as_aux_lemma => kernel_rfl) (fun _ _ _ h => h) (by rfl) (fun wS hSw => ?_) hHeld ?_
  rotate_left
  focus (obtain ⟨s0, s7, sx0, sy0, sy4, sy1, _, _, _, _, _, _⟩ := hSw; go_simp; (try with_reducible rfl); done)
  try simp only [Act.put, List.setIfInBounds_toArray, List.set_cons_zero, List.set_cons_succ]
  refine' take_ 62 rfl (by as_aux_lemma => kernel_rfl) (by as_aux_lemma => kernel_rfl) (by as_aux_lemma => kernel_rfl) (fun _ _ _ h => h) (by rfl) (fun wS hSw => ?_) hHeld ?_
  rotate_left
  focus (obtain ⟨s0, s7, sx0, sy0, sy4, sy1, _, _, _, _, _, _⟩ := hSw; go_simp; (try with_reducible rfl); done)
  try simp only [Act.put, List.setIfInBounds_toArray, List.set_cons_zero, List.set_cons_succ]
  refine' take_ 63 rfl (by as_aux_lemma => kernel_rfl) (by as_aux_lemma => kernel_rfl) (by as_aux_lemma => kernel_rfl) (fun _ _ _ h => h) (by rfl) (fun wS hSw => ?_) hHeld ?_
  rotate_left
  focus (obtain ⟨s0, s7, sx0, sy0, sy4, sy1, _, _, _, _, _, _⟩ := hSw; go_simp; (try with_reducible rfl); done)
  try simp only [Act.put, List.setIfInBounds_toArray, List.set_cons_zero, List.set_cons_succ]
  refine' take_ 64 rfl (by as_aux_lemma => kernel_rfl) (by as_aux_lemma => kernel_rfl) (by as_aux_lemma => kernel_rfl) (fun _ _ _ h => h) (by rfl) (fun wS hSw => ?_) hHeld ?_
  rotate_left
  focus (obtain ⟨s0, s7, sx0, sy0, sy4, sy1, _, _, _, _, _, _⟩ := hSw; go_simp; (try with_reducible rfl); done)
  try simp only [Act.put, List.setIfInBounds_toArray, List.set_cons_zero, List.set_cons_succ]
  refine' take_ 65 rfl (by as_aux_lemma => kernel_rfl) (by as_aux_lemma => kernel_rfl) (by as_aux_lemma => kernel_rfl) (fun _ _ _ h => h) (by rfl) (fun wS hSw => ?_) hHeld ?_
  rotate_left
  focus (obtain ⟨s0, s7, sx0, sy0, sy4, sy1, _, _, _, _, _, _⟩ := hSw; go_simp; (try with_reducible rfl); done)
  try simp only [Act.put, List.setIfInBounds_toArray, List.set_cons_zero, List.set_cons_succ]
  refine' take_ 66 rfl (by as_aux_lemma => kernel_rfl) (by as_aux_lemma => kernel_rfl) (by as_aux_lemma => kernel_rfl) (fun _ _ _ h => h) (by rfl) (fun wS hSw => ?_) hHeld ?_
  rotate_left
  focus (obtain ⟨s0, s7, sx0, sy0, sy4, sy1, _, _, _, _, _, _⟩ := hSw; go_simp; (try with_reducible rfl); done)
  try simp only [Act.put, List.setIfInBounds_toArray, List.set_cons_zero, List.set_cons_succ]
  refine' take_ 67 rfl (by as_aux_lemma => kernel_rfl) (by as_aux_lemma => kernel_rfl) (by as_aux_lemma => kernel_rfl) (fun _ _ _ h => h) (by rfl) (fun wS hSw => ?_) hHeld ?_
  rotate_left
  focus (obtain ⟨s0, s7, sx0, sy0, sy4, sy1, _, _, _, _, _, _⟩ := hSw; go_simp; (try with_reducible rfl); done)
  try simp only [Act.put, List.setIfInBounds_toArray, List.set_cons_zero, List.set_cons_succ]
  refine' take_ 68 rfl (by as_aux_lemma => kernel_rfl) (by as_aux_lemma => kernel_rfl) (by as_aux_lemma => kernel_rfl) (fun _ _ _ h => h) (by rfl) (fun wS hSw => ?_) hHeld ?_
  rotate_left
  focus (obtain ⟨s0, s7, sx0, sy0, sy4, sy1, _, _, _, _, _, _⟩ := hSw; go_simp; (try with_reducible rfl); done)
  try simp only [Act.put, List.setIfInBounds_toArray, List.set_cons_zero, List.set_cons_succ]
  refine' take_ 69 rfl (by as_aux_lemma => kernel_rfl) (by as_aux_lemma => kernel_rfl) (by as_aux_lemma => kernel_rfl) (fun _ _ _ h => h) (by rfl) (fun wS hSw => ?_) hHeld ?_
  rotate_left
  focus (obtain ⟨s0, s7, sx0, sy0, sy4, sy1, _, _, _, _, _, _⟩ := hSw; go_simp; (try with_reducible rfl); done)
  try simp only [Act.put, List.setIfInBounds_toArray, List.set_cons_zero, List.set_cons_succ]
  refine' take_ 70 rfl (by as_aux_lemma => kernel_rfl) (by as_aux_lemma => kernel_rfl) (by as_aux_lemma => kernel_rfl) (fun _ _ _ h => h) (by rfl) (fun wS hSw => ?_) hHeld ?_
  rotate_left
  focus (obtain ⟨s0, s7, sx0, sy0, sy4, sy1, _, _, _, _, _, _⟩ := hSw; go_simp; (try with_reducible rfl); done)
  try simp only [Act.put, List.setIfInBounds_toArray, List.set_cons_zero, List.set_cons_succ]
  refine' take_ 71 rfl (by as_aux_lemma => kernel_rfl) (by as_aux_lemma => kernel_rfl) (by as_aux_lemma => kernel_rfl) (fun _ _ _ h => h) (by rfl) (fun wS hSw => ?_) hHeld ?_
  rotate_left
  focus (obtain ⟨s0, s7, sx0, sy0, sy4, sy1, _, _, _, _, _, _⟩ := hSw; go_simp; (try with_reducible rfl); done)
  try simp only [Act.put, List.setIfInBounds_toArray, List.set_cons_zero, List.set_cons_succ]
  refine' take_ 72 rfl (by as_aux_lemma => kernel_rfl) (by as_aux_lemma => kernel_rfl) (by as_aux_lemma => kernel_rfl) (fun _ _ _ h => h) (by rfl) (fun wS hSw => ?_) hHeld ?_
  rotate_left
  focus (obtain ⟨s0, s7, sx0, sy0, sy4, sy1, _, _, _, _, _, _⟩ := hSw; go_simp; (try with_reducible rfl); done)
  try simp only [Act.put, List.setIfInBounds_toArray, List.set_cons_zero, List.set_cons_succ]
  refine' take_ 73 rfl (by as_aux_lemma => kernel_rfl) (by as_aux_lemma => kernel_rfl) (by as_aux_lemma => kernel_rfl) (fun _ _ _ h => h) (by rfl) (fun wS hSw => ?_) hHeld ?_
  rotate_left
  focus (obtain ⟨s0, s7, sx0, sy0, sy4, sy1, _, _, _, _, _, _⟩ := hSw; go_simp; (try with_reducible rfl); done)
  try simp only [Act.put, List.setIfInBounds_toArray, List.set_cons_zero, List.set_cons_succ]
  refine' take_ 74 rfl (by as_aux_lemma => kernel_rfl) (by as_aux_lemma => kernel_rfl) (by as_aux_lemma => kernel_rfl) (fun _ _ _ h => h) (by rfl) (fun wS hSw => ?_) hHeld ?_
  rotate_left
  focus (obtain ⟨s0, s7, sx0, sy0, sy4, sy1, _, _, _, _, _, _⟩ := hSw; go_simp; (try with_reducible rfl); done)
  try simp only [Act.put, List.setIfInBounds_toArray, List.set_cons_zero, List.set_cons_succ]
  refine' take_ 75 rfl (by as_aux_lemma => kernel_rfl) (by as_aux_lemma => kernel_rfl) (by as_aux_lemma => kernel_rfl) (fun _ _ _ h => h) (by rfl) (fun wS hSw => ?_) hHeld ?_
  rotate_left
  focus (obtain ⟨s0, s7, sx0, sy0, sy4, sy1, _, _, _, _, _, _⟩ := hSw; go_simp; (try with_reducible rfl); done)
  try simp only [Act.put, List.setIfInBounds_toArray, List.set_cons_zero, List.set_cons_succ]
  refine' take_ 76 rfl (by as_aux_lemma => kernel_rfl) (by as_aux_lemma => kernel_rfl) (by as_aux_lemma => kernel_rfl) (fun _ _ _ h => h) (by rfl) (fun wS hSw => ?_) hHeld ?_
  rotate_left
  focus (obtain ⟨s0, s7, sx0, sy0, sy4, sy1, _, _, _, _, _, _⟩ := hSw; go_simp; (try with_reducible rfl); done)
  try simp only [Act.put, List.setIfInBounds_toArray, List.set_cons_zero, List.set_cons_succ]
  refine' take_ 77 rfl (by as_aux_lemma => kernel_rfl) (by as_aux_lemma => kernel_rfl) (by as_aux_lemma => kernel_rfl) (fun _ _ _ h => h) (by rfl) (fun wS hSw => ?_) hHeld ?_
  rotate_left
  focus (obtain ⟨s0, s7, sx0, sy0, sy4, sy1, _, _, _, _, _, _⟩ := hSw; go_simp; (try with_reducible rfl); done)
  try simp only [Act.put, List.setIfInBounds_toArray, List.set_cons_zero, List.set_cons_succ]
  refine' take_ 78 rfl (by as_aux_lemma => kernel_rfl) (by as_aux_lemma => kernel_rfl) (by as_aux_lemma => kernel_rfl) (fun _ _ _ h => h) (by rfl) (fun wS hSw => ?_) hHeld ?_
  rotate_left
  focus (obtain ⟨s0, s7, sx0, sy0, sy4, sy1, _, _, _, _, _, _⟩ := hSw; go_simp; (try with_reducible rfl); done)
  try simp only [Act.put, List.setIfInBounds_toArray, List.set_cons_zero, List.set_cons_succ]
  refine' take_ 79 rfl (by as_aux_lemma => kernel_rfl) (by as_aux_lemma => kernel_rfl) (by as_aux_lemma => kernel_rfl) (fun _ _ _ h => h) (by rfl) (fun wS hSw => ?_) hHeld ?_
  rotate_left
  focus (obtain ⟨s0, s7, sx0, sy0, sy4, sy1, _, _, _, _, _, _⟩ := hSw; go_simp; (try with_reducible rfl); done)
  try simp only [Act.put, List.setIfInBounds_toArray, List.set_cons_zero, List.set_cons_succ]
  refine' take_ 80 rfl (by as_aux_lemma => kernel_rfl) (by as_aux_lemma => kernel_rfl) (by as_aux_lemma => kernel_rfl) (fun _ _ _ h => h) (by rfl) (fun wS hSw => run_load_at wS 27 _ h4 0 rfl _ _ hSw.r4 Try.underlying27 rfl (by as_aux_lemma => kernel_rfl) _ _ _ _ _) hHeld ?_
  try simp only [Act.put, List.setIfInBounds_toArray, List.set_cons_zero, List.set_cons_succ]
  refine' take_ 83 rfl (by as_aux_lemma => kernel_rfl) (by as_aux_lemma => kernel_rfl) (by as_aux_lemma => kernel_rfl) (fun _ _ _ h => h) (by rfl) (fun wS hSw => run_load_at wS 27 _ h4 0 rfl _ _ hSw.r4 Try.underlying27 rfl (by as_aux_lemma => kernel_rfl) _ _ _ _ _) hHeld ?_
  try simp only [Act.put, List.setIfInBounds_toArray, List.set_cons_zero, List.set_cons_succ]
  refine both_ 81 84 rfl rfl (by as_aux_lemma => kernel_rfl) (by rfl) (by rfl) (fun K hK => ?_) (fun K hK => ?_)
  · go_simp
    refine (fold_any 10 0 ⟨#[]⟩ ⟨#[]⟩ 0 1 0 (some w5.heap.size) 2 [numT 1 1, numT 0 1] _ _ hHeld.sl (fun _ h => h)).mono ?_
    rintro e wf hans
    obtain ⟨bf, cf, rfl, hsf, hbf⟩ := OverAns.of hans
    have HF := Lib.hid (hHeld.under hbf)
    have HSF := Lib.hid hsf
    clear hans hsf hbf
    go_simp
    refine hK.out _ _ HF.out (fun hHeld2 => ?_)
    clear hK K hHeld
    have hHeld := hHeld2
    clear hHeld2
    try simp only [Act.put, List.setIfInBounds_toArray, List.set_cons_zero, List.set_cons_succ]
    refine both_ 82 84 rfl rfl (by as_aux_lemma => kernel_rfl) (by rfl) (by rfl) (fun K hK => ?_) (fun K hK => ?_)
    · have HT := Lib.hid (works_AB wf bf cf w5.heap.size 2 27 HSF.out HF.out.sl)
      go_simp
      refine hK.out _ _ (hHeld.al _) (fun hHeld2 => ?_)
      clear hK K hHeld
      have hHeld := hHeld2
      clear hHeld2
      try simp only [Act.put, List.setIfInBounds_toArray, List.set_cons_zero, List.set_cons_succ]
      refine only_ 84 rfl (by as_aux_lemma => kernel_rfl) (by rfl) (fun K hK => ?_)
      go_simp
      refine hK.out _ _ (hHeld.al _) (fun hHeld2 => ?_)
      clear hK K hHeld
      have hHeld := hHeld2
      clear hHeld2
      try simp only [Act.put, List.setIfInBounds_toArray, List.set_cons_zero, List.set_cons_succ]
      refine only_ 85 rfl (by as_aux_lemma => kernel_rfl) (by rfl) (fun K hK => ?_)
      go_simp
      refine (same_all [overT] (some wf.heap.size) (some (wf.heap.size + 1)) 1 1 _ _ _ HT.out.1 HT.out.2 (fun _ h => h) (fun _ h => h)).mono ?_
      rintro e wz ⟨rfl, hbz⟩
      have HZ := Lib.hid (hHeld.under hbz)
      clear hbz
      go_simp
      refine hK.out _ _ HZ.out (fun hHeld2 => ?_)
      clear hK K hHeld
      have hHeld := hHeld2
      clear hHeld2
      try simp only [Act.put, List.setIfInBounds_toArray, List.set_cons_zero, List.set_cons_succ]
      refine' take_ 86 rfl (by as_aux_lemma => kernel_rfl) (by as_aux_lemma => kernel_rfl) (by as_aux_lemma => kernel_rfl) (fun _ _ _ h => h) (by rfl) (fun wS hSw => ?_) hHeld ?_
      rotate_left
      focus (go_simp; (try with_reducible rfl); done)
      try simp only [Act.put, List.setIfInBounds_toArray, List.set_cons_zero, List.set_cons_succ]
      refine' take_ 87 rfl (by as_aux_lemma => kernel_rfl) (by as_aux_lemma => kernel_rfl) (by as_aux_lemma => kernel_rfl) (fun _ _ _ h => h) (by rfl) (fun wS hSw => ?_) hHeld ?_
      rotate_left
      focus (go_simp; (try with_reducible rfl); done)
      try simp only [Act.put, List.setIfInBounds_toArray, List.set_cons_zero]
      refine wpAnyH_done (by as_aux_lemma => kernel_rfl) ?_ _
      refine NoPanic.normal ?_
      go_wp2
      go_ret
      exact ⟨rfl, hHeld.below⟩
    · have HT := Lib.hid (works_AB wf w5.heap.size 2 bf cf 27 HF.out.sl HSF.out).symm
      go_simp
      refine hK.out _ _ (hHeld.al _) (fun hHeld2 => ?_)
      clear hK K hHeld
      have hHeld := hHeld2
      clear hHeld2
      try simp only [Act.put, List.setIfInBounds_toArray, List.set_cons_zero, List.set_cons_succ]
      refine only_ 82 rfl (by as_aux_lemma => kernel_rfl) (by rfl) (fun K hK => ?_)
      go_simp
      refine hK.out _ _ (hHeld.al _) (fun hHeld2 => ?_)
      clear hK K hHeld
      have hHeld := hHeld2
      clear hHeld2
      try simp only [Act.put, List.setIfInBounds_toArray, List.set_cons_zero, List.set_cons_succ]
      refine only_ 85 rfl (by as_aux_lemma => kernel_rfl) (by rfl) (fun K hK => ?_)
      go_simp
      refine (same_all [overT] (some (wf.heap.size + 1)) (some wf.heap.size) 1 1 _ _ _ HT.out.1 HT.out.2 (fun _ h => h) (fun _ h => h)).mono ?_
      rintro e wz ⟨rfl, hbz⟩
      have HZ := Lib.hid (hHeld.under hbz)
      clear hbz
      go_simp
      refine hK.out _ _ HZ.out (fun hHeld2 => ?_)
      clear hK K hHeld
      have hHeld := hHeld2
      clear hHeld2
      try simp only [Act.put, List.setIfInBounds_toArray, List.set_cons_zero, List.set_cons_succ]
      refine' take_ 86 rfl (by as_aux_lemma => kernel_rfl) (by as_aux_lemma => kernel_rfl) (by as_aux_lemma => kernel_rfl) (fun _ _ _ h => h) (by rfl) (fun wS hSw => ?_) hHeld ?_
      rotate_left
      focus (go_simp; (try with_reducible rfl); done)
      try simp only [Act.put, List.setIfInBounds_toArray, List.set_cons_zero, List.set_cons_succ]
      refine' take_ 87 rfl (by as_aux_lemma => kernel_rfl) (by as_aux_lemma => kernel_rfl) (by as_aux_lemma => kernel_rfl) (fun _ _ _ h => h) (by rfl) (fun wS hSw => ?_) hHeld ?_
      rotate_left
      focus (go_simp; (try with_reducible rfl); done)
      try simp only [Act.put, List.setIfInBounds_toArray, List.set_cons_zero]
      refine wpAnyH_done (by as_aux_lemma => kernel_rfl) ?_ _
      refine NoPanic.normal ?_
      go_wp2
      go_ret
      exact ⟨rfl, hHeld.below⟩
  · have HG := Lib.hid hHeld.sl
    go_simp
    refine hK.out _ _ (hHeld.al _) (fun hHeld2 => ?_)
    clear hK K hHeld
    have hHeld := hHeld2
    clear hHeld2
    try simp only [Act.put, List.setIfInBounds_toArray, List.set_cons_zero, List.set_cons_succ]
    refine only_ 81 rfl (by as_aux_lemma => kernel_rfl) (by rfl) (fun K hK => ?_)
    go_simp
    refine (fold_any 10 0 ⟨#[]⟩ ⟨#[]⟩ 0 1 0 (some w5.heap.size) 2 [numT 1 1, numT 0 1] _ _ hHeld.sl (fun _ h => h)).mono ?_
    rintro e wf hans
    obtain ⟨bf, cf, rfl, hsf, hbf⟩ := OverAns.of hans
    have HF := Lib.hid (hHeld.under hbf)
    have HSF := Lib.hid hsf
    have HT := Lib.hid (works_C wb26 wf bf cf w5.heap.size 2 27 HG.out hbf hsf)
    clear hans hsf hbf
    go_simp
    refine hK.out _ _ HF.out (fun hHeld2 => ?_)
    clear hK K hHeld
    have hHeld := hHeld2
    clear hHeld2
    try simp only [Act.put, List.setIfInBounds_toArray, List.set_cons_zero, List.set_cons_succ]
    refine only_ 82 rfl (by as_aux_lemma => kernel_rfl) (by rfl) (fun K hK => ?_)
    go_simp
    refine hK.out _ _ (hHeld.al _) (fun hHeld2 => ?_)
    clear hK K hHeld
    have hHeld := hHeld2
    clear hHeld2
    try simp only [Act.put, List.setIfInBounds_toArray, List.set_cons_zero, List.set_cons_succ]
    refine only_ 85 rfl (by as_aux_lemma => kernel_rfl) (by rfl) (fun K hK => ?_)
    go_simp
    refine (same_all [overT] (some wf.heap.size) (some wb26.heap.size) 1 1 _ _ _ HT.out.1 HT.out.2 (fun _ h => h) (fun _ h => h)).mono ?_
    rintro e wz ⟨rfl, hbz⟩
    have HZ := Lib.hid (hHeld.under hbz)
    clear hbz
    go_simp
    refine hK.out _ _ HZ.out (fun hHeld2 => ?_)
    clear hK K hHeld
    have hHeld := hHeld2
    clear hHeld2
    try simp only [Act.put, List.setIfInBounds_toArray, List.set_cons_zero, List.set_cons_succ]
    refine' take_ 86 rfl (by as_aux_lemma => kernel_rfl) (by as_aux_lemma => kernel_rfl) (by as_aux_lemma => kernel_rfl) (fun _ _ _ h => h) (by rfl) (fun wS hSw => ?_) hHeld ?_
    rotate_left
    focus (go_simp; (try with_reducible rfl); done)
    try simp only [Act.put, List.setIfInBounds_toArray, List.set_cons_zero, List.set_cons_succ]
    refine' take_ 87 rfl (by as_aux_lemma => kernel_rfl) (by as_aux_lemma => kernel_rfl) (by as_aux_lemma => kernel_rfl) (fun _ _ _ h => h) (by rfl) (fun wS hSw => ?_) hHeld ?_
    rotate_left
    focus (go_simp; (try with_reducible rfl); done)
    try simp only [Act.put, List.setIfInBounds_toArray, List.set_cons_zero]
    refine wpAnyH_done (by as_aux_lemma => kernel_rfl) ?_ _
    refine NoPanic.normal ?_
    go_wp2
    go_ret
    exact ⟨rfl, hHeld.below⟩
end Go.Proofs.Ythmphmndpfkbcaa
