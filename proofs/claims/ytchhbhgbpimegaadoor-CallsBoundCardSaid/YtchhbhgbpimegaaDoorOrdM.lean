/-
  How the state of the ordering lies in memory, and what a step of it leaves.
-/
import Derived.Test.YtchhbhgbpimegaaDoorTurned
namespace Go.Proofs.YtchhbhgbpimegaaDoor
open Go.RowKit
set_option linter.unusedVariables false
/-- n numbers, as cells. -/
def wsL (n : Nat) (ws : Nat → Int) : List Value := (List.range n).map fun c => .int .i64 (ws c)
theorem wsL_len (n : Nat) (ws : Nat → Int) : (wsL n ws).length = n := by simp [wsL]
theorem wsL_at (n : Nat) (ws : Nat → Int) (c : Nat) (hc : c < n) : (wsL n ws)[c]? = some (.int .i64 (ws c)) := by simp [wsL, hc]
theorem wsL_set (n : Nat) (ws : Nat → Int) (c : Nat) (x : Int) : (wsL n ws).set c (.int .i64 x) = wsL n (fun k => if k = c then x else ws k) := by
  apply List.ext_getElem?
  intro i
  by_cases hi : i < n
  · by_cases hic : i = c
    · subst hic
      rw [List.getElem?_set_self (by rw [wsL_len]; exact hi), wsL_at _ _ _ hi, if_pos rfl]
    · rw [List.getElem?_set_ne (fun e => hic e.symm), wsL_at _ _ _ hi, wsL_at _ _ _ hi, if_neg hic]
  · rw [List.getElem?_eq_none (by simp [wsL_len]; omega), List.getElem?_eq_none (by simp [wsL_len]; omega)]
theorem wsL_congr (n : Nat) (ws ws' : Nat → Int) (h : ∀ c, c < n → ws c = ws' c) : wsL n ws = wsL n ws' := by
  apply List.map_congr_left
  intro c hc
  rw [h c (List.mem_range.1 hc)]
theorem wsL_zero (n : Nat) : (Array.replicate n (Value.int .i64 0)) = (wsL n fun _ => 0).toArray := by
  apply Array.toList_inj.1
  rw [Array.toList_replicate]
  simp [wsL, List.map_const']
/-- Where all lies: N the box of the callers, N + 1 the row of those that are waited for, N + 2 its box, N + 3 the set, b5 its box. -/
structure Lay (base N lv wb b5 : Nat) : Prop where
  h0 : base ≤ N
  l1 : N + 3 < lv ∧ lv < b5
  l2 : N + 3 < wb ∧ wb < b5
  ne : lv ≠ wb
/-- The state, but for the order. -/
structure OM (N lv wb b5 n : Nat) (C : Nat → List Nat) (ws : Nat → Int) (rd : Nat) (W : World) : Prop where
  c : ∃ cv, W.heap[N]? = some (.cells [cv].toArray 33 (0, 0)) ∧ ∃ A cp, cv = .slice A n cp ∧ ∀ f, f < n → ∃ b u, A = some ⟨b, 0, none⟩ ∧ b < N ∧ W.cell? ⟨b, f, none⟩ = some u ∧ ∃ A' c', u = .slice A' (C f).length c' ∧ ∀ j x, (C f)[j]? = some x → ∃ b', A' = some ⟨b', 0, none⟩ ∧ b' < N ∧ W.cell? ⟨b', j, none⟩ = some (iv x)
  m : W.heap[N + 1]? = some (.cells (wsL n ws).toArray 3 (0, 0))
  mb : W.heap[N + 2]? = some (.cells [.slice (some ⟨N + 1, 0, none⟩) n n].toArray 36 (0, 0))
  s : IsSet W (N + 3) lv wb rd
  sb : W.heap[b5]? = some (.cells [.pointer (some ⟨N + 3, 0, none⟩)].toArray 66 (0, 0))
theorem OM.lt {N lv wb b5 n : Nat} {C : Nat → List Nat} {ws : Nat → Int} {rd : Nat} {W : World} (h : OM N lv wb b5 n C ws rd W) : b5 < W.heap.size := (Array.getElem?_eq_some_iff.1 h.sb).1
theorem OM.keep {base N lv wb b5 n : Nat} {C : Nat → List Nat} {ws ws' : Nat → Int} {rd rd' : Nat} {W W' : World} (hl : Lay base N lv wb b5) (h : OM N lv wb b5 n C ws rd W) (hk : ∀ k, k ≤ b5 → k ≠ wb → k ≠ N + 1 → W'.heap[k]? = W.heap[k]?)
    (hm : W'.heap[N + 1]? = some (.cells (wsL n ws').toArray 3 (0, 0))) (hs : IsSet W' (N + 3) lv wb rd') : OM N lv wb b5 n C ws' rd' W' := by
  obtain ⟨a1, a2⟩ := hl.l1
  obtain ⟨a3, a4⟩ := hl.l2
  have hc : ∀ (b o : Nat), b < N → W'.cell? ⟨b, o, none⟩ = W.cell? ⟨b, o, none⟩ := fun b o hb => World.cell?_of_block (a := ⟨b, o, none⟩) (hk b (by omega) (by omega) (by omega))
  refine ⟨?_, hm, (hk _ (by omega) (by omega) (by omega)).trans h.mb, hs, (hk _ (by omega) (by omega) (by omega)).trans h.sb⟩
  obtain ⟨cv, h1, A, cp, h2, h3⟩ := h.c
  refine ⟨cv, (hk N (by omega) (by omega) (by omega)).trans h1, A, cp, h2, fun f hf => ?_⟩
  obtain ⟨b, u, q1, q2, q3, A', c', q4, q5⟩ := h3 f hf
  refine ⟨b, u, q1, q2, (hc b f q2).trans q3, A', c', q4, fun j x hj => ?_⟩
  obtain ⟨b', r1, r2, r3⟩ := q5 j x hj
  exact ⟨b', r1, r2, (hc b' j r2).trans r3⟩
theorem OM.gb {base N lv wb b5 n : Nat} {C : Nat → List Nat} {ws : Nat → Int} {rd : Nat} {W W' : World} {r : Option Nat} (hl : Lay base N lv wb b5) (h : OM N lv wb b5 n C ws rd W) (hg : W.grownBy W' r) (hr : ∀ b, r = some b → b5 < b) : OM N lv wb b5 n C ws rd W' := by
  have hz := h.lt
  obtain ⟨a1, a2⟩ := hl.l1
  obtain ⟨a3, a4⟩ := hl.l2
  have hk : ∀ k, k ≤ b5 → W'.heap[k]? = W.heap[k]? := fun k hk => hg.block k (by omega) (fun e => by have := hr k e.symm; omega)
  exact h.keep hl (fun k h1 _ _ => hk k h1) ((hk _ (by omega)).trans h.m) (isSet_gb h.s hg (fun b e => by have := hr b e; omega))
theorem OM.touch {base N lv wb b5 n : Nat} {C : Nat → List Nat} {ws : Nat → Int} {rd rd' : Nat} {W W' : World} (hl : Lay base N lv wb b5) (h : OM N lv wb b5 n C ws rd W) (ht : Touch wb W W') (hs : IsSet W' (N + 3) lv wb rd') : OM N lv wb b5 n C ws rd' W' :=
  have a3 := hl.l2.1
  h.keep hl (fun k _ h2 _ => ht.block k h2) ((ht.block _ (by omega)).trans h.m) hs
theorem OM.setw {base N lv wb b5 n c : Nat} {C : Nat → List Nat} {ws : Nat → Int} {rd : Nat} {W : World} (x : Int) (hl : Lay base N lv wb b5) (h : OM N lv wb b5 n C ws rd W) : OM N lv wb b5 n C (fun k => if k = c then x else ws k) rd (W.setCell ⟨N + 1, c, none⟩ (.int .i64 x)) := by
  obtain ⟨a1, a2⟩ := hl.l1
  obtain ⟨a3, a4⟩ := hl.l2
  refine h.keep hl (fun k _ _ h3 => Below.heap_setCell _ _ _ _ h3) ?_ (isSet_gb h.s (gb_set _ _ _ _) (fun b e => by cases e; omega))
  rw [← wsL_set]
  exact row_setCell h.m
theorem OM.drew {N lv wb b5 n : Nat} {C : Nat → List Nat} {ws : Nat → Int} {rd : Nat} {W : World} (h : OM N lv wb b5 n C ws rd W) : OM N lv wb b5 n C ws rd W.drew := ⟨h.c, h.m, h.mb, h.s.below (Below.drewN' (Below.refl _ _) 1), h.sb⟩
/-- A graph that lies in memory as it is now. -/
theorem OM.callers {w1 : World} {cv : Value} {n : Nat} {C : Nat → List Nat} (h : GraphIs w1 cv n C) : ∃ A cp, cv = .slice A n cp ∧ ∀ f, f < n → ∃ b u, A = some ⟨b, 0, none⟩ ∧ b < w1.heap.size ∧ w1.cell? ⟨b, f, none⟩ = some u ∧ ∃ A' c', u = .slice A' (C f).length c' ∧ ∀ j x, (C f)[j]? = some x → ∃ b', A' = some ⟨b', 0, none⟩ ∧ b' < w1.heap.size ∧ w1.cell? ⟨b', j, none⟩ = some (iv x) := by
  obtain ⟨A, cp, rfl, h⟩ := h
  refine ⟨A, cp, rfl, fun f hf => ?_⟩
  obtain ⟨b, u, h1, h2, A', c', h3, h4⟩ := h f hf
  refine ⟨b, u, h1, World.block_lt_of_cell? _ _ h2, h2, A', c', h3, fun j x hj => ?_⟩
  obtain ⟨b', h5, h6⟩ := h4 j x hj
  exact ⟨b', h5, World.block_lt_of_cell? _ _ h6, h6⟩
end Go.Proofs.YtchhbhgbpimegaaDoor
