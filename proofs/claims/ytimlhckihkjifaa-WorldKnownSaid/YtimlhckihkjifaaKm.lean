/-
  WorldKnown's table, and what its calls answer. Made by wip/genworldref.py.
-/
import Derived.Test.YtimlhckihkjifaaTw
namespace Go.Proofs.Ytimlhckihkjifaa
open Go.RowKit
set_option linter.unusedVariables false
set_option linter.unusedSimpArgs false
theorem chain_below (B : Nat) : ∀ (os : List Obj) (w w' : World), Below B w w' → B ≤ w'.heap.size → Below B w (os.foldl World.alloc w') ∧ w'.heap.size + os.length ≤ (os.foldl World.alloc w').heap.size
  | [], w, w', h, h2 => ⟨h, by simp⟩
  | o :: os, w, w', h, h2 => by
    obtain ⟨q1, q2⟩ := chain_below B os w (w'.alloc o) (h.alloc h2 _) (by simp; omega)
    exact ⟨q1, by
      have : (w'.alloc o).heap.size = w'.heap.size + 1 := by simp
      rw [this] at q2
      rw [List.length_cons]
      show _ ≤ (os.foldl World.alloc (w'.alloc o)).heap.size
      omega⟩
theorem chain_at : ∀ (os : List Obj) (w : World) (k : Nat) (o : Obj), os[k]? = some o → (os.foldl World.alloc w).heap[w.heap.size + k]? = some o
  | [], w, k, o, h => by simp at h
  | o' :: os, w, 0, o, h => by
    obtain rfl : o' = o := by simpa using h
    have hs : (w.alloc o').heap.size = w.heap.size + 1 := by simp
    show (os.foldl World.alloc (w.alloc o')).heap[w.heap.size + 0]? = _
    rw [(chain_below (w.heap.size + 1) os (w.alloc o') (w.alloc o') (Below.refl _ _) (by omega)).1.block _ (by omega)]
    exact alloc_at w o'
  | o' :: os, w, k + 1, o, h => by
    have hs : (w.alloc o').heap.size = w.heap.size + 1 := by simp
    have := chain_at os (w.alloc o') k o (by simpa using h)
    rw [hs] at this
    rw [show w.heap.size + (k + 1) = w.heap.size + 1 + k by omega]
    exact this
theorem name_nine {Q : World → Prop} {w : World} {o1 o2 o3 o4 o5 o6 o7 o8 o9 : Obj} (F : ∀ X : World, (∀ k o, [o1, o2, o3, o4, o5, o6, o7, o8, o9][k]? = some o → X.heap[w.heap.size + k]? = some o) → Below w.heap.size w X → w.heap.size + 9 ≤ X.heap.size → Q X) :
    Q (((((((((w.alloc o1).alloc o2).alloc o3).alloc o4).alloc o5).alloc o6).alloc o7).alloc o8).alloc o9) :=
  F _ (fun k o h => chain_at [o1, o2, o3, o4, o5, o6, o7, o8, o9] w k o h) (chain_below _ [o1, o2, o3, o4, o5, o6, o7, o8, o9] w w (Below.refl _ _) (Nat.le_refl _)).1 (chain_below _ [o1, o2, o3, o4, o5, o6, o7, o8, o9] w w (Below.refl _ _) (Nat.le_refl _)).2
theorem rd_row {w : World} {g B : Nat} {l : List In} (h : w.heap[g]? = some (.cells (l.flatMap ic).toArray 25 (0, 0))) (hg : g < B) (hok : ∀ x ∈ l, x.ok) (hl : l.length ≤ 9223372036854775807) : Rd w B (some ⟨g, 0, none⟩) l :=
  ⟨hl, hok, fun j x hj => ⟨⟨g, 0, none⟩, rfl, hg, fun i u hi => by
    have := row_cells h (j * 3 + i) u (flat_at l j i x u hj hi)
    rw [addr_add, addr_add]
    simpa [Nat.zero_add] using this⟩⟩
/-- A row of the table. -/
structure Tab (W : World) (B gT k : Nat) (A : Option Addr) (l : List In) : Prop where
  cells : CellsAt W gT (k * 3) [.slice A l.length l.length, .int .i64 (chkL l).1, .int .i64 ((chkL l).2 : Nat)]
  rd : Rd W B A l
  len : l.length ≤ 2
theorem Tab.below {W W' : World} {B C gT k : Nat} {A : Option Addr} {l : List In} (h : Tab W B gT k A l) (hb : Below C W W') (hB : B ≤ C) (hg : gT < C) : Tab W' B gT k A l := ⟨h.cells.below hb hg, h.rd.below hb hB, h.len⟩
theorem part_at {W : World} {g : Nat} {cs : List Value} {t : TypeId} (h : W.heap[g]? = some (.cells cs.toArray t (0, 0))) (off : Nat) (ps : List Value) (hp : ∀ j v, ps[j]? = some v → cs[off + j]? = some v) : CellsAt W g off ps := fun j v hv => by
  have := row_cells h (off + j) v (hp j v hv)
  rwa [Nat.zero_add] at this
theorem three_in {cs : List Value} {off : Nat} {a b c : Value} (h0 : cs[off]? = some a) (h1 : cs[off + 1]? = some b) (h2 : cs[off + 2]? = some c) : ∀ j v, [a, b, c][j]? = some v → cs[off + j]? = some v
  | 0, v, h => by obtain rfl : a = v := by simpa using h
                  exact h0
  | 1, v, h => by obtain rfl : b = v := by simpa using h
                  exact h1
  | 2, v, h => by obtain rfl : c = v := by simpa using h
                  exact h2
  | j + 3, v, h => by simp at h
theorem tab_all {W : World} {g : Nat} (h : ∀ k o, ([.cells #[.int .i64 0, .int .i64 0, .int .u8 0] 25, .cells #[.int .i64 1073741825, .int .i64 0, .int .u8 0] 25, .cells #[.int .i64 1073741824, .int .i64 2, .int .u8 0] 25, .cells #[.int .i64 1, .int .i64 3, .int .u8 0] 25, .cells #[.int .i64 1, .int .i64 (-1), .int .u8 0] 25, .cells #[.int .i64 3, .int .i64 0, .int .u8 0, .int .i64 3, .int .i64 0, .int .u8 0] 25, .cells #[.int .i64 3, .int .i64 1, .int .u8 0, .int .i64 3, .int .i64 0, .int .u8 0] 25, .cells #[.int .i64 3, .int .i64 0, .int .u8 0, .int .i64 2, .int .i64 9, .int .u8 0] 25, .cells #[.slice none 0 0, .int .i64 (-1), .int .i64 0, .slice (some ⟨g, 0, none⟩) 1 1, .int .i64 0, .int .i64 2, .slice (some ⟨g + 1, 0, none⟩) 1 1, .int .i64 0, .int .i64 2, .slice (some ⟨g + 1 + 1, 0, none⟩) 1 1, .int .i64 (-1), .int .i64 0, .slice (some ⟨g + 1 + 1 + 1, 0, none⟩) 1 1, .int .i64 0, .int .i64 6, .slice (some ⟨g + 1 + 1 + 1 + 1, 0, none⟩) 1 1, .int .i64 0, .int .i64 6, .slice (some ⟨g + 1 + 1 + 1 + 1 + 1, 0, none⟩) 2 2, .int .i64 1, .int .i64 28, .slice (some ⟨g + 1 + 1 + 1 + 1 + 1 + 1, 0, none⟩) 2 2, .int .i64 1, .int .i64 28, .slice (some ⟨g + 1 + 1 + 1 + 1 + 1 + 1 + 1, 0, none⟩) 2 2, .int .i64 1, .int .i64 6] 52] : List Obj)[k]? = some o → W.heap[g + k]? = some o) : ∀ k, k < 9 → ∃ A l, Tab W (g + 9) (g + 8) k A l
  | 0, _ => ⟨none, [], by
      have hc : chkL [] = (-1, 0) := by kernel_rfl
      refine ⟨by rw [hc]; exact part_at (h 8 _ rfl) _ _ (three_in rfl rfl rfl), ?_, by decide⟩
      exact Rd.nil _ _ _⟩
  | 1, _ => ⟨some ⟨g, 0, none⟩, [⟨0, 0, 0⟩], by
      have hc : chkL [⟨0, 0, 0⟩] = (0, 2) := by kernel_rfl
      refine ⟨by rw [hc]; exact part_at (h 8 _ rfl) _ _ (three_in rfl rfl rfl), ?_, by decide⟩
      exact rd_row (h 0 _ rfl) (by omega) (by
        intro x hx
        simp only [List.mem_cons, List.not_mem_nil, or_false] at hx
        subst hx
        exact ⟨by decide, by decide, by decide, by decide, by decide⟩) (by decide)⟩
  | 2, _ => ⟨some ⟨g + 1, 0, none⟩, [⟨1073741825, 0, 0⟩], by
      have hc : chkL [⟨1073741825, 0, 0⟩] = (0, 2) := by kernel_rfl
      refine ⟨by rw [hc]; exact part_at (h 8 _ rfl) _ _ (three_in rfl rfl rfl), ?_, by decide⟩
      exact rd_row (h 1 _ rfl) (by omega) (by
        intro x hx
        simp only [List.mem_cons, List.not_mem_nil, or_false] at hx
        subst hx
        exact ⟨by decide, by decide, by decide, by decide, by decide⟩) (by decide)⟩
  | 3, _ => ⟨some ⟨g + 1 + 1, 0, none⟩, [⟨1073741824, 2, 0⟩], by
      have hc : chkL [⟨1073741824, 2, 0⟩] = (-1, 0) := by kernel_rfl
      refine ⟨by rw [hc]; exact part_at (h 8 _ rfl) _ _ (three_in rfl rfl rfl), ?_, by decide⟩
      exact rd_row (h 2 _ rfl) (by omega) (by
        intro x hx
        simp only [List.mem_cons, List.not_mem_nil, or_false] at hx
        subst hx
        exact ⟨by decide, by decide, by decide, by decide, by decide⟩) (by decide)⟩
  | 4, _ => ⟨some ⟨g + 1 + 1 + 1, 0, none⟩, [⟨1, 3, 0⟩], by
      have hc : chkL [⟨1, 3, 0⟩] = (0, 6) := by kernel_rfl
      refine ⟨by rw [hc]; exact part_at (h 8 _ rfl) _ _ (three_in rfl rfl rfl), ?_, by decide⟩
      exact rd_row (h 3 _ rfl) (by omega) (by
        intro x hx
        simp only [List.mem_cons, List.not_mem_nil, or_false] at hx
        subst hx
        exact ⟨by decide, by decide, by decide, by decide, by decide⟩) (by decide)⟩
  | 5, _ => ⟨some ⟨g + 1 + 1 + 1 + 1, 0, none⟩, [⟨1, -1, 0⟩], by
      have hc : chkL [⟨1, -1, 0⟩] = (0, 6) := by kernel_rfl
      refine ⟨by rw [hc]; exact part_at (h 8 _ rfl) _ _ (three_in rfl rfl rfl), ?_, by decide⟩
      exact rd_row (h 4 _ rfl) (by omega) (by
        intro x hx
        simp only [List.mem_cons, List.not_mem_nil, or_false] at hx
        subst hx
        exact ⟨by decide, by decide, by decide, by decide, by decide⟩) (by decide)⟩
  | 6, _ => ⟨some ⟨g + 1 + 1 + 1 + 1 + 1, 0, none⟩, [⟨3, 0, 0⟩, ⟨3, 0, 0⟩], by
      have hc : chkL [⟨3, 0, 0⟩, ⟨3, 0, 0⟩] = (1, 28) := by kernel_rfl
      refine ⟨by rw [hc]; exact part_at (h 8 _ rfl) _ _ (three_in rfl rfl rfl), ?_, by decide⟩
      exact rd_row (h 5 _ rfl) (by omega) (by
        intro x hx
        simp only [List.mem_cons, List.not_mem_nil, or_false] at hx
        rcases hx with rfl | rfl <;> exact ⟨by decide, by decide, by decide, by decide, by decide⟩) (by decide)⟩
  | 7, _ => ⟨some ⟨g + 1 + 1 + 1 + 1 + 1 + 1, 0, none⟩, [⟨3, 1, 0⟩, ⟨3, 0, 0⟩], by
      have hc : chkL [⟨3, 1, 0⟩, ⟨3, 0, 0⟩] = (1, 28) := by kernel_rfl
      refine ⟨by rw [hc]; exact part_at (h 8 _ rfl) _ _ (three_in rfl rfl rfl), ?_, by decide⟩
      exact rd_row (h 6 _ rfl) (by omega) (by
        intro x hx
        simp only [List.mem_cons, List.not_mem_nil, or_false] at hx
        rcases hx with rfl | rfl <;> exact ⟨by decide, by decide, by decide, by decide, by decide⟩) (by decide)⟩
  | 8, _ => ⟨some ⟨g + 1 + 1 + 1 + 1 + 1 + 1 + 1, 0, none⟩, [⟨3, 0, 0⟩, ⟨2, 9, 0⟩], by
      have hc : chkL [⟨3, 0, 0⟩, ⟨2, 9, 0⟩] = (1, 6) := by kernel_rfl
      refine ⟨by rw [hc]; exact part_at (h 8 _ rfl) _ _ (three_in rfl rfl rfl), ?_, by decide⟩
      exact rd_row (h 7 _ rfl) (by omega) (by
        intro x hx
        simp only [List.mem_cons, List.not_mem_nil, or_false] at hx
        rcases hx with rfl | rfl <;> exact ⟨by decide, by decide, by decide, by decide, by decide⟩) (by decide)⟩
  | k + 9, h9 => absurd h9 (by omega)
theorem ex_rd (w : World) : Calls Try.prog 20 #[] w fun e w' => (e = .returned (.slice (some ⟨w.heap.size, 0, none⟩) 4 4) ∧ Rd w' w'.heap.size (some ⟨w.heap.size, 0, none⟩) exL) ∧ Below w.heap.size w w' :=
  (example_any w).mono fun e w' q => ⟨⟨q.1.1, by
    obtain ⟨A, cap, e1, h⟩ := q.1.2.rd (by decide) exL_ok
    have e2 : (some ⟨w.heap.size, 0, none⟩ : Option Addr) = A := by injection e1
    rw [e2]
    exact h⟩, q.2⟩
/-- As wp_call_ret; the result is one of many. -/
theorem wp_call_some {P : Program} {o : Oper} {a : Act} {w : World} {K : Act → World → Prop} {Q : Exit → Act → World → Prop} (f : FuncId) (xs : List Operand) (ats : Array TypeId)
    (ho : o.op = .call { callee := .value (.func f), args := xs.toArray, argTypes := ats }) (vs : List Value) (hv : xs.map a.eval = vs) (hc : (callFunc f vs.toArray).run P w = .ok (.enter f vs.toArray) w) {X : Type} {V : X → Value}
    (h : Calls P f vs.toArray w fun e w' => (∃ x, e = .returned (V x)) ∧ Below w.heap.size w w') (hk : ∀ x w', Below w.heap.size w w' → K (a.put o.dst (V x)) w') : o.wp P a w K Q := by
  unfold Oper.wp execOp
  simp only [ho, resolve, invoke, List.map_toArray, hv]
  have he : a.eval (.func f) = .func (.func f) #[] #[] := rfl
  simp [he, Deferred.ofValue, hc]
  rw [Oper.upon_enter]
  refine h.mono ?_
  rintro e w' ⟨⟨x, rfl⟩, hR⟩
  exact hk x w' hR
theorem below_al {w W W' : World} {o : Obj} (h : Below w.heap.size w W) (hB : Below (W.alloc o).heap.size (W.alloc o) W') : Below w.heap.size w W' := (h.alloc h.size o).trans (hB.mono (Nat.le_trans h.size (by simp)))
theorem k_one (W : World) : Rd (W.alloc (.cells #[.int .i64 1, .int .i64 5, .int .u8 0] 25)) (W.alloc (.cells #[.int .i64 1, .int .i64 5, .int .u8 0] 25)).heap.size (some ⟨W.heap.size, 0, none⟩) [⟨1, 5, 0⟩] := rd_row (alloc_at _ _) (by simp) (by
  intro x hx
  obtain rfl := List.mem_singleton.1 hx
  exact ⟨by decide, by decide, by decide, by decide, by decide⟩) (by decide)
theorem k_two (W : World) : Rd (W.alloc (.cells #[.int .i64 2, .int .i64 0, .int .u8 0, .int .i64 1, .int .i64 0, .int .u8 4] 25)) (W.alloc (.cells #[.int .i64 2, .int .i64 0, .int .u8 0, .int .i64 1, .int .i64 0, .int .u8 4] 25)).heap.size (some ⟨W.heap.size, 0, none⟩) [⟨2, 0, 0⟩, ⟨1, 0, 4⟩] := rd_row (alloc_at _ _) (by simp) (by
  intro x hx
  simp only [List.mem_cons, List.not_mem_nil, or_false] at hx
  rcases hx with rfl | rfl <;> exact ⟨by decide, by decide, by decide, by decide, by decide⟩) (by decide)
theorem k_next (HN : PlayerNil) (W : World) : Calls Try.prog 11 #[.pointer none] W fun e w' => e = .returned (.agg #[.int .u8 0, .int .u8 0, .bool false, .int .u8 0]) ∧ Below W.heap.size W w' := HN.next W
section
variable (H : WorldOk)
include H
theorem k_set1 (A : Option Addr) (W : World) (h : Rd W W.heap.size A exL) : Calls Try.prog 16 #[.slice A 4 4, .agg #[.int .i64 0, .int .i64 0, .int .u8 0]] W fun e w' => (∃ A' n c', e = .returned (.tuple #[.slice A' n c', .int .i64 2])) ∧ Below W.heap.size W w' := by
  have he : setE exL ⟨0, 0, 0⟩ = 2 := by kernel_rfl
  have q := H.set.weak (A := A) (cap := 4) (l := exL) (x := ⟨0, 0, 0⟩) (W := W) h (Nat.le_refl _) (by decide) (by decide) ⟨by decide, by decide, by decide, by decide, by decide⟩
  rw [he] at q
  exact q.mono fun e w' p => ⟨by
    obtain ⟨A', c', e1, _⟩ := p.1
    exact ⟨A', _, c', e1⟩, p.2⟩
theorem k_set2 (A : Option Addr) (W : World) (h : Rd W W.heap.size A [⟨1, 5, 0⟩]) : Calls Try.prog 16 #[.slice A 1 1, .agg #[.int .i64 1, .int .i64 0, .int .u8 0]] W fun e w' => (∃ A' n c', e = .returned (.tuple #[.slice A' n c', .int .i64 6])) ∧ Below W.heap.size W w' := by
  have he : setE [⟨1, 5, 0⟩] ⟨1, 0, 0⟩ = 6 := by kernel_rfl
  have q := H.set.weak (A := A) (cap := 1) (l := [⟨1, 5, 0⟩]) (x := ⟨1, 0, 0⟩) (W := W) h (Nat.le_refl _) (by decide) (by decide) ⟨by decide, by decide, by decide, by decide, by decide⟩
  rw [he] at q
  exact q.mono fun e w' p => ⟨by
    obtain ⟨A', c', e1, _⟩ := p.1
    exact ⟨A', _, c', e1⟩, p.2⟩
theorem k_set3 (A : Option Addr) (W : World) (h : Rd W W.heap.size A exL) : Calls Try.prog 16 #[.slice A 4 4, .agg #[.int .i64 2, .int .i64 0, .int .u8 9]] W fun e w' => (∃ A' c', e = .returned (.tuple #[.slice A' 4 c', .int .i64 0]) ∧ Rd w' w'.heap.size A' [⟨2, 0, 9⟩, ⟨2, 1, 65⟩, ⟨5, 0, 1⟩, ⟨5, 2, 8⟩]) ∧ Below W.heap.size W w' := by
  have he : setE exL ⟨2, 0, 9⟩ = 0 := by kernel_rfl
  have q := H.set.weak (A := A) (cap := 4) (l := exL) (x := ⟨2, 0, 9⟩) (W := W) h (Nat.le_refl _) (by decide) (by decide) ⟨by decide, by decide, by decide, by decide, by decide⟩
  rw [he] at q
  have hr : setR exL ⟨2, 0, 9⟩ = [⟨2, 0, 9⟩, ⟨2, 1, 65⟩, ⟨5, 0, 1⟩, ⟨5, 2, 8⟩] := by kernel_rfl
  rw [hr] at q
  exact q.mono fun e w' p => ⟨by
    obtain ⟨A', c', e1, e2⟩ := p.1
    exact ⟨A', c', e1, e2⟩, p.2⟩
theorem k_at1 (A : Option Addr) (W : World) (h : Rd W W.heap.size A exL) : Calls Try.prog 18 #[.slice A 4 4, .int .i64 0] W fun e w' => e = .returned (.agg #[.int .u8 0, .int .u8 0, .bool false, .int .u8 0]) ∧ Below W.heap.size W w' := by
  have hn : atL exL (0) = n0 := by kernel_rfl
  have q := H.at_ A 4 W.heap.size exL (0) W h (Nat.le_refl _) (by decide) (by decide) (by decide)
  rw [hn] at q
  exact q
theorem k_at2 (A : Option Addr) (W : World) (h : Rd W W.heap.size A exL) : Calls Try.prog 18 #[.slice A 4 4, .int .i64 (-4)] W fun e w' => e = .returned (.agg #[.int .u8 0, .int .u8 0, .bool false, .int .u8 0]) ∧ Below W.heap.size W w' := by
  have hn : atL exL (-4) = n0 := by kernel_rfl
  have q := H.at_ A 4 W.heap.size exL (-4) W h (Nat.le_refl _) (by decide) (by decide) (by decide)
  rw [hn] at q
  exact q
theorem k_at3 (A : Option Addr) (W : World) (h : Rd W W.heap.size A [⟨2, 0, 0⟩, ⟨1, 0, 4⟩]) : Calls Try.prog 18 #[.slice A 2 2, .int .i64 9] W fun e w' => e = .returned (.agg #[.int .u8 0, .int .u8 0, .bool false, .int .u8 0]) ∧ Below W.heap.size W w' := by
  have hn : atL [⟨2, 0, 0⟩, ⟨1, 0, 4⟩] (9) = n0 := by kernel_rfl
  have q := H.at_ A 2 W.heap.size [⟨2, 0, 0⟩, ⟨1, 0, 4⟩] (9) W h (Nat.le_refl _) (by decide) (by decide) (by decide)
  rw [hn] at q
  exact q
theorem k_upto (A : Option Addr) (W : World) (h : Rd W W.heap.size A exL) : Calls Try.prog 19 #[.slice A 4 4, .int .i64 0] W fun e w' => (∃ A' c', e = .returned (.slice A' 0 c')) ∧ Below W.heap.size W w' := by
  have hn : (uptoL exL 0).length = 0 := by kernel_rfl
  have q := H.upto A 4 W.heap.size exL 0 W h (Nat.le_refl _) (by decide) (by decide) (by decide)
  exact q.mono fun e w' p => ⟨by
    obtain ⟨A', c', e1, _⟩ := p.1
    rw [hn] at e1
    exact ⟨A', c', e1⟩, p.2⟩
end
end Go.Proofs.Ytimlhckihkjifaa
