/-
  The chapter's graph: what its order, depths and bound are; how it lies in memory.
-/
import Derived.Test.YtchhbhgbpimegaaDoorWalk
namespace Go.Proofs.YtchhbhgbpimegaaDoor
open Go.RowKit
set_option linter.unusedVariables false
def gOf (ls : List (List Nat)) (f : Nat) : List Nat := ls.getD f []
def exG : Nat → List Nat := gOf [[1, 2], [2], [], [2], []]
def ringG : Nat → List Nat := gOf [[1, 2], [2], [0], [2], []]
def exS : List Int := [5, 3, 2, 4, 9]
theorem ex_order : orderL 5 (cnt exG) = [2, 1, 0, 3, 4] := by kernel_rfl
theorem ring_order : (orderL 5 (cnt ringG)).length = 1 := by kernel_rfl
theorem ex_deep : (List.range 5).map (deepL (cnt exG) exS [2, 1, 0, 3, 4]) = [10, 5, 2, 6, 9] := by kernel_rfl
theorem ex_bound : boundL 5 [0, 0, 0, 1, 1] (deepL (cnt exG) exS [2, 1, 0, 3, 4]) 0 = 19 := by kernel_rfl
theorem fine5 (ls : List (List Nat)) (h : ls.length = 5) (h2 : ∀ l ∈ ls, l.length ≤ 5 ∧ ∀ c ∈ l, c < 5) : Fine 5 (gOf ls) := by
  have hm : ∀ f, f < 5 → gOf ls f ∈ ls := fun f hf => by
    have : ls[f]? = some (gOf ls f) := by
      unfold gOf
      have h3 : f < ls.length := by omega
      simp [h3]
    exact List.mem_of_getElem? this
  exact ⟨by decide, fun f hf c hc => (h2 _ (hm f hf)).2 c hc, fun f hf => Nat.le_trans (h2 _ (hm f hf)).1 (by decide)⟩
theorem ex_fine : Fine 5 exG := fine5 _ rfl (by decide)
theorem ring_fine : Fine 5 ringG := fine5 _ rfl (by decide)
theorem ex_sizes : Sizes exS := ⟨by decide, by decide⟩
theorem rowIs_nil (w : World) : RowIs w (.slice none 0 0) [] := ⟨none, 0, rfl, fun j x hj => by simp at hj⟩
theorem rowIs_at {w : World} {b c : Nat} {l : List Nat} {t : TypeId} (h : w.heap[b]? = some (.cells (l.map iv).toArray t (0, 0))) : RowIs w (.slice (some ⟨b, 0, none⟩) l.length c) l :=
  ⟨_, c, rfl, fun j x hj => ⟨b, rfl, row_at h j _ (by simp [hj])⟩⟩
theorem intsIs_at {w : World} {b c : Nat} {l : List Int} {t : TypeId} (h : w.heap[b]? = some (.cells (l.map jv).toArray t (0, 0))) : IntsIs w (.slice (some ⟨b, 0, none⟩) l.length c) l :=
  ⟨_, c, rfl, fun j x hj => ⟨b, rfl, row_at h j _ (by simp [hj])⟩⟩
theorem graph5 {w : World} {b c : Nat} {t : TypeId} {r0 r1 r2 r3 r4 : Value} {l0 l1 l2 l3 l4 : List Nat} (h : w.heap[b]? = some (.cells [r0, r1, r2, r3, r4].toArray t (0, 0))) (h0 : RowIs w r0 l0) (h1 : RowIs w r1 l1) (h2 : RowIs w r2 l2) (h3 : RowIs w r3 l3) (h4 : RowIs w r4 l4) :
    GraphIs w (.slice (some ⟨b, 0, none⟩) 5 c) 5 (gOf [l0, l1, l2, l3, l4]) := by
  refine ⟨_, c, rfl, fun f hf => ?_⟩
  have : f = 0 ∨ f = 1 ∨ f = 2 ∨ f = 3 ∨ f = 4 := by omega
  rcases this with rfl | rfl | rfl | rfl | rfl
  · exact ⟨b, r0, rfl, row_at h 0 _ rfl, h0⟩
  · exact ⟨b, r1, rfl, row_at h 1 _ rfl, h1⟩
  · exact ⟨b, r2, rfl, row_at h 2 _ rfl, h2⟩
  · exact ⟨b, r3, rfl, row_at h 3 _ rfl, h3⟩
  · exact ⟨b, r4, rfl, row_at h 4 _ rfl, h4⟩
/-- What example() answers. -/
def ExAns (w : World) (e : Ending) (w' : World) : Prop :=
  e = .returned (.slice (some ⟨w.heap.size + 1 + 1 + 1, 0, none⟩) 5 5) ∧ Below w.heap.size w w' ∧
    w'.heap[w.heap.size + 1 + 1 + 1]? = some (.cells [.slice (some ⟨w.heap.size, 0, none⟩) 2 2, .slice (some ⟨w.heap.size + 1, 0, none⟩) 1 1, .slice none 0 0, .slice (some ⟨w.heap.size + 1 + 1, 0, none⟩) 1 1, .slice none 0 0].toArray 36 (0, 0)) ∧
    RowIs w' (.slice (some ⟨w.heap.size, 0, none⟩) 2 2) [1, 2] ∧ RowIs w' (.slice (some ⟨w.heap.size + 1, 0, none⟩) 1 1) [2] ∧ RowIs w' (.slice (some ⟨w.heap.size + 1 + 1, 0, none⟩) 1 1) [2] ∧ w'.heap.size = w.heap.size + 4
theorem ExAns.graph {w w' : World} {e : Ending} (h : ExAns w e w') : GraphIs w' (.slice (some ⟨w.heap.size + 1 + 1 + 1, 0, none⟩) 5 5) 5 exG := graph5 h.2.2.1 h.2.2.2.1 h.2.2.2.2.1 (rowIs_nil _) h.2.2.2.2.2.1 (rowIs_nil _)
theorem ex_world (w : World) (r : Obj) : ∀ W, W = (((w.alloc (.cells #[.int .i64 1, .int .i64 2] 3)).alloc (.cells #[.int .i64 2] 3)).alloc (.cells #[.int .i64 2] 3)).alloc r →
    Below w.heap.size w W ∧ W.heap[w.heap.size + 1 + 1 + 1]? = some r ∧ RowIs W (.slice (some ⟨w.heap.size, 0, none⟩) 2 2) [1, 2] ∧ RowIs W (.slice (some ⟨w.heap.size + 1, 0, none⟩) 1 1) [2] ∧ RowIs W (.slice (some ⟨w.heap.size + 1 + 1, 0, none⟩) 1 1) [2] ∧ W.heap.size = w.heap.size + 4 := by
  rintro W rfl
  have h3 := alloc_at (((w.alloc (.cells #[.int .i64 1, .int .i64 2] 3)).alloc (.cells #[.int .i64 2] 3)).alloc (.cells #[.int .i64 2] 3)) r
  have h2 := alloc_at ((w.alloc (.cells #[.int .i64 1, .int .i64 2] 3)).alloc (.cells #[.int .i64 2] 3)) (.cells #[.int .i64 2] 3)
  have h1 := alloc_at (w.alloc (.cells #[.int .i64 1, .int .i64 2] 3)) (.cells #[.int .i64 2] 3)
  have h0 := alloc_at w (.cells #[.int .i64 1, .int .i64 2] 3)
  simp only [World.size_alloc] at h1 h2 h3
  refine ⟨((((Below.refl _ _).alloc (Nat.le_refl _) _).alloc (by simp) _).alloc (by simp <;> omega) _).alloc (by simp <;> omega) _, h3, ?_, ?_, ?_, by simp⟩
  · refine rowIs_at (l := [1, 2]) (t := 3) ?_
    rw [Go.heap_alloc_old _ _ (by simp <;> omega), Go.heap_alloc_old _ _ (by simp <;> omega), Go.heap_alloc_old _ _ (by simp)]
    exact h0
  · refine rowIs_at (l := [2]) (t := 3) ?_
    rw [Go.heap_alloc_old _ _ (by simp <;> omega), Go.heap_alloc_old _ _ (by simp)]
    exact h1
  · refine rowIs_at (l := [2]) (t := 3) ?_
    rw [Go.heap_alloc_old _ _ (by simp)]
    exact h2
theorem example_any (w : World) : Calls Tryd.prog 34 #[] w (ExAns w) := by
  go_enter Tryd.func34, Tryd.ntmps34
  go_wp2
  go_ret
  obtain ⟨h1, h2, h3, h4, h5, h6⟩ := ex_world w _ _ rfl
  exact ⟨rfl, h1, h2, h3, h4, h5, h6⟩
end Go.Proofs.YtchhbhgbpimegaaDoor
