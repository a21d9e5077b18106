/-
  A set for no numbers: newSet(0), least; the iterator of its taken; counted of no functions.
-/
import Derived.Test.YtchhbhgbpimegaaDoorCounted
namespace Go.Proofs.YtchhbhgbpimegaaDoor
open Go.RowKit
set_option linter.unusedVariables false
/-- At p lies a set for no numbers. -/
def NilSet (w : World) (p : Nat) : Prop := ∃ lv c A c', w.heap[p]? = some (.cells [.slice (some ⟨lv, 0, none⟩) 1 c].toArray 96 (0, 0)) ∧ w.cell? ⟨lv, 0, none⟩ = some (.slice A 0 c')
theorem NilSet.below {w w' : World} {p : Nat} (h : NilSet w p) (hb : Below w.heap.size w w') : NilSet w' p := by
  obtain ⟨lv, c, A, c', h1, h2⟩ := h
  exact ⟨lv, c, A, c', (hb.block _ (Array.getElem?_eq_some_iff.1 h1).1).trans h1, cell_below h2 hb⟩
theorem nil_world (w : World) (c : Nat) (zs : Array Value) :
    Below w.heap.size w ((((w.alloc (.cells #[.slice (some ⟨w.heap.size + 1 + 1 + 1, 0, none⟩) 1 c] 96)).alloc (.cells #[] 100)).alloc (.cells #[.slice (some ⟨w.heap.size + 1, 0, none⟩) 0 0] 97)).alloc (.cells (#[.slice (some ⟨w.heap.size + 1, 0, none⟩) 0 0] ++ zs) 97)).drew.drew ∧
    NilSet ((((w.alloc (.cells #[.slice (some ⟨w.heap.size + 1 + 1 + 1, 0, none⟩) 1 c] 96)).alloc (.cells #[] 100)).alloc (.cells #[.slice (some ⟨w.heap.size + 1, 0, none⟩) 0 0] 97)).alloc (.cells (#[.slice (some ⟨w.heap.size + 1, 0, none⟩) 0 0] ++ zs) 97)).drew.drew w.heap.size := by
  have hB := ((((Below.refl w.heap.size w).alloc (Nat.le_refl _) (.cells #[.slice (some ⟨w.heap.size + 1 + 1 + 1, 0, none⟩) 1 c] 96)).alloc (by simp) (.cells #[] 100)).alloc (by simp; omega) (.cells #[.slice (some ⟨w.heap.size + 1, 0, none⟩) 0 0] 97)).alloc (by simp; omega) (.cells (#[.slice (some ⟨w.heap.size + 1, 0, none⟩) 0 0] ++ zs) 97)
  refine ⟨⟨hB.os, hB.tape, hB.output, hB.size, hB.block⟩, w.heap.size + 1 + 1 + 1, c, some ⟨w.heap.size + 1, 0, none⟩, 0, ?_, ?_⟩
  · show (World.alloc _ _).heap[_]? = _
    rw [Go.heap_alloc_old _ _ (by simp; omega), Go.heap_alloc_old _ _ (by simp; omega), Go.heap_alloc_old _ _ (by simp)]
    exact alloc_at _ _
  · show (World.alloc _ _).cell? _ = _
    have := alloc_at (((w.alloc (.cells #[.slice (some ⟨w.heap.size + 1 + 1 + 1, 0, none⟩) 1 c] 96)).alloc (.cells #[] 100)).alloc (.cells #[.slice (some ⟨w.heap.size + 1, 0, none⟩) 0 0] 97)) (.cells (#[.slice (some ⟨w.heap.size + 1, 0, none⟩) 0 0] ++ zs) 97)
    simp only [World.size_alloc] at this
    rw [cell_of_row _ _ 0 _ _ _ this, Array.getElem?_append_left (by simp)]
    rfl
set_option maxRecDepth 100000 in
set_option maxHeartbeats 2000000 in
theorem newSet_zero (w : World) : Calls Tryd.prog 22 #[.int .i64 0] w fun e w' => e = .returned (.pointer (some ⟨w.heap.size, 0, none⟩)) ∧ Below w.heap.size w w' ∧ NilSet w' w.heap.size := by
  have hmk : ∀ W : World, (Instr.makeSlice 97 (.int .i64 0) (.int .i64 0)).run Tryd.prog W = .ok (.slice (some ⟨W.heap.size, 0, none⟩) 0 0) (W.alloc (.cells #[] 100)) := fun _ => by kernel_rfl
  go_enter Tryd.func22, Tryd.ntmps22
  go_wp2
  go_loopw [4] (fun a wr => (a = .int .i64 0 ∧ wr = w.alloc (.cells #[.slice none 0 0] 96)) ∨ (a = .int .i64 0 ∧ Below w.heap.size w wr ∧ w.heap.size + 1 < wr.heap.size ∧ NilSet wr w.heap.size)) (fun a wr => if wr.heap.size = w.heap.size + 1 then 1 else 0)
  case atStart => exact Or.inl ⟨rfl, rfl⟩
  case round =>
    rcases hrel with ⟨rfl, rfl⟩ | ⟨rfl, hB, hsz, hs⟩
    · go_wp2
      have c0 : (w.alloc (.cells #[.slice none 0 0] 96)).cell? ⟨w.heap.size, 0, none⟩ = some (.slice none 0 0) := by
        rw [cell_of_row _ _ 0 _ _ _ (alloc_at _ _)]; rfl
      have c1 : ((w.alloc (.cells #[.slice none 0 0] 96)).alloc (.cells #[] 100)).cell? ⟨w.heap.size, 0, none⟩ = some (.slice none 0 0) := by
        rw [((Below.refl _ _).alloc (Nat.le_refl _) _).cell (p := ⟨w.heap.size, 0, none⟩) (by simp)]; exact c0
      have c2 : (((w.alloc (.cells #[.slice none 0 0] 96)).alloc (.cells #[] 100)).alloc (.cells #[.slice (some ⟨w.heap.size + 1, 0, none⟩) 0 0] 97)).cell? ⟨w.heap.size, 0, none⟩ = some (.slice none 0 0) := by
        rw [((Below.refl _ _).alloc (Nat.le_refl _) _).cell (p := ⟨w.heap.size, 0, none⟩) (by simp; omega)]; exact c1
      have hbig : ¬ (281474976710656 < Builtin.nextslicecap 1 0 * Tryd.t97.bytes) := by decide
      go_region_with (fail)
      all_goals
        go_wp2
        go_roundw
        case rel => exact Or.inr ⟨rfl, (nil_world w _ _).1, by simp [World.drew], (nil_world w _ _).2⟩
        case measure =>
          simp [World.drew]
          omega
    · obtain ⟨lv, c, A, c', hr, hc⟩ := id hs
      have c0 := row_at hr 0 _ rfl
      have HS := Lib.hid hs
      clear hs hr
      go_wp2
      go_ret
      exact ⟨rfl, hB, HS.out⟩
set_option maxRecDepth 100000 in
theorem least_zero (p : Nat) (w : World) (h : NilSet w p) : Calls Tryd.prog 44 #[.pointer (some ⟨p, 0, none⟩)] w fun e w' => e = .returned (.tuple #[.int .i64 0, .bool false]) ∧ Drawn w w' := by
  obtain ⟨lv, c, A, c', hr, hl⟩ := h
  have c0 := row_at hr 0 _ rfl
  clear hr
  go_enter Tryd.func44, Tryd.ntmps44
  go_wp2
  go_quiet (fail)
  go_wp2
  go_ret2
  exact ⟨rfl, (Drawn.refl _).more _⟩
section
attribute [local go_sem] Oper.semAt_some
open Go.Shelf
set_option maxRecDepth 100000 in
set_option maxHeartbeats 1000000 in
theorem nil_iter (n l Bn p : Nat) (W : World) (hc : W.cell? ⟨Bn, 0, none⟩ = some (.pointer (some ⟨p, 0, none⟩))) (hs : NilSet W p) :
    CallsIn Fence.wide (n + 1) Tryd.prog 43 #[.func (.yield l) #[] #[], .pointer (some ⟨Bn, 0, none⟩)] W fun e W' => (∃ v, e = .returned v) ∧ Drawn W W' := by
  have HL := Lib.hid (least_zero p W hs)
  clear hs
  refine callsIn_of_wp Tryd.func43 rfl trivial ?_ rfl
  simp only [Tryd.ntmps43, List.size_toArray, List.length_cons, List.length_nil, Nat.reduceAdd, Nat.reduceSub, Array.replicate_succ, Array.replicate_zero, List.push_toArray, List.append_toArray, List.nil_append, List.cons_append]
  gi_wp2
  gi_loopw [3] (fun _ wr => wr = W) (fun _ _ => 0)
  case atStart => exact rfl
  case round =>
    subst hrel
    gi_wp2_with (refine ⟨trivial, ?_⟩; gi_at_call 44; refine (callsIn_wide.2 HL.out).mono ?_; rintro e w' ⟨rfl, hd⟩)
    refine bodyPost_ret (results_none rfl _ _ _) rfl ?_
    exact ⟨⟨_, rfl⟩, hd⟩
end
set_option maxRecDepth 100000 in
set_option maxHeartbeats 1000000 in
theorem counted_zero (G : Nat → List Nat) (v : Value) (w : World) (h : GraphIs w v 0 G) :
    Calls Tryd.prog 35 #[v] w fun e w' => ∃ v', e = .returned v' ∧ GraphIs w' v' 0 (cnt G) ∧ Below w.heap.size w w' := by
  obtain ⟨A, c, rfl, -⟩ := h
  have hmk : ∀ W : World, (Instr.makeSlice 33 (.int .i64 0) (.int .i64 0)).run Tryd.prog W = .ok (.slice (some ⟨W.heap.size, 0, none⟩) 0 0) (W.alloc (.cells #[] 36)) := fun _ => by kernel_rfl
  go_enter Tryd.func35, Tryd.ntmps35
  go_wp2_with (go_at_call 22; refine (newSet_zero _).mono ?_; rintro e w1 ⟨rfl, hb1, hs1⟩; have HB1 := Lib.hid hb1; clear hb1 hs1)
  have HB2 := Lib.hid (HB1.out.alloc HB1.out.size (.cells #[] 36))
  generalize (w1.alloc (.cells #[] 36)) = w2 at *
  go_loopw [16] (fun i wr => i = .int .i64 0 ∧ wr = w2) (fun _ _ => 0)
  case atStart => exact ⟨rfl, rfl⟩
  case round =>
    obtain ⟨rfl, rfl⟩ := hrel
    go_wp2
    go_ret
    exact ⟨_, rfl, ⟨_, _, rfl, fun f hf => by omega⟩, HB2.out⟩
theorem counted_any (n : Nat) (G : Nat → List Nat) (v : Value) (w : World) (h64 : n ≤ 64) (hG : ∀ f, f < n → ∀ c ∈ G f, c < n) (hL : ∀ f, f < n → (G f).length ≤ 1048576) (h : GraphIs w v n G) (hT : Tab w) :
    Calls Tryd.prog 35 #[v] w fun e w' => ∃ v', e = .returned v' ∧ GraphIs w' v' n (cnt G) ∧ Below w.heap.size w w' := by
  by_cases hn : 1 ≤ n
  · exact counted_some n G v w hn h64 hG hL h hT
  · obtain rfl : n = 0 := by omega
    exact counted_zero G v w h
end Go.Proofs.YtchhbhgbpimegaaDoor
