/-
  The program's own Lex at any text, by its contract. Conditions: the listed variables marks and strconv.ErrRange hold what they hold; the text is shorter than 2^46 bytes.
-/
import Derived.Test.YtmebcenjghagoaaGreatDoorLexP
namespace Go.Proofs.YtmebcenjghagoaaGreatDoor
open Go.RowKit Go.Shelf

attribute [local go_sem] Oper.semAt_some

set_option maxRecDepth 100000 in
set_option maxHeartbeats 1000000 in
theorem Lex_long (s : ByteArray) (w : World) (hlen : 20000 < s.size) :
    Calls Tryz.prog 13 #[.string s] w (LexAns (lexS s) w) := by
  have hi : (20000 : Int) < (s.size : Int) := by omega
  have HS : Hid (lexS s = ([], (4, 20000))) := by unfold lexS; rw [Hid, if_pos hlen]
  clear hlen
  refine (callsIn_wide (n := 3)).1 ?_
  refine callsIn_of_wp_marks Tryz.func13 rfl trivial ?_ rfl
  simp only [Tryz.ntmps13, List.size_toArray, List.length_cons, List.length_nil, Nat.reduceAdd, Nat.reduceSub, Array.replicate_succ, Array.replicate_zero, List.push_toArray, List.append_toArray, List.nil_append, List.cons_append]
  gi_wp2_with (refine ⟨trivial, ?_⟩; gi_at_call 30; refine (callsIn_wide.2 (fault_any _ _ _)).mono ?_; rintro e w' ⟨rfl, rfl⟩)
  simp only [bodyPostM]
  refine leave_main (N := w.heap.size) (x := .slice none 0 0) (y := .iface 68 (.pointer (some ⟨w.heap.size + 1 + 1, 0, none⟩))) rfl rfl ?_ ?_ ⟨_, _, rfl, by rw [HS.out]; exact World.ownsRow_nil _ _ _ _, by rw [HS.out]; exact Or.inr ⟨Nat.succ_ne_zero 3, w.heap.size + 1 + 1, by omega, rfl, alloc_at _ _ _ (by simp)⟩, ((((Below.refl _ w).alloc (Nat.le_refl _) _).alloc (by simp) _).alloc (by simp; omega) _)⟩
  · have h : ∀ o1 o2 o3, (((w.alloc o1).alloc o2).alloc o3).heap[w.heap.size]? = some o1 := fun o1 o2 o3 => by
      rw [Go.heap_alloc_old _ _ (by simp; omega), Go.heap_alloc_old _ _ (by simp)]
      exact alloc_at _ _ _ rfl
    rw [cell_of_row _ _ 0 _ _ _ (h _ _ _)]
    rfl
  · have h : ∀ o1 o2 o3, (((w.alloc o1).alloc o2).alloc o3).heap[w.heap.size + 1]? = some o2 := fun o1 o2 o3 => by
      rw [Go.heap_alloc_old _ _ (by simp)]
      exact alloc_at _ _ _ (by simp)
    rw [cell_of_row _ _ 0 _ _ _ (h _ _ _)]
    rfl
theorem Lex_any (s : ByteArray) (w : World) (hL : LaidL w) (hs : s.size ≤ 70368744177664) : Calls Tryz.prog 13 #[.string s] w (LexAns (lexS s) w) := by
  by_cases h : 20000 < s.size
  · exact Lex_long s w h
  · exact Lex_main s w hL hs h
end Go.Proofs.YtmebcenjghagoaaGreatDoor
