/-
  The law's own same by its contract, at two faults of one number, the second one moved. Condition: the listed variable errors.errorType holds the handle of the type error.
-/
import Derived.Test.YtmebcenjghagoaaGreatDoorPartsM
import Derived.Test.YtmebcenjghagoaaGreatDoorAlike
import Derived.Test.YtmebcenjghagoaaGreatDoorSteps
namespace Go.Proofs.YtmebcenjghagoaaGreatDoor
open Go.RowKit

theorem asWorld_row (w : World) (t e : Addr) (k : Nat) (o : Option Obj) (hk : k < w.heap.size) (hne : k ≠ t.block) (h : w.heap[k]? = o) : (asWorld w t e).heap[k]? = o := by
  subst h
  unfold asWorld
  rw [heap_setCell_other _ _ _ _ hne, Go.heap_alloc_old _ _ (by simp; omega), Go.heap_alloc_old _ _ (by simp; omega), Go.heap_alloc_old _ _ (by simp; omega), Go.heap_alloc_old _ _ hk]
theorem asWorld_size (w : World) (t e : Addr) : (asWorld w t e).heap.size = w.heap.size + 4 := by
  unfold asWorld
  simp
abbrev fltRow (c a : Int) : Option Obj := some (.cells #[.int .i64 c, .int .i64 a] 49 (0, 0))
/-- Behind the first errors.As. -/
structure Same1 (b1 b2 s : Nat) (c a1 a2 : Int) (W w' : World) : Prop where
  t : w'.cell? ⟨s, 0, none⟩ = some (.pointer (some ⟨b1, 0, none⟩))
  u : w'.heap[s + 1]? = some (.cells #[.pointer none] 68 (0, 0))
  r1 : w'.heap[b1]? = fltRow c a1
  r2 : w'.heap[b2]? = fltRow c a2
  below : Below s W w'
theorem as_same1 (b1 b2 s : Nat) (c a1 a2 : Int) (W : World) (hL : LaidL W) (r1 : W.heap[b1]? = fltRow c a1) (r2 : W.heap[b2]? = fltRow c a2)
    (ht : W.heap[s]? = some (.cells #[.pointer none] 68 (0, 0))) (hu : W.heap[s + 1]? = some (.cells #[.pointer none] 68 (0, 0))) (h1 : b1 < s) (h2 : b2 < s) :
    Calls Tryz.prog 35 #[.iface 68 (.pointer (some ⟨b1, 0, none⟩)), .iface 70 (.pointer (some ⟨s, 0, none⟩))] W fun e w' => e = .returned (.bool true) ∧ Same1 b1 b2 s c a1 a2 W w' := by
  have hc : W.cell? ⟨s, 0, none⟩ = some (.pointer none) := by rw [cell_of_row W s 0 _ _ _ ht]; rfl
  have k0 := (Array.getElem?_eq_some_iff.1 hu).1
  refine (as_hit ⟨b1, 0, none⟩ ⟨s, 0, none⟩ (.pointer none) W hL.et hc (by simp [World.frozen?, ht])).mono ?_
  rintro e w' ⟨rfl, rfl⟩
  exact ⟨rfl, asWorld_new W _ _ _ hc, asWorld_row W _ _ _ _ k0 (by simp) hu, asWorld_row W _ _ _ _ (by omega) (by simp; omega) r1, asWorld_row W _ _ _ _ (by omega) (by simp; omega) r2, asWorld_below W _ _ s (Nat.le_refl _) (by omega)⟩
/-- Behind the second errors.As. -/
structure Same2 (b1 b2 s : Nat) (c a1 a2 : Int) (W w' : World) : Prop where
  t : w'.cell? ⟨s, 0, none⟩ = some (.pointer (some ⟨b1, 0, none⟩))
  u : w'.cell? ⟨s + 1, 0, none⟩ = some (.pointer (some ⟨b2, 0, none⟩))
  c1 : w'.cell? ⟨b1, 0, none⟩ = some (.int .i64 c)
  c2 : w'.cell? ⟨b2, 0, none⟩ = some (.int .i64 c)
  d1 : w'.cell? ⟨b1, 1, none⟩ = some (.int .i64 a1)
  d2 : w'.cell? ⟨b2, 1, none⟩ = some (.int .i64 a2)
  below : Below s W w'
theorem as_same2 (b1 b2 s : Nat) (c a1 a2 : Int) (W0 W : World) (hL : LaidL W) (h : Same1 b1 b2 s c a1 a2 W0 W) (h1 : b1 < s) (h2 : b2 < s) :
    Calls Tryz.prog 35 #[.iface 68 (.pointer (some ⟨b2, 0, none⟩)), .iface 70 (.pointer (some ⟨s + 1, 0, none⟩))] W fun e w' => e = .returned (.bool true) ∧ Same2 b1 b2 s c a1 a2 W0 w' := by
  have hc : W.cell? ⟨s + 1, 0, none⟩ = some (.pointer none) := by rw [cell_of_row W (s + 1) 0 _ _ _ h.u]; rfl
  have k0 := (Array.getElem?_eq_some_iff.1 h.u).1
  refine (as_hit ⟨b2, 0, none⟩ ⟨s + 1, 0, none⟩ (.pointer none) W hL.et hc (by simp [World.frozen?, h.u])).mono ?_
  rintro e w' ⟨rfl, rfl⟩
  have g1 := asWorld_row W ⟨s + 1, 0, none⟩ ⟨b2, 0, none⟩ b1 _ (by omega) (by simp; omega) h.r1
  have g2 := asWorld_row W ⟨s + 1, 0, none⟩ ⟨b2, 0, none⟩ b2 _ (by omega) (by simp; omega) h.r2
  refine ⟨rfl, (asWorld_old W _ _ _ (by simp; omega) (by simp)).trans h.t, asWorld_new W _ _ _ hc, ?_, ?_, ?_, ?_, h.below.trans (asWorld_below W _ _ s (Nat.le_succ s) (by omega))⟩
  · rw [cell_of_row _ b1 0 _ _ _ g1]; rfl
  · rw [cell_of_row _ b2 0 _ _ _ g2]; rfl
  · rw [cell_of_row _ b1 1 _ _ _ g1]; rfl
  · rw [cell_of_row _ b2 1 _ _ _ g2]; rfl
set_option maxRecDepth 100000 in
set_option maxHeartbeats 4000000 in
theorem same_hit (b1 b2 : Nat) (c a1 a2 d : Int) (w : World) (hL : LaidL w) (r1 : w.heap[b1]? = fltRow c a1) (r2 : w.heap[b2]? = fltRow c a2) (he : a1 + d = a2) (ha : 0 ≤ a2) (ha2 : a2 ≤ 1000000) :
    Calls Tryz.prog 24 #[.iface 68 (.pointer (some ⟨b1, 0, none⟩)), .iface 68 (.pointer (some ⟨b2, 0, none⟩)), .int .i64 d] w fun e w' => e = .returned (.bool true) ∧ Below w.heap.size w w' := by
  have k1 := (Array.getElem?_eq_some_iff.1 r1).1
  have k2 := (Array.getElem?_eq_some_iff.1 r2).1
  have HL := Lib.hid hL
  have R1 := Lib.hid r1
  have R2 := Lib.hid r2
  have hwr : IntKind.i64.wrap (a1 + d) = a2 := by rw [he]; exact IntWalk.i64_in _ (by omega)
  clear hL r1 r2 he
  go_enter Tryz.func24, Tryz.ntmps24
  go_wp2
  have B0 : Below w.heap.size w ((w.alloc (.cells #[.pointer none] 68)).alloc (.cells #[.pointer none] 68)).drew := (((Below.refl _ _).alloc (Nat.le_refl _) _).alloc (by simp) _).drew
  have H1 := Lib.hid (as_same1 b1 b2 w.heap.size c a1 a2 ((w.alloc (.cells #[.pointer none] 68)).alloc (.cells #[.pointer none] 68)).drew (HL.out.below B0 HL.out.lt) ((B0.block b1 k1).trans R1.out) ((B0.block b2 k2).trans R2.out)
    (by show ((w.alloc _).alloc _).heap[_]? = _; rw [Go.heap_alloc_old _ _ (by simp)]; exact heap_alloc_new w _) (by show ((w.alloc _).alloc _).heap[_]? = _; exact alloc_at _ _ _ (by simp)) k1 k2)
  have HB0 := Lib.hid B0
  clear B0
  -- region 3
  refine wp_region_noPanic ?_
  refine wp_region_held_drew (S := (fun _ => True)) (by kernel_rfl) trivial (fun hHeld => ?_)
  refine' take_ 0 rfl (by kernel_rfl) (by kernel_rfl) (by kernel_rfl) (fun _ _ _ h => h) (by rfl) (fun wS hSw => ?_) hHeld ?_
  rotate_left
  focus (go_simp; (try with_reducible rfl); done)
  try simp only [Act.put, List.setIfInBounds_toArray, List.set_cons_zero, List.set_cons_succ]
  refine' take_ 1 rfl (by kernel_rfl) (by kernel_rfl) (by kernel_rfl) (fun _ _ _ h => h) (by rfl) (fun wS hSw => ?_) hHeld ?_
  rotate_left
  focus (go_simp; (try with_reducible rfl); done)
  try simp only [Act.put, List.setIfInBounds_toArray, List.set_cons_zero, List.set_cons_succ]
  refine only_ 2 rfl (by kernel_rfl) (by rfl) (fun K hK => ?_)
  go_simp
  refine H1.out.mono ?_
  rintro e w1 ⟨rfl, h1⟩
  have HL1 := Lib.hid (HL.out.below (HB0.out.trans (h1.below.mono (Nat.le_refl _))) HL.out.lt)
  have H2 := Lib.hid (as_same2 b1 b2 w.heap.size c a1 a2 _ w1 HL1.out h1 k1 k2)
  clear h1 H1 HL1
  go_simp
  refine hK.out _ _ trivial (fun hHeld2 => ?_)
  clear hK K hHeld
  have hHeld := hHeld2
  clear hHeld2
  try simp only [Act.put, List.setIfInBounds_toArray, List.set_cons_zero, List.set_cons_succ]
  refine' take_ 3 rfl (by kernel_rfl) (by kernel_rfl) (by kernel_rfl) (fun _ _ _ h => h) (by rfl) (fun wS hSw => ?_) hHeld ?_
  rotate_left
  focus (go_simp; (try with_reducible rfl); done)
  try simp only [Act.put, List.setIfInBounds_toArray, List.set_cons_zero, List.set_cons_succ]
  refine' take_ 4 rfl (by kernel_rfl) (by kernel_rfl) (by kernel_rfl) (fun _ _ _ h => h) (by rfl) (fun wS hSw => ?_) hHeld ?_
  rotate_left
  focus (go_simp; (try with_reducible rfl); done)
  try simp only [Act.put, List.setIfInBounds_toArray, List.set_cons_zero, List.set_cons_succ]
  refine' take_ 5 rfl (by kernel_rfl) (by kernel_rfl) (by kernel_rfl) (fun _ _ _ h => h) (by rfl) (fun wS hSw => ?_) hHeld ?_
  rotate_left
  focus (go_simp; (try with_reducible rfl); done)
  try simp only [Act.put, List.setIfInBounds_toArray, List.set_cons_zero, List.set_cons_succ]
  refine only_ 6 rfl (by kernel_rfl) (by rfl) (fun K hK => ?_)
  go_simp
  refine H2.out.mono ?_
  rintro e w2 ⟨rfl, h2⟩
  have HB2 := Lib.hid (HB0.out.trans (h2.below.mono (Nat.le_refl _)))
  obtain ⟨t1, t2, c1, c2, d1, d2, _⟩ := h2
  clear H2
  go_simp
  refine hK.out _ _ trivial (fun hHeld2 => ?_)
  clear hK K hHeld
  have hHeld := hHeld2
  clear hHeld2
  try simp only [Act.put, List.setIfInBounds_toArray, List.set_cons_zero, List.set_cons_succ]
  refine turn_ (fun W => W = w2) (fun _ _ => trivial) rfl (fun hHeld2 => ?_)
  clear hHeld
  have hHeld := hHeld2
  clear hHeld2
  refine' take_ 7 rfl (by kernel_rfl) (by kernel_rfl) (by kernel_rfl) (fun _ _ _ h => h) (by rfl) (fun wS hSw => ?_) hHeld ?_
  rotate_left
  focus (obtain rfl := hSw; go_simp; (try with_reducible rfl); done)
  try simp only [Act.put, List.setIfInBounds_toArray, List.set_cons_zero, List.set_cons_succ]
  refine' take_ 8 rfl (by kernel_rfl) (by kernel_rfl) (by kernel_rfl) (fun _ _ _ h => h) (by rfl) (fun wS hSw => ?_) hHeld ?_
  rotate_left
  focus (obtain rfl := hSw; go_simp; (try with_reducible rfl); done)
  try simp only [Act.put, List.setIfInBounds_toArray, List.set_cons_zero, List.set_cons_succ]
  refine' take_ 9 rfl (by kernel_rfl) (by kernel_rfl) (by kernel_rfl) (fun _ _ _ h => h) (by rfl) (fun wS hSw => ?_) hHeld ?_
  rotate_left
  focus (obtain rfl := hSw; go_simp; (try with_reducible rfl); done)
  try simp only [Act.put, List.setIfInBounds_toArray, List.set_cons_zero, List.set_cons_succ]
  refine' take_ 10 rfl (by kernel_rfl) (by kernel_rfl) (by kernel_rfl) (fun _ _ _ h => h) (by rfl) (fun wS hSw => ?_) hHeld ?_
  rotate_left
  focus (obtain rfl := hSw; go_simp; (try with_reducible rfl); done)
  try simp only [Act.put, List.setIfInBounds_toArray, List.set_cons_zero, List.set_cons_succ]
  refine' take_ 11 rfl (by kernel_rfl) (by kernel_rfl) (by kernel_rfl) (fun _ _ _ h => h) (by rfl) (fun wS hSw => ?_) hHeld ?_
  rotate_left
  focus (obtain rfl := hSw; go_simp; (try with_reducible rfl); done)
  try simp only [Act.put, List.setIfInBounds_toArray, List.set_cons_zero, List.set_cons_succ]
  refine' take_ 12 rfl (by kernel_rfl) (by kernel_rfl) (by kernel_rfl) (fun _ _ _ h => h) (by rfl) (fun wS hSw => ?_) hHeld ?_
  rotate_left
  focus (obtain rfl := hSw; go_simp; (try with_reducible rfl); done)
  try simp only [Act.put, List.setIfInBounds_toArray, List.set_cons_zero, List.set_cons_succ]
  refine' take_ 13 rfl (by kernel_rfl) (by kernel_rfl) (by kernel_rfl) (fun _ _ _ h => h) (by rfl) (fun wS hSw => ?_) hHeld ?_
  rotate_left
  focus (obtain rfl := hSw; go_simp; (try with_reducible rfl); done)
  try simp only [Act.put, List.setIfInBounds_toArray, List.set_cons_zero, List.set_cons_succ]
  refine' take_ 14 rfl (by kernel_rfl) (by kernel_rfl) (by kernel_rfl) (fun _ _ _ h => h) (by rfl) (fun wS hSw => ?_) hHeld ?_
  rotate_left
  focus (obtain rfl := hSw; go_simp; (try with_reducible rfl); done)
  try simp only [Act.put, List.setIfInBounds_toArray, List.set_cons_zero, List.set_cons_succ]
  refine' take_ 15 rfl (by kernel_rfl) (by kernel_rfl) (by kernel_rfl) (fun _ _ _ h => h) (by rfl) (fun wS hSw => ?_) hHeld ?_
  rotate_left
  focus (obtain rfl := hSw; go_simp; (try with_reducible rfl); done)
  try simp only [Act.put, List.setIfInBounds_toArray, List.set_cons_zero, List.set_cons_succ]
  refine' take_ 16 rfl (by kernel_rfl) (by kernel_rfl) (by kernel_rfl) (fun _ _ _ h => h) (by rfl) (fun wS hSw => ?_) hHeld ?_
  rotate_left
  focus (obtain rfl := hSw; go_simp; (try with_reducible rfl); done)
  try simp only [Act.put, List.setIfInBounds_toArray, List.set_cons_zero, List.set_cons_succ]
  refine' take_ 17 rfl (by kernel_rfl) (by kernel_rfl) (by kernel_rfl) (fun _ _ _ h => h) (by rfl) (fun wS hSw => ?_) hHeld ?_
  rotate_left
  focus (obtain rfl := hSw; go_simp; (try with_reducible rfl); done)
  try simp only [Act.put, List.setIfInBounds_toArray, List.set_cons_zero, List.set_cons_succ]
  refine' take_ 18 rfl (by kernel_rfl) (by kernel_rfl) (by kernel_rfl) (fun _ _ _ h => h) (by rfl) (fun wS hSw => ?_) hHeld ?_
  rotate_left
  focus (obtain rfl := hSw; go_simp; (try with_reducible rfl); done)
  try simp only [Act.put, List.setIfInBounds_toArray, List.set_cons_zero, List.set_cons_succ]
  refine' take_ 19 rfl (by kernel_rfl) (by kernel_rfl) (by kernel_rfl) (fun _ _ _ h => h) (by rfl) (fun wS hSw => ?_) hHeld ?_
  rotate_left
  focus (obtain rfl := hSw; go_simp; (try with_reducible rfl); done)
  try simp only [Act.put, List.setIfInBounds_toArray, List.set_cons_zero, List.set_cons_succ]
  refine' take_ 20 rfl (by kernel_rfl) (by kernel_rfl) (by kernel_rfl) (fun _ _ _ h => h) (by rfl) (fun wS hSw => ?_) hHeld ?_
  rotate_left
  focus (obtain rfl := hSw; go_simp; (try with_reducible rfl); done)
  try simp only [Act.put, List.setIfInBounds_toArray, List.set_cons_zero, List.set_cons_succ]
  refine' take_ 21 rfl (by kernel_rfl) (by kernel_rfl) (by kernel_rfl) (fun _ _ _ h => h) (by rfl) (fun wS hSw => ?_) hHeld ?_
  rotate_left
  focus (obtain rfl := hSw; go_simp; (try with_reducible rfl); done)
  try simp only [Act.put, List.setIfInBounds_toArray, List.set_cons_zero, List.set_cons_succ]
  refine' take_ 22 rfl (by kernel_rfl) (by kernel_rfl) (by kernel_rfl) (fun _ _ _ h => h) (by rfl) (fun wS hSw => ?_) hHeld ?_
  rotate_left
  focus (obtain rfl := hSw; go_simp; (try with_reducible rfl); done)
  try simp only [Act.put, List.setIfInBounds_toArray, List.set_cons_zero, List.set_cons_succ]
  refine' take_ 23 rfl (by kernel_rfl) (by kernel_rfl) (by kernel_rfl) (fun _ _ _ h => h) (by rfl) (fun wS hSw => ?_) hHeld ?_
  rotate_left
  focus (obtain rfl := hSw; go_simp; (try with_reducible rfl); done)
  try simp only [Act.put, List.setIfInBounds_toArray, List.set_cons_zero, List.set_cons_succ]
  refine' take_ 24 rfl (by kernel_rfl) (by kernel_rfl) (by kernel_rfl) (fun _ _ _ h => h) (by rfl) (fun wS hSw => ?_) hHeld ?_
  rotate_left
  focus (obtain rfl := hSw; go_simp; (try with_reducible rfl); done)
  try simp only [Act.put, List.setIfInBounds_toArray, List.set_cons_zero, List.set_cons_succ]
  refine' take_ 25 rfl (by kernel_rfl) (by kernel_rfl) (by kernel_rfl) (fun _ _ _ h => h) (by rfl) (fun wS hSw => ?_) hHeld ?_
  rotate_left
  focus (obtain rfl := hSw; go_simp; (try with_reducible rfl); done)
  try simp only [Act.put, List.setIfInBounds_toArray, List.set_cons_zero, List.set_cons_succ]
  refine' take_ 26 rfl (by kernel_rfl) (by kernel_rfl) (by kernel_rfl) (fun _ _ _ h => h) (by rfl) (fun wS hSw => ?_) hHeld ?_
  rotate_left
  focus (obtain rfl := hSw; go_simp; (try with_reducible rfl); done)
  try simp only [Act.put, List.setIfInBounds_toArray, List.set_cons_zero, List.set_cons_succ]
  refine' take_ 27 rfl (by kernel_rfl) (by kernel_rfl) (by kernel_rfl) (fun _ _ _ h => h) (by rfl) (fun wS hSw => ?_) hHeld ?_
  rotate_left
  focus (obtain rfl := hSw; go_simp; (try with_reducible rfl); done)
  try simp only [Act.put, List.setIfInBounds_toArray, List.set_cons_zero, List.set_cons_succ]
  refine' take_ 28 rfl (by kernel_rfl) (by kernel_rfl) (by kernel_rfl) (fun _ _ _ h => h) (by rfl) (fun wS hSw => ?_) hHeld ?_
  rotate_left
  focus (obtain rfl := hSw; go_simp; (try with_reducible rfl); done)
  try simp only [Act.put, List.setIfInBounds_toArray, List.set_cons_zero, List.set_cons_succ]
  refine' take_ 29 rfl (by kernel_rfl) (by kernel_rfl) (by kernel_rfl) (fun _ _ _ h => h) (by rfl) (fun wS hSw => ?_) hHeld ?_
  rotate_left
  focus (obtain rfl := hSw; go_simp; (try with_reducible rfl); done)
  try simp only [Act.put, List.setIfInBounds_toArray, List.set_cons_zero, List.set_cons_succ]
  refine' take_ 30 rfl (by kernel_rfl) (by kernel_rfl) (by kernel_rfl) (fun _ _ _ h => h) (by rfl) (fun wS hSw => ?_) hHeld ?_
  rotate_left
  focus (obtain rfl := hSw; go_simp; (try with_reducible rfl); done)
  try simp only [Act.put, List.setIfInBounds_toArray, List.set_cons_zero, List.set_cons_succ]
  refine' take_ 31 rfl (by kernel_rfl) (by kernel_rfl) (by kernel_rfl) (fun _ _ _ h => h) (by rfl) (fun wS hSw => ?_) hHeld ?_
  rotate_left
  focus (obtain rfl := hSw; go_simp; (try with_reducible rfl); done)
  try simp only [Act.put, List.setIfInBounds_toArray, List.set_cons_zero, List.set_cons_succ]
  refine' take_ 32 rfl (by kernel_rfl) (by kernel_rfl) (by kernel_rfl) (fun _ _ _ h => h) (by rfl) (fun wS hSw => ?_) hHeld ?_
  rotate_left
  focus (obtain rfl := hSw; go_simp; (try with_reducible rfl); done)
  try simp only [Act.put, List.setIfInBounds_toArray, List.set_cons_zero, List.set_cons_succ]
  refine wpAnyH_done (by kernel_rfl) ?_ _
  refine NoPanic.normal ?_
  go_wp2
  go_ret
  exact ⟨rfl, HB2.out⟩
end Go.Proofs.YtmebcenjghagoaaGreatDoor
