/-
  ploverref03.SameExprs at trees that are alike: true. Made by wip/genfoldsame.py.
-/
import Derived.Test.YthmphmndpfkbcaaFold
namespace Go.Proofs.Ythmphmndpfkbcaa
open Go.RowKit
section
variable {P : Program} {ops : Array Oper} {Q : Exit → Act → World → Prop} {md : Region.Mode} {S : World → Prop}
/-- Two operations may come up, both are wanted. -/
theorem both_ (i j : Nat) {dst dst' : Option Tmp} {op op' : Op} {type type' : TypeId} {pos pos' : String} {after after' : Array Edge} {guard guard' : Option (Nat × Bool)} {fuel : Nat} {listed : Array Bool} {a : Act} {w : World}
    (hi : ops[i]? = some ⟨dst, op, type, pos, after, guard⟩) (hj : ops[j]? = some ⟨dst', op', type', pos', after', guard'⟩)
    (hr : Region.ready md ops listed = [i, j]) (hw : Region.wanted ⟨dst, op, type, pos, after, guard⟩ (yielded ops a.tmps) = true) (hw' : Region.wanted ⟨dst', op', type', pos', after', guard'⟩ (yielded ops a.tmps) = true)
    (h : ∀ K' : Act → World → Prop, Shut (∀ a w, S w → (S w → wpAnyH P md ops Q S fuel (listed.setIfInBounds i true) a w) → K' a w) → Oper.wp P ⟨dst, op, type, pos, after, guard⟩ a w K' Q)
    (h' : ∀ K' : Act → World → Prop, Shut (∀ a w, S w → (S w → wpAnyH P md ops Q S fuel (listed.setIfInBounds j true) a w) → K' a w) → Oper.wp P ⟨dst', op', type', pos', after', guard'⟩ a w K' Q) : wpAnyH P md ops Q S (fuel + 1) listed a w :=
  wpAnyH_ready hr (by simp) (AllReadyH.cons hi (fun K' hK => by rw [if_pos hw]; exact h K' hK) (AllReadyH.cons hj (fun K' hK => by rw [if_pos hw']; exact h' K' hK) AllReadyH.nil))
end
theorem Below.al {B : Nat} {a w : World} (h : Below B a w) (hB : B ≤ a.heap.size) (o : Obj) : Below B a (w.alloc o) := h.alloc (Nat.le_trans hB h.size) o
/-- What is asked of SameExprs at a row. -/
def SameOK (args : List Ex) : Prop := ∀ (A A' : Option Nat) (c c' : Nat) (S S' : Nat → Prop) (w : World), SlIn S w A args → SlIn S' w A' args → (∀ b, S b → b < w.heap.size) → (∀ b, S' b → b < w.heap.size) →
  Calls Try.prog 12 #[slV A args.length c, slV A' args.length c', .bool false] w fun e w' => e = .returned (.bool true) ∧ Below w.heap.size w w'
set_option maxRecDepth 100000 in
theorem same_nil (A A' : Option Nat) (c c' : Nat) (w : World) :
    Calls Try.prog 12 #[slV A 0 c, slV A' 0 c', .bool false] w fun e w' => e = .returned (.bool true) ∧ Below w.heap.size w w' := by
  go_enter Try.func12, Try.ntmps12
  go_wp2
  go_loopw [7] (fun iv wr => iv = .int .i64 0 ∧ w = wr) (fun _ _ => 0)
  case atStart => exact ⟨rfl, rfl⟩
  case round =>
    obtain ⟨rfl, rfl⟩ := hrel
    go_wp2
    go_ret
    exact ⟨rfl, Below.refl _ _⟩
set_option maxRecDepth 100000 in
set_option maxHeartbeats 4000000 in
theorem same_row (args : List Ex) (IH : ∀ x ∈ args, SameOK x.args) (b1 b2 c1 c1' : Nat) (S S' : Nat → Prop) (w : World) (h1 : SlIn S w (some b1) args) (h2 : SlIn S' w (some b2) args) (hl1 : ∀ b, S b → b < w.heap.size) (hl2 : ∀ b, S' b → b < w.heap.size) (hlen : args.length ≤ 1048576) :
    Calls Try.prog 12 #[.slice (some ⟨b1, 0, none⟩) args.length c1, .slice (some ⟨b2, 0, none⟩) args.length c1', .bool false] w fun e w' => e = .returned (.bool true) ∧ Below w.heap.size w w' := by
  go_enter Try.func12, Try.ntmps12
  go_wp2
  go_loopw [7] (fun iv wr => ∃ k : Nat, k ≤ args.length ∧ iv = .int .i64 k ∧ Below w.heap.size w wr) (fun iv _ => args.length - (intOf iv).toNat)
  case atStart => exact ⟨0, by omega, rfl, Below.refl _ _⟩
  case round =>
    obtain ⟨k, hk, rfl, hbr⟩ := hrel
    have HBR := Lib.hid hbr
    have hz := hbr.size
    clear hbr
    by_cases hlt : k < args.length
    · have hlt2 : (k : Int) < (args.length : Int) := by omega
      obtain ⟨x, hx⟩ : ∃ x, args[k]? = some x := ⟨_, List.getElem?_eq_getElem hlt⟩
      have HI := Lib.hid (IH x (List.mem_of_getElem? hx))
      obtain ⟨hS, op, at_, name, field, n, ty, ref, A, c, l, hx1, hs, hc⟩ := h1.at k x hx
      obtain ⟨hS2, op2, at2, name2, field2, n2, ty2, ref2, A2, c2, l2, hx2, hs2, hc2⟩ := h2.at k x hx
      rw [hx1] at hx2
      injection hx2 with e1 e2 e3 e4 e5 e6 e7 e8
      subst e1 e2 e3 e4 e5 e6 e7 e8 hx1
      have HS : Hid (∀ W, Below w.heap.size w W → CellsAt W b1 (k * 8) (exL op at_ name field n ty ref A l.length c) ∧ CellsAt W b2 (k * 8) (exL op at_ name field n ty ref A2 l.length c2)) := fun W hW => ⟨hc.below hW (hl1 _ hS), hc2.below hW (hl2 _ hS2)⟩
      have HC : Hid (∀ W, Below w.heap.size w W → Calls Try.prog 12 #[slV A l.length c, slV A2 l.length c2, .bool false] W fun e w' => e = .returned (.bool true) ∧ Below W.heap.size W w') := fun W hW =>
        HI.out A A2 c c2 S S' W (hs.under hW hl1) (hs2.under hW hl2) (fun b hb => by have := hl1 b hb; have := hW.size; omega) (fun b hb => by have := hl2 b hb; have := hW.size; omega)
      clear hc hc2 hx hs hs2 HI
      go_wp2
      refine wp_region_noPanic ?_
      refine wp_region_held_drew (S := (fun W => CellsAt W b1 (k * 8) (exL op at_ name field n ty ref A l.length c) ∧ CellsAt W b2 (k * 8) (exL op at_ name field n ty ref A2 l.length c2))) (by kernel_rfl) (HS.out _ (by repeat (first | exact HBR.out | refine Below.drew ?_ | refine Below.al ?_ (Nat.le_refl _) _))) (fun hHeld => ?_)
      refine' take_ 0 rfl (by kernel_rfl) (by kernel_rfl) (by kernel_rfl) (fun _ _ _ h => h) (by rfl) (fun wS hSw => ?_) hHeld ?_
      rotate_left
      focus (obtain ⟨_, _⟩ := hSw; go_simp; (try with_reducible rfl); done)
      try simp only [Act.put, List.setIfInBounds_toArray, List.set_cons_zero, List.set_cons_succ]
      refine' take_ 1 rfl (by kernel_rfl) (by kernel_rfl) (by kernel_rfl) (fun _ _ _ h => h) (by rfl) (fun wS hSw => ?_) hHeld ?_
      rotate_left
      focus (obtain ⟨_, _⟩ := hSw; go_simp; (try with_reducible rfl); done)
      try simp only [Act.put, List.setIfInBounds_toArray, List.set_cons_zero, List.set_cons_succ]
      refine' take_ 2 rfl (by kernel_rfl) (by kernel_rfl) (by kernel_rfl) (fun _ _ _ h => h) (by rfl) (fun wS hSw => ?_) hHeld ?_
      rotate_left
      focus (obtain ⟨_, _⟩ := hSw; go_simp; (try with_reducible rfl); done)
      try simp only [Act.put, List.setIfInBounds_toArray, List.set_cons_zero, List.set_cons_succ]
      refine' take_ 3 rfl (by kernel_rfl) (by kernel_rfl) (by kernel_rfl) (fun _ _ _ h => h) (by rfl) (fun wS hSw => run_load_at wS 27 _ b1 (k * 8) rfl _ _ hSw.1 Try.underlying27 rfl (by kernel_rfl) _ _ _ _ _) hHeld ?_
      try simp only [Act.put, List.setIfInBounds_toArray, List.set_cons_zero, List.set_cons_succ]
      refine' take_ 4 rfl (by kernel_rfl) (by kernel_rfl) (by kernel_rfl) (fun _ _ _ h => h) (by rfl) (fun wS hSw => ?_) hHeld ?_
      rotate_left
      focus (obtain ⟨_, _⟩ := hSw; go_simp; (try with_reducible rfl); done)
      try simp only [Act.put, List.setIfInBounds_toArray, List.set_cons_zero, List.set_cons_succ]
      refine' take_ 5 rfl (by kernel_rfl) (by kernel_rfl) (by kernel_rfl) (fun _ _ _ h => h) (by rfl) (fun wS hSw => ?_) hHeld ?_
      rotate_left
      focus (obtain ⟨_, _⟩ := hSw; go_simp; (try with_reducible rfl); done)
      try simp only [Act.put, List.setIfInBounds_toArray, List.set_cons_zero, List.set_cons_succ]
      refine' take_ 6 rfl (by kernel_rfl) (by kernel_rfl) (by kernel_rfl) (fun _ _ _ h => h) (by rfl) (fun wS hSw => ?_) hHeld ?_
      rotate_left
      focus (obtain ⟨_, _⟩ := hSw; go_simp; (try with_reducible rfl); done)
      try simp only [Act.put, List.setIfInBounds_toArray, List.set_cons_zero, List.set_cons_succ]
      refine' take_ 7 rfl (by kernel_rfl) (by kernel_rfl) (by kernel_rfl) (fun _ _ _ h => h) (by rfl) (fun wS hSw => run_load_at wS 27 _ b2 (k * 8) rfl _ _ hSw.2 Try.underlying27 rfl (by kernel_rfl) _ _ _ _ _) hHeld ?_
      try simp only [Act.put, List.setIfInBounds_toArray, List.set_cons_zero, List.set_cons_succ]
      refine both_ 8 9 rfl rfl (by kernel_rfl) (by rfl) (by rfl) (fun K hK => ?_) (fun K hK => ?_)
      · go_simp
        refine hK.out _ _ (HS.out _ (by repeat (first | exact HBR.out | refine Below.drew ?_ | refine Below.al ?_ (Nat.le_refl _) _))) (fun hHeld2 => ?_)
        clear hK K hHeld
        have hHeld := hHeld2
        clear hHeld2
        try simp only [Act.put, List.setIfInBounds_toArray, List.set_cons_zero, List.set_cons_succ]
        refine only_ 9 rfl (by kernel_rfl) (by rfl) (fun K hK => ?_)
        go_simp
        refine hK.out _ _ (HS.out _ (by repeat (first | exact HBR.out | refine Below.drew ?_ | refine Below.al ?_ (Nat.le_refl _) _))) (fun hHeld2 => ?_)
        clear hK K hHeld
        have hHeld := hHeld2
        clear hHeld2
        try simp only [Act.put, List.setIfInBounds_toArray, List.set_cons_zero, List.set_cons_succ]
        refine only_ 10 rfl (by kernel_rfl) (by rfl) (fun K hK => ?_)
        go_simp
        refine hK.out _ _ (HS.out _ (by repeat (first | exact HBR.out | refine Below.drew ?_ | refine Below.al ?_ (Nat.le_refl _) _))) (fun hHeld2 => ?_)
        clear hK K hHeld
        have hHeld := hHeld2
        clear hHeld2
        try simp only [Act.put, List.setIfInBounds_toArray, List.set_cons_zero, List.set_cons_succ]
        refine only_ 11 rfl (by kernel_rfl) (by rfl) (fun K hK => ?_)
        go_simp
        refine hK.out _ _ (HS.out _ (by repeat (first | exact HBR.out | refine Below.drew ?_ | refine Below.al ?_ (Nat.le_refl _) _))) (fun hHeld2 => ?_)
        clear hK K hHeld
        have hHeld := hHeld2
        clear hHeld2
        try simp only [Act.put, List.setIfInBounds_toArray, List.set_cons_zero, List.set_cons_succ]
        refine wpAnyH_done (by kernel_rfl) ?_ _
        refine NoPanic.normal ?_
        go_wp2_with (go_at_call 12; refine (HC.out _ (by repeat (first | exact HBR.out | refine Below.drew ?_ | refine Below.al ?_ (Nat.le_refl _) _))).mono ?_; rintro e w3 ⟨rfl, hb3⟩; have HB3 : Hid (Below w.heap.size w w3) := Below.trans (by repeat (first | exact HBR.out | refine Below.drew ?_ | refine Below.al ?_ (Nat.le_refl _) _)) (hb3.mono (by simp; omega)); clear hb3)
        go_roundw
        case rel => exact ⟨k + 1, by omega, by go_num, HB3.out⟩
        case measure =>
          simp [intOf]
          omega
      · go_simp
        refine hK.out _ _ (HS.out _ (by repeat (first | exact HBR.out | refine Below.drew ?_ | refine Below.al ?_ (Nat.le_refl _) _))) (fun hHeld2 => ?_)
        clear hK K hHeld
        have hHeld := hHeld2
        clear hHeld2
        try simp only [Act.put, List.setIfInBounds_toArray, List.set_cons_zero, List.set_cons_succ]
        refine only_ 8 rfl (by kernel_rfl) (by rfl) (fun K hK => ?_)
        go_simp
        refine hK.out _ _ (HS.out _ (by repeat (first | exact HBR.out | refine Below.drew ?_ | refine Below.al ?_ (Nat.le_refl _) _))) (fun hHeld2 => ?_)
        clear hK K hHeld
        have hHeld := hHeld2
        clear hHeld2
        try simp only [Act.put, List.setIfInBounds_toArray, List.set_cons_zero, List.set_cons_succ]
        refine only_ 10 rfl (by kernel_rfl) (by rfl) (fun K hK => ?_)
        go_simp
        refine hK.out _ _ (HS.out _ (by repeat (first | exact HBR.out | refine Below.drew ?_ | refine Below.al ?_ (Nat.le_refl _) _))) (fun hHeld2 => ?_)
        clear hK K hHeld
        have hHeld := hHeld2
        clear hHeld2
        try simp only [Act.put, List.setIfInBounds_toArray, List.set_cons_zero, List.set_cons_succ]
        refine only_ 11 rfl (by kernel_rfl) (by rfl) (fun K hK => ?_)
        go_simp
        refine hK.out _ _ (HS.out _ (by repeat (first | exact HBR.out | refine Below.drew ?_ | refine Below.al ?_ (Nat.le_refl _) _))) (fun hHeld2 => ?_)
        clear hK K hHeld
        have hHeld := hHeld2
        clear hHeld2
        try simp only [Act.put, List.setIfInBounds_toArray, List.set_cons_zero, List.set_cons_succ]
        refine wpAnyH_done (by kernel_rfl) ?_ _
        refine NoPanic.normal ?_
        go_wp2_with (go_at_call 12; refine (HC.out _ (by repeat (first | exact HBR.out | refine Below.drew ?_ | refine Below.al ?_ (Nat.le_refl _) _))).mono ?_; rintro e w3 ⟨rfl, hb3⟩; have HB3 : Hid (Below w.heap.size w w3) := Below.trans (by repeat (first | exact HBR.out | refine Below.drew ?_ | refine Below.al ?_ (Nat.le_refl _) _)) (hb3.mono (by simp; omega)); clear hb3)
        go_roundw
        case rel => exact ⟨k + 1, by omega, by go_num, HB3.out⟩
        case measure =>
          simp [intOf]
          omega
    · obtain rfl : k = args.length := by omega
      go_wp2
      go_ret
      exact ⟨rfl, HBR.out⟩
theorem same_any : ∀ args, (∀ x ∈ args, SameOK x.args) → SameOK args := by
  intro args IH A A' c c' S S' w h1 h2 hl1 hl2
  cases h1 with
  | nil => exact same_nil A A' c c' w
  | row hb hS rows hc h =>
    cases h2 with
    | nil => exact same_nil _ A' c c' w
    | row hb2 hS2 rows2 hc2 h2 => exact same_row args IH _ _ c c' S S' w (.row hb hS rows hc h) (.row hb2 hS2 rows2 hc2 h2) hl1 hl2 hb
theorem same_tree : ∀ x : Ex, SameOK x.args := Ex.ind fun _ _ _ _ _ _ _ args IH => same_any args IH
theorem same_all (args : List Ex) : SameOK args := same_any args fun x _ => same_tree x
end Go.Proofs.Ythmphmndpfkbcaa
