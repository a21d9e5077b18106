/-
  The document's own Same by its contract: of two slices that read as one row of tokens it answers true. No condition.
-/
import Derived.Test.YtmebcenjghagoaaGreatDoorRefL
import Derived.Test.YtmebcenjghagoaaGreatDoorSteps
namespace Go.Proofs.YtmebcenjghagoaaGreatDoor
open Go.RowKit

/-- A slice of tokens as it lies in memory. -/
structure TkAt (w : World) (A : Option Addr) (l : List Tk) : Prop where
  none_ : A = none → l = []
  cells : ∀ a, A = some a → ∀ (k : Nat) (x : Tk), l[k]? = some x → w.cell? (a.add (k * 5)) = some (.int .i64 (x.k : Int)) ∧ w.cell? ⟨(a.add (k * 5)).block, (a.add (k * 5)).off + 1, none⟩ = some (.int .i64 (x.p : Int)) ∧ w.cell? ⟨(a.add (k * 5)).block, (a.add (k * 5)).off + 2, none⟩ = some (.int .i64 (x.l : Int)) ∧ w.cell? ⟨(a.add (k * 5)).block, (a.add (k * 5)).off + 3, none⟩ = some (.string x.t) ∧ w.cell? ⟨(a.add (k * 5)).block, (a.add (k * 5)).off + 4, none⟩ = some (.int .i64 x.n)
theorem TkAt.drewN {w : World} {A : Option Addr} {l : List Tk} (h : TkAt w A l) (n : Nat) : TkAt (w.drewN n) A l := ⟨h.none_, h.cells⟩
theorem add_snd (a : Addr) (n m : Nat) : a.add (n + (m + 1)) = ⟨(a.add n).block, (a.add n).off + (m + 1), none⟩ := by
  unfold Addr.add
  by_cases h : n = 0
  · simp [h]
  · simp [h, Nat.add_assoc]
theorem flat_at : ∀ (l : List Tk) (k : Nat) (x : Tk), l[k]? = some x → ∀ j u, (tkC x)[j]? = some u → (l.flatMap tkC)[k * 5 + j]? = some u
  | [], k, x, h, _, _, _ => by simp at h
  | y :: l, 0, x, h, j, u, hu => by
    simp at h
    subst h
    have hj : j < 5 := by have := (List.getElem?_eq_some_iff.1 hu).1; simpa [tkC] using this
    rw [List.flatMap_cons, List.getElem?_append_left (by simp [tkC]; omega)]
    simpa using hu
  | y :: l, k + 1, x, h, j, u, hu => by
    simp at h
    rw [List.flatMap_cons, List.getElem?_append_right (by simp [tkC]; omega)]
    have := flat_at l k x h j u hu
    rw [← this]
    congr 1
    simp [tkC]
    omega
/-- What is owned can be read. -/
theorem OwnT.at_ {w : World} {base : Nat} {A : Option Addr} {n c : Nat} {l : List Tk} (h : OwnT w base (.slice A n c) l) : TkAt w A l ∧ n = l.length := by
  obtain ⟨A', cap, e⟩ := h.form
  injection e with e1 e2 e3
  subst e1 e2 e3
  refine ⟨⟨fun ha => ?_, fun a ha k x hx => ?_⟩, rfl⟩
  · rcases h.2 with ⟨_, h0⟩ | ⟨g, cap', cur, hv, _⟩
    · exact List.eq_nil_of_length_eq_zero h0
    · injection hv with hv _ _
      rw [ha] at hv
      cases hv
  · rcases h.2 with ⟨hv, _⟩ | ⟨g, cap', cur, hv, _⟩
    · injection hv with hv _ _
      rw [ha] at hv
      cases hv
    · injection hv with hv _ _
      rw [ha] at hv
      injection hv with hv
      subst hv
      subst ha
      have hc := fun j u hu => World.ownsRow.cells h (g := g) rfl (k * 5 + j) u (flat_at l k x hx j u hu)
      refine ⟨by simpa using hc 0 _ rfl, ?_, ?_, ?_, ?_⟩
      · rw [← add_snd]; exact hc 1 _ rfl
      · rw [← add_snd]; exact hc 2 _ rfl
      · rw [← add_snd]; exact hc 3 _ rfl
      · rw [← add_snd]; exact hc 4 _ rfl
set_option maxRecDepth 100000 in
set_option maxHeartbeats 4000000 in
theorem rSame_any (A B : Option Addr) (n c d : Nat) (l : List Tk) (w : World) (hA : TkAt w A l) (hB : TkAt w B l) (hl : l.length = n) (hn : n ≤ 9223372036854775807) :
    Calls Tryz.prog 28 #[.slice A n c, .slice B n d] w fun e w' => e = .returned (.bool true) ∧ ∃ m, w' = w.drewN m := by
  have HA := Lib.hid hA
  have HB := Lib.hid hB
  have HL := Lib.hid hl
  clear hA hB hl
  go_enter Tryz.func28, Tryz.ntmps28
  go_wp2
  go_loopw [5] (fun i wr => ∃ k : Nat, k ≤ n ∧ i = .int .i64 k ∧ ∃ m, wr = w.drewN m) (fun i _ => n - (intOf i).toNat)
  case atStart => exact ⟨0, Nat.zero_le _, rfl, 0, rfl⟩
  case round =>
    obtain ⟨k, hk, rfl, m, rfl⟩ := hrel
    by_cases hlt : k < n
    · have hlk : l[k]? = some (l[k]'(by rw [HL.out]; exact hlt)) := List.getElem?_eq_getElem _
      generalize (l[k]'(by rw [HL.out]; exact hlt)) = x at hlk
      obtain ⟨a, rfl⟩ : ∃ a, A = some a := by
        rcases A with _ | a
        · have := HA.out.none_ rfl
          rw [this] at hlk
          simp at hlk
        · exact ⟨a, rfl⟩
      obtain ⟨b, rfl⟩ : ∃ b, B = some b := by
        rcases B with _ | b
        · have := HB.out.none_ rfl
          rw [this] at hlk
          simp at hlk
        · exact ⟨b, rfl⟩
      obtain ⟨a1, a2, a3, a4, a5⟩ := HA.out.cells a rfl k x hlk
      obtain ⟨b1, b2, b3, b4, b5⟩ := HB.out.cells b rfl k x hlk
      clear hlk
      go_wp2_with fail
      refine wp_region_noPanic ?_
      refine wp_region_held_drew (S := (fun w' => w'.cell? (a.add (k * 5)) = some (.int .i64 (x.k : Int)) ∧ w'.cell? ⟨(a.add (k * 5)).block, (a.add (k * 5)).off + 1, none⟩ = some (.int .i64 (x.p : Int)) ∧ w'.cell? ⟨(a.add (k * 5)).block, (a.add (k * 5)).off + 2, none⟩ = some (.int .i64 (x.l : Int)) ∧ w'.cell? ⟨(a.add (k * 5)).block, (a.add (k * 5)).off + 3, none⟩ = some (.string x.t) ∧ w'.cell? ⟨(a.add (k * 5)).block, (a.add (k * 5)).off + 4, none⟩ = some (.int .i64 x.n) ∧ w'.cell? (b.add (k * 5)) = some (.int .i64 (x.k : Int)) ∧ w'.cell? ⟨(b.add (k * 5)).block, (b.add (k * 5)).off + 1, none⟩ = some (.int .i64 (x.p : Int)) ∧ w'.cell? ⟨(b.add (k * 5)).block, (b.add (k * 5)).off + 2, none⟩ = some (.int .i64 (x.l : Int)) ∧ w'.cell? ⟨(b.add (k * 5)).block, (b.add (k * 5)).off + 3, none⟩ = some (.string x.t) ∧ w'.cell? ⟨(b.add (k * 5)).block, (b.add (k * 5)).off + 4, none⟩ = some (.int .i64 x.n))) (by kernel_rfl) ⟨a1, a2, a3, a4, a5, b1, b2, b3, b4, b5⟩ (fun hHeld => ?_)
      refine' take_ 0 rfl (by kernel_rfl) (by kernel_rfl) (by kernel_rfl) (fun _ _ _ h => h) (by rfl) (fun wS hSw => ?_) hHeld ?_
      rotate_left
      focus (obtain ⟨k1, k2, k3, k4, k5, k6, k7, k8, k9, k10⟩ := hSw; go_simp; (try with_reducible rfl); done)
      try simp only [Act.put, List.setIfInBounds_toArray, List.set_cons_zero, List.set_cons_succ]
      refine' take_ 1 rfl (by kernel_rfl) (by kernel_rfl) (by kernel_rfl) (fun _ _ _ h => h) (by rfl) (fun wS hSw => ?_) hHeld ?_
      rotate_left
      focus (obtain ⟨k1, k2, k3, k4, k5, k6, k7, k8, k9, k10⟩ := hSw; go_simp; (try with_reducible rfl); done)
      try simp only [Act.put, List.setIfInBounds_toArray, List.set_cons_zero, List.set_cons_succ]
      refine' take_ 2 rfl (by kernel_rfl) (by kernel_rfl) (by kernel_rfl) (fun _ _ _ h => h) (by rfl) (fun wS hSw => ?_) hHeld ?_
      rotate_left
      focus (obtain ⟨k1, k2, k3, k4, k5, k6, k7, k8, k9, k10⟩ := hSw; go_simp; (try with_reducible rfl); done)
      try simp only [Act.put, List.setIfInBounds_toArray, List.set_cons_zero, List.set_cons_succ]
      refine' take_ 3 rfl (by kernel_rfl) (by kernel_rfl) (by kernel_rfl) (fun _ _ _ h => h) (by rfl) (fun wS hSw => ?_) hHeld ?_
      rotate_left
      focus (obtain ⟨k1, k2, k3, k4, k5, k6, k7, k8, k9, k10⟩ := hSw; go_simp; (try with_reducible rfl); done)
      try simp only [Act.put, List.setIfInBounds_toArray, List.set_cons_zero, List.set_cons_succ]
      refine' take_ 4 rfl (by kernel_rfl) (by kernel_rfl) (by kernel_rfl) (fun _ _ _ h => h) (by rfl) (fun wS hSw => ?_) hHeld ?_
      rotate_left
      focus (obtain ⟨k1, k2, k3, k4, k5, k6, k7, k8, k9, k10⟩ := hSw; go_simp; (try with_reducible rfl); done)
      try simp only [Act.put, List.setIfInBounds_toArray, List.set_cons_zero, List.set_cons_succ]
      refine' take_ 5 rfl (by kernel_rfl) (by kernel_rfl) (by kernel_rfl) (fun _ _ _ h => h) (by rfl) (fun wS hSw => ?_) hHeld ?_
      rotate_left
      focus (obtain ⟨k1, k2, k3, k4, k5, k6, k7, k8, k9, k10⟩ := hSw; go_simp; (try with_reducible rfl); done)
      try simp only [Act.put, List.setIfInBounds_toArray, List.set_cons_zero, List.set_cons_succ]
      refine' take_ 6 rfl (by kernel_rfl) (by kernel_rfl) (by kernel_rfl) (fun _ _ _ h => h) (by rfl) (fun wS hSw => ?_) hHeld ?_
      rotate_left
      focus (obtain ⟨k1, k2, k3, k4, k5, k6, k7, k8, k9, k10⟩ := hSw; go_simp; (try with_reducible rfl); done)
      try simp only [Act.put, List.setIfInBounds_toArray, List.set_cons_zero, List.set_cons_succ]
      refine' take_ 7 rfl (by kernel_rfl) (by kernel_rfl) (by kernel_rfl) (fun _ _ _ h => h) (by rfl) (fun wS hSw => ?_) hHeld ?_
      rotate_left
      focus (obtain ⟨k1, k2, k3, k4, k5, k6, k7, k8, k9, k10⟩ := hSw; go_simp; (try with_reducible rfl); done)
      try simp only [Act.put, List.setIfInBounds_toArray, List.set_cons_zero, List.set_cons_succ]
      refine' take_ 8 rfl (by kernel_rfl) (by kernel_rfl) (by kernel_rfl) (fun _ _ _ h => h) (by rfl) (fun wS hSw => ?_) hHeld ?_
      rotate_left
      focus (obtain ⟨k1, k2, k3, k4, k5, k6, k7, k8, k9, k10⟩ := hSw; go_simp; (try with_reducible rfl); done)
      try simp only [Act.put, List.setIfInBounds_toArray, List.set_cons_zero, List.set_cons_succ]
      refine wpAnyH_done (by kernel_rfl) ?_ _
      refine NoPanic.normal ?_
      go_wp2
      exact ⟨⟨k + 1, by omega, by go_num, m + 1, rfl⟩, by simp [intOf]; omega⟩
    · obtain rfl : k = n := by omega
      go_wp2
      go_ret
      exact ⟨rfl, m, rfl⟩
end Go.Proofs.YtmebcenjghagoaaGreatDoor
