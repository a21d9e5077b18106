/-
  is: by its contract: of the queue of bytes, and a slice of the same bytes: true.
-/
import Derived.Test.YtebapciapnebgaaAll
namespace Go.Proofs.Ytebapciapnebgaa
open Go.RowKit
set_option linter.unusedVariables false
theorem ofV_q8 {l : List Nat} (h : l.length ≤ 8) : ∃ p0 p1 p2 p3 p4 p5 p6 p7, pad l = [p0, p1, p2, p3, p4, p5, p6, p7] ∧ ofV l = q8 (l.length : Nat) p0 p1 p2 p3 p4 p5 p6 p7 := by
  obtain ⟨p0, p1, p2, p3, p4, p5, p6, p7, hp⟩ := eight (pad_length l)
  exact ⟨p0, p1, p2, p3, p4, p5, p6, p7, hp, by rw [ofV_le l h, hp]; rfl⟩
theorem right_of (l : List Nat) (h : l.length ≤ 8) (w : World) : Calls Try.prog 15 #[ofV l] w fun e w' => e = .returned (.bool true) ∧ Below w.heap.size w w' := by
  have h1 := right_any ((min l.length 8 : Nat) : Int) (pad l) w (pad_length l) (by omega) (by omega)
  rw [rightB_ofV] at h1
  exact h1
theorem all_of (l : List Nat) (h : l.length ≤ 8) (w : World) : Calls Try.prog 16 #[ofV l] w fun e w' => ∃ v, e = .returned v ∧ Own w' w.heap.size v l ∧ Below w.heap.size w w' := by
  have h1 := all_any ((min l.length 8 : Nat) : Int) (pad l) w (pad_length l) (by omega) (by omega)
  rw [cutL_ofV, List.take_of_length_le h] at h1
  exact h1
theorem mend_of (l : List Nat) (h : l.length ≤ 8) (w : World) : Calls Try.prog 14 #[ofV l] w fun e w' => e = .returned (ofV l) ∧ Below w.heap.size w w' := by
  have h1 := mend_any ((min l.length 8 : Nat) : Int) (pad l) w (pad_length l) (by omega) (by omega)
  rw [cutL_ofV, ofV_take] at h1
  exact h1
theorem push_of (l : List Nat) (b : Nat) (h : l.length ≤ 8) (w : World) : Calls Try.prog 11 #[ofV l, .int .u8 b] w fun e w' => e = .returned (pushV l b) ∧ Below w.heap.size w w' := by
  have h1 := push_any ((min l.length 8 : Nat) : Int) (pad l) b w (pad_length l) (by omega) (by omega)
  rw [cutL_ofV, List.take_of_length_le h] at h1
  exact h1
theorem pop_of (l : List Nat) (h : l.length ≤ 8) (w : World) : Calls Try.prog 12 #[ofV l] w fun e w' => e = .returned (popV l) ∧ Below w.heap.size w w' := by
  have h1 := pop_any ((min l.length 8 : Nat) : Int) (pad l) w (pad_length l) (by omega) (by omega)
  rw [cutL_ofV, List.take_of_length_le h] at h1
  exact h1
set_option maxRecDepth 100000 in
theorem is_any (l : List Nat) (A : Option Addr) (c : Nat) (w : World) (h8 : l.length ≤ 8) (hlt : ∀ x ∈ l, x < 256) (hA : RdB w w.heap.size A l) :
    Calls Try.prog 13 #[ofV l, .slice A l.length c] w fun e w' => e = .returned (.bool true) ∧ Below w.heap.size w w' := by
  have HR := Lib.hid (right_of l h8)
  have HA := Lib.hid (all_of l h8)
  have HB : Hid (∀ (W : World) (B : Nat) (v : Value), Own W B v l → Below w.heap.size w W → Calls Try.prog 20 #[v, .slice A l.length c] W fun e w' => e = .returned (.bool true) ∧ Below W.heap.size W w') := Lib.hid (fun W B v hv hW => by
    obtain ⟨A1, c1, rfl, _, _, _, h1, _⟩ := hv.form
    exact bytes_same A1 A c1 c l W _ _ h1 (hA.below hW (Nat.le_refl _)) hlt)
  clear hA
  obtain ⟨p0, p1, p2, p3, p4, p5, p6, p7, -, hq⟩ := ofV_q8 h8
  rw [hq] at HR HA ⊢
  obtain ⟨m, hm⟩ : ∃ m, l.length = m := ⟨_, rfl⟩
  rw [hm] at HB HR HA ⊢
  go_enter Try.func13, Try.ntmps13
  go_wp2_with (first
    | (go_at_call 15; refine (HR.out _).mono ?_; rintro e w1 ⟨rfl, hB⟩
       obtain ⟨c0, c1, c2, c3, c4, c5, c6, c7, c8⟩ := nine (QRow.below (QRow.al w m p0 p1 p2 p3 p4 p5 p6 p7 24) hB (by simp))
       have HB1 : Hid (Below w.heap.size w w1) := Lib.hid (((Below.refl _ _).alloc (Nat.le_refl _) _).trans (hB.mono (by simp)))
       clear hB)
    | (go_at_call 16; refine (HA.out _).mono ?_; rintro e w2 ⟨v, rfl, hv, hB⟩
       have HV := Lib.hid hv
       have HB2 : Hid (Below w.heap.size w w2) := Lib.hid (HB1.out.trans (hB.mono HB1.out.size))
       clear hB HB1)
    | (go_at_call 20; refine (HB.out _ _ _ HV.out HB2.out).mono ?_; rintro e w3 ⟨rfl, hB⟩
       have HB3 : Hid (Below w.heap.size w w3) := Lib.hid (HB2.out.trans (hB.mono HB2.out.size))
       clear hB))
  go_ret
  exact ⟨rfl, HB3.out⟩
end Go.Proofs.Ytebapciapnebgaa
