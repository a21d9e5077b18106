/-
  Un by its contract, at each operator; Bin by 0. Made by wip/genfoldun.py.
-/
import Derived.Test.YthmphmndpfkbcaaBin
namespace Go.Proofs.Ythmphmndpfkbcaa
open Go.RowKit
set_option linter.unusedVariables false
/-- What the operators of one make, of a number that the type has. -/
def unV (op t a : Int) : Int := if op = 4 then wrapT t (-a) else if op = 5 then -a - 1 else if op = 6 then (if a = 0 then 1 else 0) else if op = 7 then wrapT 1 a else a
theorem wrapT_one (t : Int) : wrapT t 1 = 1 := by
  unfold wrapT
  split <;> rfl
theorem wrapT_nil (t : Int) : wrapT t 0 = 0 := by
  unfold wrapT
  split <;> rfl
theorem wrapT_twice (t v : Int) : wrapT t (wrapT 1 v) = wrapT 1 v := by
  by_cases h : t = 1
  · subst h
    simp only [wrapT_16]
    omega
  · rw [wrapT_32 t _ h, wrapT_16]
    omega
theorem wrapT_self (t v : Int) : wrapT t (wrapT t v) = wrapT t v := by
  by_cases h : t = 1
  · subst h
    simp only [wrapT_16]
    omega
  · simp only [wrapT_32 t _ h]
    omega
theorem wrapT_not (t a : Int) (h : wrapT t a = a) : wrapT t (-a - 1) = -a - 1 := by
  by_cases ht : t = 1
  · subst ht
    rw [wrapT_16] at *
    omega
  · rw [wrapT_32 t _ ht] at *
    omega
def Un5 (t a : Int) (e : Ending) : Prop := ∃ v : Int, e = .returned (.int .i32 v) ∧ (wrapT t a = a → v = -a - 1) ∧ wrapT t v = wrapT t (-a - 1) ∧ -2147483648 ≤ v ∧ v ≤ 2147483647
theorem not_ans (t a : Int) (ha : -2147483648 ≤ a) (ha2 : a ≤ 2147483647) : Un5 t a (.returned (.int .i32 (wrap32 (wrap32 (-a) - 1)))) := by
  have h : wrap32 (wrap32 (-a) - 1) = -a - 1 := by
    unfold wrap32
    omega
  exact ⟨_, rfl, fun _ => h, by rw [h], by omega, by omega⟩
set_option maxRecDepth 100000 in
theorem un4 (t a : Int) (w : World) (ha : -2147483648 ≤ a) (ha2 : a ≤ 2147483647) :
    Calls Try.prog 16 #[.int .i64 4, .int .i64 t, .int .i32 a] w fun e w' => e = .returned (.int .i32 (unV 4 t a)) ∧ Below w.heap.size w w' := by
  have hmm := @run_makeMap Try.prog
  have i0 := run_ins mty_i uInt w #[] #[en 4 45 0] 0 1 4 (fnV 45) rfl rfl rfl
  have i1 := run_ins mty_i uInt w #[en 4 45 0] #[en 4 45 0, en 5 46 1] 1 2 5 (fnV 46) rfl rfl rfl
  have i2 := run_ins mty_i uInt w #[en 4 45 0, en 5 46 1] #[en 4 45 0, en 5 46 1, en 6 47 2] 2 3 6 (fnV 47) rfl rfl rfl
  have i3 := run_ins mty_i uInt w #[en 4 45 0, en 5 46 1, en 6 47 2] #[en 4 45 0, en 5 46 1, en 6 47 2, en 7 48 3] 3 4 7 (fnV 48) rfl rfl rfl
  have l := run_look mty_i uInt (w.alloc (.map #[en 4 45 0, en 5 46 1, en 6 47 2, en 7 48 3] 4)) w.heap.size _ _ (alloc_at _ _) 4 0 (fnV 45) rfl
  go_enter Try.func16, Try.ntmps16
  go_wp2_with (first | (go_at_call 13; refine (wrap_any _ _ _).mono ?_; rintro e w' ⟨rfl, rfl⟩) | go_in)
  go_ret
  exact ⟨ret_i32 (by simp [unV]), (Below.refl _ _).alloc (Nat.le_refl _) _⟩
set_option maxRecDepth 100000 in
theorem un5 (t a : Int) (w : World) (ha : -2147483648 ≤ a) (ha2 : a ≤ 2147483647) :
    Calls Try.prog 16 #[.int .i64 5, .int .i64 t, .int .i32 a] w fun e w' => Un5 t a e ∧ Below w.heap.size w w' := by
  have hmm := @run_makeMap Try.prog
  have i0 := run_ins mty_i uInt w #[] #[en 4 45 0] 0 1 4 (fnV 45) rfl rfl rfl
  have i1 := run_ins mty_i uInt w #[en 4 45 0] #[en 4 45 0, en 5 46 1] 1 2 5 (fnV 46) rfl rfl rfl
  have i2 := run_ins mty_i uInt w #[en 4 45 0, en 5 46 1] #[en 4 45 0, en 5 46 1, en 6 47 2] 2 3 6 (fnV 47) rfl rfl rfl
  have i3 := run_ins mty_i uInt w #[en 4 45 0, en 5 46 1, en 6 47 2] #[en 4 45 0, en 5 46 1, en 6 47 2, en 7 48 3] 3 4 7 (fnV 48) rfl rfl rfl
  have l := run_look mty_i uInt (w.alloc (.map #[en 4 45 0, en 5 46 1, en 6 47 2, en 7 48 3] 4)) w.heap.size _ _ (alloc_at _ _) 5 1 (fnV 46) rfl
  go_enter Try.func16, Try.ntmps16
  go_wp2_with (first | (go_at_call 13; refine (wrap_any _ _ _).mono ?_; rintro e w' ⟨rfl, rfl⟩) | go_in)
  go_ret
  exact ⟨not_ans t a ha ha2, (Below.refl _ _).alloc (Nat.le_refl _) _⟩
set_option maxRecDepth 100000 in
theorem un6 (t a : Int) (w : World) (ha : -2147483648 ≤ a) (ha2 : a ≤ 2147483647) :
    Calls Try.prog 16 #[.int .i64 6, .int .i64 t, .int .i32 a] w fun e w' => e = .returned (.int .i32 (unV 6 t a)) ∧ Below w.heap.size w w' := by
  have hmm := @run_makeMap Try.prog
  have i0 := run_ins mty_i uInt w #[] #[en 4 45 0] 0 1 4 (fnV 45) rfl rfl rfl
  have i1 := run_ins mty_i uInt w #[en 4 45 0] #[en 4 45 0, en 5 46 1] 1 2 5 (fnV 46) rfl rfl rfl
  have i2 := run_ins mty_i uInt w #[en 4 45 0, en 5 46 1] #[en 4 45 0, en 5 46 1, en 6 47 2] 2 3 6 (fnV 47) rfl rfl rfl
  have i3 := run_ins mty_i uInt w #[en 4 45 0, en 5 46 1, en 6 47 2] #[en 4 45 0, en 5 46 1, en 6 47 2, en 7 48 3] 3 4 7 (fnV 48) rfl rfl rfl
  have l := run_look mty_i uInt (w.alloc (.map #[en 4 45 0, en 5 46 1, en 6 47 2, en 7 48 3] 4)) w.heap.size _ _ (alloc_at _ _) 6 2 (fnV 47) rfl
  cases hd : (a == 0)
  all_goals
    go_enter Try.func16, Try.ntmps16
    go_wp2_with (first | (go_at_call 13; refine (wrap_any _ _ _).mono ?_; rintro e w' ⟨rfl, rfl⟩) | go_in)
    go_ret
    exact ⟨ret_i32 (by simp at hd; simp [unV, hd]), (Below.refl _ _).alloc (Nat.le_refl _) _⟩
set_option maxRecDepth 100000 in
theorem un7 (t a : Int) (w : World) (ha : -2147483648 ≤ a) (ha2 : a ≤ 2147483647) :
    Calls Try.prog 16 #[.int .i64 7, .int .i64 t, .int .i32 a] w fun e w' => e = .returned (.int .i32 (unV 7 t a)) ∧ Below w.heap.size w w' := by
  have hmm := @run_makeMap Try.prog
  have i0 := run_ins mty_i uInt w #[] #[en 4 45 0] 0 1 4 (fnV 45) rfl rfl rfl
  have i1 := run_ins mty_i uInt w #[en 4 45 0] #[en 4 45 0, en 5 46 1] 1 2 5 (fnV 46) rfl rfl rfl
  have i2 := run_ins mty_i uInt w #[en 4 45 0, en 5 46 1] #[en 4 45 0, en 5 46 1, en 6 47 2] 2 3 6 (fnV 47) rfl rfl rfl
  have i3 := run_ins mty_i uInt w #[en 4 45 0, en 5 46 1, en 6 47 2] #[en 4 45 0, en 5 46 1, en 6 47 2, en 7 48 3] 3 4 7 (fnV 48) rfl rfl rfl
  have l := run_look mty_i uInt (w.alloc (.map #[en 4 45 0, en 5 46 1, en 6 47 2, en 7 48 3] 4)) w.heap.size _ _ (alloc_at _ _) 7 3 (fnV 48) rfl
  go_enter Try.func16, Try.ntmps16
  go_wp2_with (first | (go_at_call 13; refine (wrap_any _ _ _).mono ?_; rintro e w' ⟨rfl, rfl⟩) | go_in)
  go_ret
  exact ⟨ret_i32 (by simp [unV]), (Below.refl _ _).alloc (Nat.le_refl _) _⟩
set_option maxRecDepth 100000 in
theorem un8 (t a : Int) (w : World) (ha : -2147483648 ≤ a) (ha2 : a ≤ 2147483647) :
    Calls Try.prog 16 #[.int .i64 8, .int .i64 t, .int .i32 a] w fun e w' => e = .returned (.int .i32 (unV 8 t a)) ∧ Below w.heap.size w w' := by
  have hmm := @run_makeMap Try.prog
  have i0 := run_ins mty_i uInt w #[] #[en 4 45 0] 0 1 4 (fnV 45) rfl rfl rfl
  have i1 := run_ins mty_i uInt w #[en 4 45 0] #[en 4 45 0, en 5 46 1] 1 2 5 (fnV 46) rfl rfl rfl
  have i2 := run_ins mty_i uInt w #[en 4 45 0, en 5 46 1] #[en 4 45 0, en 5 46 1, en 6 47 2] 2 3 6 (fnV 47) rfl rfl rfl
  have i3 := run_ins mty_i uInt w #[en 4 45 0, en 5 46 1, en 6 47 2] #[en 4 45 0, en 5 46 1, en 6 47 2, en 7 48 3] 3 4 7 (fnV 48) rfl rfl rfl
  have l := run_look_none mty_i uInt (w.alloc (.map #[en 4 45 0, en 5 46 1, en 6 47 2, en 7 48 3] 4)) w.heap.size _ _ (alloc_at _ _) 8 _ (zfn_i _) rfl
  go_enter Try.func16, Try.ntmps16
  go_wp2_with (first | (go_at_call 13; refine (wrap_any _ _ _).mono ?_; rintro e w' ⟨rfl, rfl⟩) | go_in)
  go_ret
  exact ⟨ret_i32 (by rfl), (Below.refl _ _).alloc (Nat.le_refl _) _⟩
set_option maxRecDepth 100000 in
theorem binZ10 (t a : Int) (w : World) :
    Calls Try.prog 14 #[.int .i64 10, .int .i64 t, .int .i32 a, .int .i32 0] w fun e w' => e = .returned (.tuple #[.int .i32 0, .bool false]) ∧ w = w' := by
  go_enter Try.func14, Try.ntmps14
  go_wp2
  go_ret2
  exact ⟨rfl, rfl⟩
set_option maxRecDepth 100000 in
theorem binZ11 (t a : Int) (w : World) :
    Calls Try.prog 14 #[.int .i64 11, .int .i64 t, .int .i32 a, .int .i32 0] w fun e w' => e = .returned (.tuple #[.int .i32 0, .bool false]) ∧ w = w' := by
  go_enter Try.func14, Try.ntmps14
  go_wp2
  go_ret2
  exact ⟨rfl, rfl⟩
set_option maxRecDepth 100000 in
theorem binN (t a b : Int) (w : World) (ha : -2147483648 ≤ a) (ha2 : a ≤ 2147483647) (hb : -2147483648 ≤ b) (hb2 : b ≤ 2147483647) :
    Calls Try.prog 14 #[.int .i64 0, .int .i64 t, .int .i32 a, .int .i32 b] w fun e w' => e = .returned (.tuple #[.int .i32 0, .bool true]) ∧ Below w.heap.size w w' := by
  cases hz2 : (b == 0)
  all_goals
    go_enter Try.func14, Try.ntmps14
    go_wp2_with (first | (go_at_call 43; refine (exact0 a b _ ha ha2 hb hb2).mono ?_; rintro e w1 ⟨rfl, hb1⟩) | (go_at_call 44; refine (inBits0 a b _ ha ha2 hb hb2).mono ?_; rintro e w2 ⟨rfl, hb2⟩) | go_in)
    go_ret2
    exact ⟨rfl, hb1.trans (hb2.mono (by have := hb1.size; omega))⟩
/-- What Un answers, of any operator of one. -/
def UnAns (op t a : Int) (e : Ending) : Prop := ∃ v : Int, e = .returned (.int .i32 v) ∧ (wrapT t a = a → v = unV op t a) ∧ wrapT t v = wrapT t (unV op t a) ∧ -2147483648 ≤ v ∧ v ≤ 2147483647
theorem unV_5 (t a : Int) : unV 5 t a = -a - 1 := by simp [unV]
theorem unV_bd (op t a : Int) (ha : -2147483648 ≤ a) (ha2 : a ≤ 2147483647) (h5 : op ≠ 5) : -2147483648 ≤ unV op t a ∧ unV op t a ≤ 2147483647 := by
  generalize h : unV op t a = v
  unfold unV at h
  rw [if_neg h5] at h
  split at h
  · subst h
    exact wrapT_bd _ _
  · split at h
    · split at h <;> omega
    · split at h
      · subst h
        exact wrapT_bd _ _
      · omega
theorem un_any (op t a : Int) (w : World) (h4 : 4 ≤ op) (h8 : op ≤ 8) (ha : -2147483648 ≤ a) (ha2 : a ≤ 2147483647) :
    Calls Try.prog 16 #[.int .i64 op, .int .i64 t, .int .i32 a] w fun e w' => UnAns op t a e ∧ Below w.heap.size w w' := by
  have hu := unV_bd op t a ha ha2
  rcases (by omega : op = 4 ∨ op = 5 ∨ op = 6 ∨ op = 7 ∨ op = 8) with rfl | rfl | rfl | rfl | rfl
  · exact (un4 t a w ha ha2).mono fun e w' ⟨h, hb⟩ => ⟨⟨_, h, fun _ => rfl, rfl, hu (by decide)⟩, hb⟩
  · refine (un5 t a w ha ha2).mono fun e w' ⟨⟨v, h, h1, h2, h3⟩, hb⟩ => ⟨⟨v, h, ?_, ?_, h3⟩, hb⟩
    · rw [unV_5]
      exact h1
    · rw [unV_5]
      exact h2
  · exact (un6 t a w ha ha2).mono fun e w' ⟨h, hb⟩ => ⟨⟨_, h, fun _ => rfl, rfl, hu (by decide)⟩, hb⟩
  · exact (un7 t a w ha ha2).mono fun e w' ⟨h, hb⟩ => ⟨⟨_, h, fun _ => rfl, rfl, hu (by decide)⟩, hb⟩
  · exact (un8 t a w ha ha2).mono fun e w' ⟨h, hb⟩ => ⟨⟨_, h, fun _ => rfl, rfl, hu (by decide)⟩, hb⟩
theorem wrap32_bd (v : Int) : -2147483648 ≤ wrap32 v ∧ wrap32 v ≤ 2147483647 := by
  unfold wrap32
  omega
def I32b (v : Int) : Prop := -2147483648 ≤ v ∧ v ≤ 2147483647
theorem I32b_ite {c : Prop} [Decidable c] {x y : Int} (hx : I32b x) (hy : I32b y) : I32b (if c then x else y) := by
  split
  · exact hx
  · exact hy
theorem binV_bd (op t a b : Int) (ha : -2147483648 ≤ a) (ha2 : a ≤ 2147483647) : -2147483648 ≤ binV op t a b ∧ binV op t a b ≤ 2147483647 := by
  have hc := cnt_bd t b
  have h1 := tmod_bd a b ha ha2
  have h2 := shr_bd a (cnt t b).toNat ha ha2 (by omega)
  show I32b (binV op t a b)
  unfold binV
  repeat' (first | exact wrapT_bd _ _ | exact wrap32_bd _ | exact h1 | exact h2 | apply I32b_ite | (unfold I32b; decide))
theorem bin_yes (op t a b : Int) (w : World) (h9 : 9 ≤ op) (h24 : op ≤ 24) (hz : ¬ ((op = 10 ∨ op = 11) ∧ b = 0)) (ha : -2147483648 ≤ a) (ha2 : a ≤ 2147483647) (hb : -2147483648 ≤ b) (hb2 : b ≤ 2147483647) :
    Calls Try.prog 14 #[.int .i64 op, .int .i64 t, .int .i32 a, .int .i32 b] w fun e w' => e = .returned (.tuple #[.int .i32 (binV op t a b), .bool true]) ∧ Below w.heap.size w w' := by
  rcases (by omega : op = 9 ∨ op = 10 ∨ op = 11 ∨ op = 12 ∨ op = 13 ∨ op = 14 ∨ op = 15 ∨ op = 16 ∨ op = 17 ∨ op = 18 ∨ op = 19 ∨ op = 20 ∨ op = 21 ∨ op = 22 ∨ op = 23 ∨ op = 24) with rfl | rfl | rfl | rfl | rfl | rfl | rfl | rfl | rfl | rfl | rfl | rfl | rfl | rfl | rfl | rfl
  · exact bin9 t a b w ha ha2 hb hb2
  · exact bin10 t a b w ha ha2 hb hb2 (by omega)
  · exact bin11 t a b w ha ha2 hb hb2 (by omega)
  · exact bin12 t a b w ha ha2 hb hb2
  · exact bin13 t a b w ha ha2 hb hb2
  · exact bin14 t a b w ha ha2 hb hb2
  · exact bin15 t a b w ha ha2 hb hb2
  · exact bin16 t a b w ha ha2 hb hb2
  · exact bin17 t a b w ha ha2 hb hb2
  · exact bin18 t a b w ha ha2 hb hb2
  · exact bin19 t a b w ha ha2 hb hb2
  · exact bin20 t a b w ha ha2 hb hb2
  · exact bin21 t a b w ha ha2 hb hb2
  · exact bin22 t a b w ha ha2 hb hb2
  · exact bin23 t a b w ha ha2 hb hb2
  · exact bin24 t a b w ha ha2 hb hb2
theorem bin_no (op t a b : Int) (w : World) (h : (op = 10 ∨ op = 11) ∧ b = 0) :
    Calls Try.prog 14 #[.int .i64 op, .int .i64 t, .int .i32 a, .int .i32 b] w fun e w' => e = .returned (.tuple #[.int .i32 0, .bool false]) ∧ Below w.heap.size w w' := by
  obtain ⟨rfl | rfl, rfl⟩ := h
  · exact (binZ10 t a w).mono fun e w' ⟨h, hb⟩ => ⟨h, hb ▸ Below.refl _ _⟩
  · exact (binZ11 t a w).mono fun e w' ⟨h, hb⟩ => ⟨h, hb ▸ Below.refl _ _⟩
end Go.Proofs.Ythmphmndpfkbcaa
