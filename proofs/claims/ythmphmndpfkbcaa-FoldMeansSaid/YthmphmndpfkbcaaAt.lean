/-
  Numbers that lie in a slice; 'at'.
-/
import Derived.Test.YthmphmndpfkbcaaRefBin
namespace Go.Proofs.Ythmphmndpfkbcaa
open Go.RowKit
set_option linter.unusedVariables false
/-- This slice holds these numbers of 32 bits. -/
def Ints (w : World) (v : Value) (xs : List Int) : Prop := xs.length ≤ 1000 ∧ (∀ x ∈ xs, -2147483648 ≤ x ∧ x ≤ 2147483647) ∧ ((xs = [] ∧ ∃ p c, v = .slice p 0 c) ∨
  ∃ a c, v = .slice (some a) xs.length c ∧ a.block < w.heap.size ∧ ∀ (i : Nat) (x : Int), xs[i]? = some x → w.cell? (a.add i) = some (.int .i32 x))
theorem Ints.under {w w' : World} {v : Value} {xs : List Int} (h : Ints w v xs) (hb : Below w.heap.size w w') : Ints w' v xs := by
  obtain ⟨h1, h2, h3⟩ := h
  refine ⟨h1, h2, ?_⟩
  rcases h3 with h3 | ⟨a, c, rfl, h4, h5⟩
  · exact .inl h3
  · refine .inr ⟨a, c, rfl, by have := hb.size; omega, fun i x hx => ?_⟩
    rw [hb.cell (by unfold Addr.add; split <;> exact h4)]
    exact h5 i x hx
/-- The element, or 0. -/
def atV (xs : List Int) (i : Int) : Int := if i < 0 then 0 else xs.getD i.toNat 0
theorem atV_bd {xs : List Int} (h : ∀ x ∈ xs, -2147483648 ≤ x ∧ x ≤ 2147483647) (i : Int) : -2147483648 ≤ atV xs i ∧ atV xs i ≤ 2147483647 := by
  unfold atV
  split
  · omega
  · rw [List.getD_eq_getElem?_getD]
    cases hx : xs[i.toNat]? with
    | none => simp
    | some x => exact h x (List.mem_of_getElem? hx)
set_option maxRecDepth 100000 in
theorem at_any (v : Value) (xs : List Int) (i : Int) (w : World) (h : Ints w v xs) :
    Calls Try.prog 23 #[v, .int .i64 i] w fun e w' => e = .returned (.int .i32 (atV xs i)) ∧ w' = w := by
  obtain ⟨hl, hbd, h⟩ := h
  by_cases h0 : i < 0
  · have hz : atV xs i = 0 := if_pos h0
    rw [hz]
    go_enter Try.func23, Try.ntmps23
    go_wp2
    go_ret
    exact ⟨rfl, rfl⟩
  · obtain ⟨k, rfl⟩ : ∃ k : Nat, i = k := ⟨i.toNat, by omega⟩
    have hz : atV xs k = xs.getD k 0 := by rw [atV, if_neg h0, Int.toNat_natCast]
    rw [hz]
    rcases h with ⟨rfl, p, c, rfl⟩ | ⟨a, c, rfl, hab, hc⟩
    · go_enter Try.func23, Try.ntmps23
      go_wp2
      go_ret
      exact ⟨rfl, rfl⟩
    · by_cases hk : k < xs.length
      · obtain ⟨x, hx⟩ : ∃ x, xs[k]? = some x := ⟨_, List.getElem?_eq_getElem hk⟩
        have hck := hc k x hx
        have hg : xs.getD k 0 = x := by rw [List.getD_eq_getElem?_getD, hx]; rfl
        rw [hg]
        clear hx hc hg hz
        go_enter Try.func23, Try.ntmps23
        go_wp2
        go_ret
        exact ⟨rfl, rfl⟩
      · have hg : xs.getD k 0 = 0 := by rw [List.getD_eq_getElem?_getD, List.getElem?_eq_none (by omega)]; rfl
        rw [hg]
        go_enter Try.func23, Try.ntmps23
        go_wp2
        go_ret
        exact ⟨rfl, rfl⟩
end Go.Proofs.Ythmphmndpfkbcaa
