/-
  The law's own bin and number; rows of one and of two; how old memory is kept. 
-/
import Derived.Test.YthmphmndpfkbcaaSame
namespace Go.Proofs.Ythmphmndpfkbcaa
open Go.RowKit
/-- These operands are fine, and make this. -/
def binFine (op t a b want : Int) : Bool := decide (9 ≤ op) && decide (op ≤ 24) && !((op == 10 || op == 11) && b == 0) && decide (-2147483648 ≤ a) && decide (a ≤ 2147483647) && decide (-2147483648 ≤ b) && decide (b ≤ 2147483647) && (binV op t a b == want)
theorem binFine_iff (op t a b want : Int) : binFine op t a b want = true ↔ 9 ≤ op ∧ op ≤ 24 ∧ ¬ ((op = 10 ∨ op = 11) ∧ b = 0) ∧ -2147483648 ≤ a ∧ a ≤ 2147483647 ∧ -2147483648 ≤ b ∧ b ≤ 2147483647 ∧ binV op t a b = want := by
  unfold binFine
  simp only [Bool.and_eq_true, decide_eq_true_eq, Bool.not_eq_true', Bool.and_eq_false_iff, Bool.or_eq_false_iff, beq_iff_eq, beq_eq_false_iff_ne]
  constructor
  · rintro ⟨⟨⟨⟨⟨⟨⟨h1, h2⟩, h3⟩, h4⟩, h5⟩, h6⟩, h7⟩, h8⟩
    exact ⟨h1, h2, fun ⟨h, hb⟩ => by rcases h3 with ⟨k1, k2⟩ | k; exact h.elim k1 k2; exact k hb, h4, h5, h6, h7, h8⟩
  · rintro ⟨h1, h2, h3, h4, h5, h6, h7, h8⟩
    refine ⟨⟨⟨⟨⟨⟨⟨h1, h2⟩, ?_⟩, h4⟩, h5⟩, h6⟩, h7⟩, h8⟩
    by_cases hb : b = 0
    · exact .inl ⟨fun e => h3 ⟨.inl e, hb⟩, fun e => h3 ⟨.inr e, hb⟩⟩
    · exact .inr hb
set_option maxRecDepth 100000 in
theorem lawBin (op t a b want : Int) (w : World) (hf : binFine op t a b want = true) :
    Calls Try.prog 15 #[.int .i64 op, .int .i64 t, .int .i32 a, .int .i32 b, .int .i32 want] w fun e w' => e = .returned (.bool true) ∧ Below w.heap.size w w' := by
  obtain ⟨h9, h24, hz, ha, ha2, hb, hb2, hv⟩ := (binFine_iff op t a b want).1 hf
  have hq : (binV op t a b == want) = true := by simpa using hv
  have HZ := Lib.hid hz
  clear hv hz hf
  go_enter Try.func15, Try.ntmps15
  go_wp2_with (go_at_call 14; refine (bin_yes op t a b _ h9 h24 HZ.out ha ha2 hb hb2).mono ?_; rintro e w1 ⟨rfl, hb1⟩)
  go_ret
  exact ⟨rfl, hb1⟩
/-- A number as the law makes it. -/
abbrev numT (n t : Int) : Ex := .mk 0 0 ⟨#[]⟩ ⟨#[]⟩ n t 0 []
abbrev numL (n t : Int) : List Value := exL 0 0 ⟨#[]⟩ ⟨#[]⟩ n t 0 none 0 0
set_option maxRecDepth 100000 in
theorem num_any (n t : Int) (w : World) :
    Calls Try.prog 17 #[.int .i64 n, .int .i64 t] w fun e w' => e = .returned (.agg (numL n t).toArray) ∧ Below w.heap.size w w' := by
  go_enter Try.func17, Try.ntmps17
  go_wp2
  exact bodyPost_ret (v := .agg (numL n t).toArray) (by simp [results, Try.results17, go_sem]) rfl ⟨rfl, (Below.refl _ _).alloc (Nat.le_refl _) _⟩
/-- Anything in memory. -/
def InW (W : World) : Nat → Prop := fun b => b < W.heap.size
theorem num_in (n t : Int) (c : Nat) (S : Nat → Prop) (W : World) : ExIn S W (exL 0 0 ⟨#[]⟩ ⟨#[]⟩ n t 0 none 0 c) (numT n t) := ExIn.mk (args := []) .nil
theorem SlIn.one {S : Nat → Prop} {W : World} {b : Nat} {l : List Value} {x : Ex} {t : TypeId} (h : W.heap[b]? = some (.cells l.toArray t (0, 0))) (hx : ExIn S W l x) (hS : S b) : SlIn S W (some b) [x] := by
  refine .row (by simp) hS (fun _ => l) (fun i hi j v hv => ?_) (fun i y hy => ?_)
  · obtain rfl : i = 0 := by simpa using hi
    rw [Nat.zero_mul, Nat.zero_add]
    exact row_at h j v hv
  · have hi := (List.getElem?_eq_some_iff.1 hy).1
    obtain rfl : i = 0 := by simpa using hi
    obtain rfl : x = y := by simpa using hy
    exact hx
theorem SlIn.two {S : Nat → Prop} {W : World} {b : Nat} {l1 l2 : List Value} {x y : Ex} {t : TypeId} (h : W.heap[b]? = some (.cells (l1 ++ l2).toArray t (0, 0))) (hx : ExIn S W l1 x) (hy : ExIn S W l2 y) (hS : S b) : SlIn S W (some b) [x, y] := by
  have h8 := hx.len
  refine .row (by simp) hS (fun i => if i = 0 then l1 else l2) (fun i hi j v hv => ?_) (fun i z hz => ?_)
  · rcases (by simp at hi; omega : i = 0 ∨ i = 1) with rfl | rfl
    · rw [if_pos rfl] at hv
      rw [Nat.zero_mul, Nat.zero_add]
      exact row_at h j v (by rw [List.getElem?_append_left (List.getElem?_eq_some_iff.1 hv).1]; exact hv)
    · rw [if_neg (by decide)] at hv
      exact row_at h _ v (by rw [List.getElem?_append_right (by omega), h8, show 1 * 8 + j - 8 = j from by omega]; exact hv)
  · have hi := (List.getElem?_eq_some_iff.1 hz).1
    rcases (by simp at hi; omega : i = 0 ∨ i = 1) with rfl | rfl
    · obtain rfl : x = z := by simpa using hz
      exact hx
    · obtain rfl : y = z := by simpa using hz
      exact hy
theorem SlIn.later {W W' : World} {A : Option Nat} {args : List Ex} (h : SlIn (InW W) W A args) (hb : Below W.heap.size W W') : SlIn (InW W') W' A args :=
  (h.under hb (fun _ h => h)).keep (fun _ hb2 => Nat.lt_of_lt_of_le hb2 hb.size) (fun _ _ _ _ h => h)
theorem SlIn.wide {S : Nat → Prop} {W : World} {A : Option Nat} {args : List Ex} (h : SlIn S W A args) (hS : ∀ b, S b → b < W.heap.size) : SlIn (InW W) W A args := h.keep hS (fun _ _ _ _ h => h)
end Go.Proofs.Ythmphmndpfkbcaa
