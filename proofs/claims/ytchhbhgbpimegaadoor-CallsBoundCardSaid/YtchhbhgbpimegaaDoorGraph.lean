/-
  Rows of numbers and graphs in memory (slices of slices), read only; what an added number leaves.
-/
import Derived.Test.YtchhbhgbpimegaaDoorCollect
import Derived.Test.YtchhbhgbpimegaaDoorPlan
namespace Go.Proofs.YtchhbhgbpimegaaDoor
open Go.RowKit
set_option linter.unusedVariables false
/-- At v lies a row of these numbers. -/
def RowIs (w : World) (v : Value) (l : List Nat) : Prop := ∃ A c, v = .slice A l.length c ∧ ∀ j x, l[j]? = some x → ∃ b, A = some ⟨b, 0, none⟩ ∧ w.cell? ⟨b, j, none⟩ = some (iv x)
/-- At v lies a graph of n functions. -/
def GraphIs (w : World) (v : Value) (n : Nat) (G : Nat → List Nat) : Prop := ∃ A c, v = .slice A n c ∧ ∀ f, f < n → ∃ b u, A = some ⟨b, 0, none⟩ ∧ w.cell? ⟨b, f, none⟩ = some u ∧ RowIs w u (G f)
/-- At v lies a row of whole numbers. -/
def IntsIs (w : World) (v : Value) (l : List Int) : Prop := ∃ A c, v = .slice A l.length c ∧ ∀ j x, l[j]? = some x → ∃ b, A = some ⟨b, 0, none⟩ ∧ w.cell? ⟨b, j, none⟩ = some (.int .i64 x)
theorem cell_below {w w' : World} {a : Addr} {v : Value} (h : w.cell? a = some v) (hb : Below w.heap.size w w') : w'.cell? a = some v := (hb.cell (World.block_lt_of_cell? w _ h)).trans h
theorem RowIs.below {w w' : World} {v : Value} {l : List Nat} (h : RowIs w v l) (hb : Below w.heap.size w w') : RowIs w' v l := by
  obtain ⟨A, c, rfl, h⟩ := h
  refine ⟨A, c, rfl, fun j x hj => ?_⟩
  obtain ⟨b, hA, hc⟩ := h j x hj
  exact ⟨b, hA, cell_below hc hb⟩
theorem IntsIs.below {w w' : World} {v : Value} {l : List Int} (h : IntsIs w v l) (hb : Below w.heap.size w w') : IntsIs w' v l := by
  obtain ⟨A, c, rfl, h⟩ := h
  refine ⟨A, c, rfl, fun j x hj => ?_⟩
  obtain ⟨b, hA, hc⟩ := h j x hj
  exact ⟨b, hA, cell_below hc hb⟩
theorem GraphIs.below {w w' : World} {v : Value} {n : Nat} {G : Nat → List Nat} (h : GraphIs w v n G) (hb : Below w.heap.size w w') : GraphIs w' v n G := by
  obtain ⟨A, c, rfl, h⟩ := h
  refine ⟨A, c, rfl, fun f hf => ?_⟩
  obtain ⟨b, u, hA, hc, hr⟩ := h f hf
  exact ⟨b, u, hA, cell_below hc hb, hr.below hb⟩
theorem own_cell {w : World} {B : Nat} {e : TypeId} {v : Value} {n : Nat} {xs : List Value} (h : w.ownsRow B e 1 v n xs) (j : Nat) (x : Value) (hj : xs[j]? = some x) : ∃ b, v.ownBlock = some b ∧ (∃ c, v = .slice (some ⟨b, 0, none⟩) n c) ∧ w.cell? ⟨b, j, none⟩ = some x := by
  rcases h.2 with ⟨rfl, rfl⟩ | ⟨g, cap, cur, rfl, hb, hrow, hnc, _, hcs, htake⟩
  · have := h.1
    have hx : xs = [] := List.eq_nil_of_length_eq_zero (by simpa using this)
    subst hx
    simp at hj
  · refine ⟨g, rfl, ⟨cap, rfl⟩, ?_⟩
    rw [cell_of_row _ _ _ _ _ _ hrow]
    rw [← htake] at hj
    have h2 : j < n * 1 := by
      have := (List.getElem?_eq_some_iff.1 hj).1
      simp at this
      omega
    rw [List.getElem?_take_of_lt h2] at hj
    simpa using hj
theorem rowIs_own {w : World} {B : Nat} {e : TypeId} {v : Value} {l : List Nat} (h : w.ownsRow B e 1 v l.length (l.map iv)) : RowIs w v l := by
  obtain ⟨A, c, rfl⟩ := own_form h
  refine ⟨A, c, rfl, fun j x hj => ?_⟩
  obtain ⟨b, hb, ⟨c2, hv⟩, hc⟩ := own_cell h j (iv x) (by simp [hj])
  exact ⟨b, (Value.slice.inj hv).1, hc⟩
theorem intsIs_own {w : World} {B : Nat} {e : TypeId} {v : Value} {l : List Int} (h : w.ownsRow B e 1 v l.length (l.map (Value.int .i64))) : IntsIs w v l := by
  obtain ⟨A, c, rfl⟩ := own_form h
  refine ⟨A, c, rfl, fun j x hj => ?_⟩
  obtain ⟨b, hb, ⟨c2, hv⟩, hc⟩ := own_cell h j (.int .i64 x) (by simp [hj])
  exact ⟨b, (Value.slice.inj hv).1, hc⟩
theorem below_touch {B wb : Nat} {w W W' : World} (h : Below B w W) (ht : Touch wb W W') (hwb : B ≤ wb) : Below B w W' :=
  ⟨ht.os.trans h.os, ht.tape.trans h.tape, ht.output.trans h.output, by have := h.size; have := ht.size; omega, fun k hk => (ht.block k (by omega)).trans (h.block k hk)⟩
theorem below_gb {B : Nat} {w W W' : World} {r : Option Nat} (h : Below B w W) (hg : W.grownBy W' r) (hB : B ≤ W.heap.size) (hr : ∀ k, r = some k → B ≤ k) : Below B w W' :=
  ⟨hg.os.trans h.os, hg.tape.trans h.tape, hg.output.trans h.output, Nat.le_trans h.size hg.size, fun k hk => (hg.block k (by omega) (fun e => by have := hr k e.symm; omega)).trans (h.block k hk)⟩
/-- The bits of these numbers. -/
def bitsOr (l : List Nat) : Nat := l.foldl (fun x c => x ||| 2 ^ c) 0
theorem bitsOr_snoc (l : List Nat) (c : Nat) : bitsOr (l ++ [c]) = bitsOr l ||| 2 ^ c := by simp [bitsOr]
theorem foldl_or_bit (l : List Nat) (x i : Nat) : (l.foldl (fun x c => x ||| 2 ^ c) x).testBit i = (x.testBit i || decide (i ∈ l)) := by
  induction l generalizing x with
  | nil => simp
  | cons c l ih =>
    rw [List.foldl_cons, ih, or_bit_bit]
    by_cases h : i = c
    · subst h
      simp
    · simp [h]
theorem bitsOr_bit (l : List Nat) (i : Nat) : (bitsOr l).testBit i = decide (i ∈ l) := by
  rw [bitsOr, foldl_or_bit]
  simp
theorem foldl_or_lt (l : List Nat) (x : Nat) (hx : x < 18446744073709551616) (hl : ∀ c ∈ l, c < 64) : l.foldl (fun x c => x ||| 2 ^ c) x < 18446744073709551616 := by
  induction l generalizing x with
  | nil => exact hx
  | cons c l ih =>
    rw [List.foldl_cons]
    exact ih _ (or_bit_lt x c hx (hl c (by simp))) (fun k hk => hl k (by simp [hk]))
theorem bitsOr_lt (l : List Nat) (hl : ∀ c ∈ l, c < 64) : bitsOr l < 18446744073709551616 := foldl_or_lt l 0 (by decide) hl
/-- A graph, each number once, rising. -/
def cnt (G : Nat → List Nat) (f : Nat) : List Nat := bitsL (bitsOr (G f))
theorem mem_cnt {n : Nat} {G : Nat → List Nat} (hn : n ≤ 64) {f : Nat} (hG : ∀ c ∈ G f, c < n) (c : Nat) : c ∈ cnt G f ↔ c ∈ G f := by
  rw [cnt, mem_bitsL _ _ (bitsOr_lt _ fun c hc => by have := hG c hc; omega), bitsOr_bit]
  simp
theorem isG_cnt {n : Nat} {G : Nat → List Nat} (hn : n ≤ 64) (hG : ∀ f, f < n → ∀ c ∈ G f, c < n) : IsG n (cnt G) :=
  ⟨hn, fun f hf c hc => hG f hf c ((mem_cnt hn (hG f hf) c).1 hc), fun f _ => List.nodup_range.filter _⟩
theorem take_snoc {α : Type} (l : List α) (j : Nat) (x : α) (h : l[j]? = some x) : l.take (j + 1) = l.take j ++ [x] := by
  rw [List.take_add_one, h]
  rfl
end Go.Proofs.YtchhbhgbpimegaaDoor
