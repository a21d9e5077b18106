/-
  Inputs as they lie in memory: three cells each, in slices; slices of one's own; and what is said of them in plain words.
-/
import Derived.Test.YtimlhckihkjifaaVRow
import Derived.Deep.AppendLies
import Derived.Maps.AppendAt
namespace Go.Proofs.Ytimlhckihkjifaa
open Go.RowKit
set_option linter.unusedVariables false
structure In where
  a : Int
  k : Int
  v : Nat
/-- Its numbers are of their types. -/
structure In.ok (x : In) : Prop where
  a0 : -9223372036854775808 ≤ x.a
  a1 : x.a ≤ 9223372036854775807
  k0 : -9223372036854775808 ≤ x.k
  k1 : x.k ≤ 9223372036854775807
  v : x.v < 256
def ic (x : In) : List Value := [.int .i64 x.a, .int .i64 x.k, .int .u8 (x.v : Int)]
theorem ic_one (x : In) : ∀ u ∈ ic x, u.oneCell' = true := by
  intro u hu
  simp only [ic, List.mem_cons, List.not_mem_nil, or_false] at hu
  rcases hu with rfl | rfl | rfl <;> rfl
def iv (x : In) : Value := .agg #[.int .i64 x.a, .int .i64 x.k, .int .u8 (x.v : Int)]
def IRow (w : World) (g : Nat) (x : In) : Prop := VRow w g 25 (ic x)
section
variable {w w' : World} {B g : Nat} {x : In}
theorem IRow.below (h : IRow w g x) (hb : Below B w w') (hg : g < B) : IRow w' g x := VRow.below h hb hg
theorem IRow.lt (h : IRow w g x) : g < w.heap.size := VRow.lt h
theorem IRow.other (h : IRow w g x) {r : Nat} (ho : ∀ j, j ≠ r → w'.heap[j]? = w.heap[j]?) (hr : g ≠ r) : IRow w' g x := (ho g hr).trans h
theorem IRow.c0 (h : IRow w g x) : w.cell? ⟨g, 0, none⟩ = some (.int .i64 x.a) := VRow.cell h 0 _ rfl
theorem IRow.c1 (h : IRow w g x) : w.cell? ⟨g, 1, none⟩ = some (.int .i64 x.k) := VRow.cell h 1 _ rfl
theorem IRow.c2 (h : IRow w g x) : w.cell? ⟨g, 2, none⟩ = some (.int .u8 (x.v : Int)) := VRow.cell h 2 _ rfl
end
/-- A slice at A reads as the list; all that it reads lies below B. -/
structure Rd (W : World) (B : Nat) (A : Option Addr) (l : List In) : Prop where
  len : l.length ≤ 9223372036854775807
  ok : ∀ x ∈ l, x.ok
  at_ : ∀ j x, l[j]? = some x → ∃ a, A = some a ∧ a.block < B ∧ CellsA W (a.add (j * 3)) (ic x)
theorem Rd.below {W W' : World} {B C : Nat} {A : Option Addr} {l : List In} (h : Rd W B A l) (hb : Below C W W') (hB : B ≤ C) : Rd W' B A l :=
  ⟨h.len, h.ok, fun j x hj => by
    obtain ⟨a, e, hl, hc⟩ := h.at_ j x hj
    exact ⟨a, e, hl, hc.below hb (by rw [add_block]; omega)⟩⟩
theorem Rd.mono {W : World} {B C : Nat} {A : Option Addr} {l : List In} (h : Rd W B A l) (hB : B ≤ C) : Rd W C A l :=
  ⟨h.len, h.ok, fun j x hj => by
    obtain ⟨a, e, hl, hc⟩ := h.at_ j x hj
    exact ⟨a, e, by omega, hc⟩⟩
theorem Rd.nil (W : World) (B : Nat) (A : Option Addr) : Rd W B A [] := ⟨by simp, by simp, fun j x hj => by simp at hj⟩
/-- The j-th one, cell by cell. -/
theorem Rd.get {W : World} {B : Nat} {A : Option Addr} {l : List In} (h : Rd W B A l) {j : Nat} {x : In} (hj : l[j]? = some x) : ∃ a, A = some a ∧ a.block < B ∧ x.ok ∧ CellsA W (a.add (j * 3)) (ic x) ∧ W.cell? (a.add (j * 3)) = some (.int .i64 x.a) ∧ W.cell? ⟨(a.add (j * 3)).block, (a.add (j * 3)).off + 1, none⟩ = some (.int .i64 x.k) ∧ W.cell? ⟨(a.add (j * 3)).block, (a.add (j * 3)).off + 2, none⟩ = some (.int .u8 (x.v : Int)) := by
  obtain ⟨a, e, hl, hc⟩ := h.at_ j x hj
  refine ⟨a, e, hl, h.ok x (List.mem_of_getElem? hj), hc, ?_, ?_, ?_⟩
  · exact hc 0 _ rfl
  · exact hc 1 _ rfl
  · exact hc 2 _ rfl
/-- A slice of inputs of one's own. -/
def OwnI (w : World) (base : Nat) (v : Value) (l : List In) : Prop := w.ownsRow base 25 3 v l.length (l.flatMap ic)
theorem ininfo : (Try.prog.info? 25).map (fun i => (i.zero, i.size, i.bytes)) = some (some (.agg #[.int .i64 0, .int .i64 0, .int .u8 0]), 3, 24) := by kernel_rfl
theorem OwnI.form {w : World} {base : Nat} {v : Value} {l : List In} (h : OwnI w base v l) : ∃ A cap, v = .slice A l.length cap := by
  rcases h.2 with ⟨rfl, h0⟩ | ⟨g, cap, cur, rfl, _⟩
  · exact ⟨none, 0, by rw [h0]⟩
  · exact ⟨_, _, rfl⟩
theorem OwnI.below {w w' : World} {base B : Nat} {v : Value} {l : List In} (h : OwnI w base v l) (hb : Below B w w') (hB : w.heap.size ≤ B) : OwnI w' base v l := by
  refine ⟨h.1, ?_⟩
  rcases h.2 with h2 | ⟨g, cap, cur, hv, hg, hh, r⟩
  · exact Or.inl h2
  · have hlt : g < w.heap.size := by
      rcases Nat.lt_or_ge g w.heap.size with h1 | h1
      · exact h1
      · rw [Array.getElem?_eq_none h1] at hh; cases hh
    exact Or.inr ⟨g, cap, cur, hv, hg, (hb.block g (by omega)).trans hh, r⟩
theorem OwnI.snoc {w : World} {base : Nat} {v : Value} {l : List In} {x : In} (h : w.ownsRow base 25 3 v (l.length + 1) (l.flatMap ic ++ ic x)) : OwnI w base v (l ++ [x]) := by
  unfold OwnI
  rw [List.length_append, List.flatMap_append]
  simpa using h
theorem OwnI.mono {w : World} {base base' : Nat} {v : Value} {l : List In} (h : OwnI w base v l) (hB : base' ≤ base) : OwnI w base' v l := by
  refine ⟨h.1, ?_⟩
  rcases h.2 with h2 | ⟨g, cap, cur, hv, hg, r⟩
  · exact Or.inl h2
  · exact Or.inr ⟨g, cap, cur, hv, by omega, r⟩
theorem OwnI.nil (w : World) (base : Nat) : OwnI w base (.slice none 0 0) [] := World.ownsRow_nil _ _ _ _
theorem flat_at (l : List In) (j i : Nat) (x : In) (u : Value) (hj : l[j]? = some x) (hi : (ic x)[i]? = some u) : (l.flatMap ic)[j * 3 + i]? = some u := by
  induction l generalizing j with
  | nil => simp at hj
  | cons y t ih =>
    have hl : (ic y).length = 3 := rfl
    have h3 : i < 3 := (List.getElem?_eq_some_iff.1 hi).1
    rw [List.flatMap_cons]
    cases j with
    | zero =>
      obtain rfl : y = x := by simpa using hj
      rw [List.getElem?_append_left (by omega), Nat.zero_mul, Nat.zero_add]
      exact hi
    | succ j =>
      rw [List.getElem?_append_right (by omega), show (j + 1) * 3 + i - (ic y).length = j * 3 + i by omega]
      exact ih j (by simpa using hj)
/-- What is one's own can be read. -/
theorem OwnI.rd {w : World} {base : Nat} {v : Value} {l : List In} (h : OwnI w base v l) (hl : l.length ≤ 9223372036854775807) (hok : ∀ x ∈ l, x.ok) : ∃ A cap, v = .slice A l.length cap ∧ Rd w w.heap.size A l := by
  rcases h.2 with ⟨rfl, h0⟩ | ⟨g, cap, cur, rfl, hbg, hh, r⟩
  · obtain rfl : l = [] := List.eq_nil_of_length_eq_zero h0
    exact ⟨none, 0, rfl, Rd.nil _ _ _⟩
  · have hlt : g < w.heap.size := by
      rcases Nat.lt_or_ge g w.heap.size with h1 | h1
      · exact h1
      · rw [Array.getElem?_eq_none h1] at hh; cases hh
    refine ⟨_, _, rfl, hl, hok, fun j x hj => ⟨⟨g, 0, none⟩, rfl, hlt, fun i u hi => ?_⟩⟩
    have := h.cells (g := g) rfl (j * 3 + i) u (flat_at l j i x u hj hi)
    rw [addr_add] at this ⊢
    rw [addr_add]
    simpa [Nat.zero_add] using this
theorem news_in (w : World) (x : In) (b : Nat) (hb : w.heap.size = b) : ∀ j u, (ic x)[j]? = some u → (w.alloc (.cells #[.int .i64 x.a, .int .i64 x.k, .int .u8 (x.v : Int)] 25)).cell? ((⟨b, 0, none⟩ : Addr).add j) = some u := by
  subst hb
  exact World.news_of_block (heap_alloc_new w _)
/-! ### plain words -/
def aheadI (x y : In) : Bool := decide (x.a < y.a) || (decide (x.a = y.a) && decide (x.k < y.k))
/-- What is wrong with x behind p. -/
def errI (p : Option In) (x : In) : Nat :=
  if x.a < 1 ∨ 1073741824 < x.a then 2 else if x.k < 0 ∨ 2 < x.k then 6 else match p with
    | some y => if aheadI y x = true then 0 else 28
    | none => 0
def chkG (p : Option In) (i : Nat) : List In → Int × Nat
  | [] => (-1, 0)
  | x :: t => if errI p x = 0 then chkG (some x) (i + 1) t else ((i : Int), errI p x)
def chkL (l : List In) : Int × Nat := chkG none 0 l
/-- The one ahead of the i-th. -/
def prevI (l : List In) : Nat → Option In
  | 0 => none
  | i + 1 => l[i]?
theorem drop_at (l : List In) (i : Nat) (x : In) (h : l[i]? = some x) : l.drop i = x :: l.drop (i + 1) := by
  obtain ⟨hi, rfl⟩ := List.getElem?_eq_some_iff.1 h
  exact List.drop_eq_getElem_cons hi
structure Nw where
  p : Nat
  m : Nat
  b : Bool
  y : Nat
structure Nw.ok (n : Nw) : Prop where
  p : n.p < 256
  m : n.m < 256
  y : n.y < 256
def n0 : Nw := ⟨0, 0, false, 0⟩
def nc (n : Nw) : List Value := [.int .u8 (n.p : Int), .int .u8 (n.m : Int), .bool n.b, .int .u8 (n.y : Int)]
def nv (n : Nw) : Value := .agg #[.int .u8 (n.p : Int), .int .u8 (n.m : Int), .bool n.b, .int .u8 (n.y : Int)]
theorem nc_one (n : Nw) : ∀ u ∈ nc n, u.oneCell' = true := by
  intro u hu
  simp only [nc, List.mem_cons, List.not_mem_nil, or_false] at hu
  rcases hu with rfl | rfl | rfl | rfl <;> rfl
def step1 (c : Int) (n : Nw) (x : In) : Nw := if x.k = 0 ∧ x.a ≤ c then { n with p := x.v } else n
def step2 (c : Int) (n : Nw) (x : In) : Nw := if x.k = 2 ∧ x.a ≤ c then { n with m := x.v } else n
def step3 (c : Int) (n : Nw) (x : In) : Nw := if x.k = 1 ∧ x.a = c then { n with b := true, y := x.v } else n
def stepN (c : Int) (n : Nw) (x : In) : Nw := step3 c (step2 c (step1 c n x) x) x
def atF (c : Int) (n : Nw) : List In → Nw
  | [] => n
  | x :: t => atF c (stepN c n x) t
def atL (l : List In) (c : Int) : Nw := if (chkL l).2 ≠ 0 ∨ c < 1 then n0 else atF c n0 l
def uptoL (l : List In) (c : Int) : List In := l.filter fun x => decide (x.a ≤ c)
def setL (l : List In) (x : In) : List In := l.filter (fun y => aheadI y x) ++ [x] ++ l.filter (fun y => aheadI x y)
/-- The error of setting it. -/
def setE (l : List In) (x : In) : Nat := if (chkL l).2 ≠ 0 then (chkL l).2 else (chkL [x]).2
theorem chkG_bounds : ∀ (l : List In) (p : Option In) (i : Nat), -1 ≤ (chkG p i l).1 ∧ (chkG p i l).1 ≤ i + l.length ∧ (chkG p i l).2 ≤ 28
  | [], p, i => ⟨by simp [chkG], by simp [chkG], by simp [chkG]⟩
  | x :: t, p, i => by
    unfold chkG
    split
    · have := chkG_bounds t (some x) (i + 1)
      simp only [List.length_cons]
      omega
    · have h28 : errI p x ≤ 28 := by
        unfold errI
        split
        · omega
        · split
          · omega
          · split
            · split <;> omega
            · omega
      simp only [List.length_cons]
      omega
end Go.Proofs.Ytimlhckihkjifaa
