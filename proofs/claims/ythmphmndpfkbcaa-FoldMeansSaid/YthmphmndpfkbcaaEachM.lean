/-
  What a list that is being made says, round by round (each): no walk.
-/
import Derived.Test.YthmphmndpfkbcaaAppend
namespace Go.Proofs.Ythmphmndpfkbcaa
open Go.RowKit
theorem ownsRow_below {w w' : World} {base : Nat} {e : TypeId} {size : Nat} {v : Value} {n : Nat} {xs : List Value} (h : w.ownsRow base e size v n xs) (hb : Below w.heap.size w w') : w'.ownsRow base e size v n xs :=
  h.kept (row := none) ⟨hb.os, hb.tape, hb.output, hb.size, fun k hk _ => hb.block k hk⟩ (by cases v.ownBlock <;> simp)
theorem flat8 : ∀ (rows : List (List Value)) (i j : Nat) (r : List Value) (v : Value), (∀ r ∈ rows, r.length = 8) → rows[i]? = some r → r[j]? = some v → rows.flatten[i * 8 + j]? = some v
  | [], i, j, r, v, _, h, _ => by simp at h
  | a :: rows, 0, j, r, v, h8, h, hv => by
    obtain rfl : a = r := by simpa using h
    have hj : j < a.length := (List.getElem?_eq_some_iff.1 hv).1
    rw [List.flatten_cons, Nat.zero_mul, Nat.zero_add, List.getElem?_append_left hj]
    exact hv
  | a :: rows, i + 1, j, r, v, h8, h, hv => by
    have ha := h8 a (by simp)
    rw [List.flatten_cons, List.getElem?_append_right (by omega), ha, show (i + 1) * 8 + j - 8 = i * 8 + j from by omega]
    exact flat8 rows i j r v (fun r hr => h8 r (by simp [hr])) (by simpa using h) hv
/-- The list that is being made: k of the results of f lie in it, one behind the other. -/
structure EachK (f : Ex → Ex) (args : List Ex) (B : Nat) (w : World) (k : Nat) (rows : List (List Value)) (S : Nat → Prop) (v : Value) (wr : World) : Prop where
  len : rows.length = k
  own : wr.ownsRow B 27 8 v k rows.flatten
  eight : ∀ r ∈ rows, r.length = 8
  tree : ∀ (i : Nat) (r : List Value) (x : Ex), rows[i]? = some r → args[i]? = some x → ExIn S wr r (f x)
  low : ∀ b, S b → B ≤ b ∧ b < wr.heap.size ∧ v.ownBlock ≠ some b
  below : Below B w wr
theorem EachK.start (f : Ex → Ex) (args : List Ex) (w : World) : EachK f args w.heap.size w 0 [] (fun _ => False) (.slice none 0 0) w :=
  ⟨rfl, World.ownsRow_nil w _ _ _, fun _ h => by simp at h, fun _ _ _ h => by simp at h, fun _ h => h.elim, Below.refl _ _⟩
theorem EachK.put {f : Ex → Ex} {args : List Ex} {B : Nat} {w : World} {k : Nat} {rows : List (List Value)} {S S1 : Nat → Prop} {v v' : Value} {wr w2 w3 : World} {news : List Value} {x : Ex}
    (h : EachK f args B w k rows S v wr) (hB : B ≤ wr.heap.size) (hb : Below wr.heap.size wr w2) (hx : args[k]? = some x) (hn : ExIn S1 w2 news (f x)) (h1 : ∀ b, S1 b → wr.heap.size ≤ b ∧ b < w2.heap.size)
    (hown : w3.ownsRow B 27 8 v' (k + 1) (rows.flatten ++ news)) (hg : w2.grownBy w3 v.ownBlock) (hbl : ∀ b, v'.ownBlock = some b → v.ownBlock = some b ∨ w2.heap.size ≤ b) :
    EachK f args B w (k + 1) (rows ++ [news]) (fun b => S b ∨ S1 b) v' w3 := by
  have hs := hb.size
  have hs3 := hg.size
  have hlt := h.own.lt
  have old : ∀ b, S b → ∀ j u, wr.cell? ⟨b, j, none⟩ = some u → w3.cell? ⟨b, j, none⟩ = some u := fun b hSb j u hu => by
    obtain ⟨l1, l2, l3⟩ := h.low b hSb
    refine hg.cell (a := ⟨b, j, none⟩) ?_ (fun e => l3 e.symm)
    rw [hb.cell (p := ⟨b, j, none⟩) l2]
    exact hu
  have new : ∀ b, S1 b → ∀ j u, w2.cell? ⟨b, j, none⟩ = some u → w3.cell? ⟨b, j, none⟩ = some u := fun b hSb j u hu =>
    hg.cell (a := ⟨b, j, none⟩) hu (fun e => by have := (hlt b e.symm).2; have := (h1 b hSb).1; omega)
  refine ⟨by simp [h.len], by simpa using hown, fun r hr => ?_, fun i r y hr hy => ?_, fun b hb2 => ?_, ?_⟩
  · rcases List.mem_append.1 hr with hr | hr
    · exact h.eight r hr
    · obtain rfl : r = news := by simpa using hr
      exact hn.len
  · by_cases hi : i < rows.length
    · rw [List.getElem?_append_left hi] at hr
      exact (h.tree i r y hr hy).keep (fun b hb => .inl hb) old
    · have hr2 := hr
      rw [List.getElem?_append_right (by omega)] at hr2
      have hik : i = k := by
        have hl := (List.getElem?_eq_some_iff.1 hr).1
        simp only [List.length_append, List.length_cons, List.length_nil] at hl
        have := h.len
        omega
      subst hik
      rw [h.len, Nat.sub_self] at hr2
      obtain rfl : news = r := by simpa using hr2
      obtain rfl : x = y := Option.some.inj (hx.symm.trans hy)
      exact hn.keep (fun b hb => .inr hb) new
  · rcases hb2 with hSb | hSb
    · obtain ⟨l1, l2, l3⟩ := h.low b hSb
      exact ⟨l1, by omega, fun e => by rcases hbl b e with e | e; exact l3 e; omega⟩
    · obtain ⟨l1, l2⟩ := h1 b hSb
      exact ⟨by omega, by omega, fun e => by rcases hbl b e with e | e; have := (hlt b e).2; omega; omega⟩
  · exact (h.below.trans (hb.mono hB)).grown hg (by omega) (fun k hk => (hlt k hk).1)
/-- At the end. -/
theorem EachK.done {f : Ex → Ex} {args : List Ex} {B : Nat} {w : World} {rows : List (List Value)} {S : Nat → Prop} {v : Value} {wr : World} (h : EachK f args B w args.length rows S v wr) (hl : args.length ≤ 1048576) :
    ∃ A c S', v = slV A args.length c ∧ SlIn S' wr A (args.map f) ∧ (∀ b, S' b → B ≤ b ∧ b < wr.heap.size) := by
  rcases h.own.2 with ⟨rfl, h0⟩ | ⟨g, cap, cur, rfl, hbg, hg, _⟩
  · refine ⟨none, 0, fun _ => False, by rw [h0]; rfl, ?_, fun _ h => h.elim⟩
    rw [List.eq_nil_of_length_eq_zero h0]
    exact .nil
  · refine ⟨some g, cap, fun b => S b ∨ b = g, rfl, ?_, fun b hb => ?_⟩
    · refine .row (by simpa using hl) (.inr rfl) (fun i => rows.getD i []) (fun i hi j u hu => ?_) (fun i y hy => ?_)
      · have hi2 : i < rows.length := by have := h.len; simp at hi; omega
        have hrow : rows[i]? = some (rows.getD i []) := by simp [hi2]
        have hc := h.own.cells (g := g) rfl (i * 8 + j) u (flat8 rows i j _ u h.eight hrow hu)
        have hadd : (⟨g, 0, none⟩ : Addr).add (i * 8 + j) = ⟨g, i * 8 + j, none⟩ := by unfold Addr.add; split <;> simp_all
        rw [hadd] at hc
        exact hc
      · have hi := (List.getElem?_eq_some_iff.1 hy).1
        have hi2 : i < rows.length := by have := h.len; simp at hi; omega
        have hrow : rows[i]? = some (rows.getD i []) := by simp [hi2]
        rw [List.getElem?_map] at hy
        obtain ⟨x, hx, rfl⟩ := Option.map_eq_some_iff.1 hy
        exact (h.tree i _ x hrow hx).keep (fun b hb => .inl hb) (fun _ _ _ _ h => h)
    · rcases hb with hb | rfl
      · exact ⟨(h.low b hb).1, (h.low b hb).2.1⟩
      · exact ⟨hbg, (Array.getElem?_eq_some_iff.1 hg).1⟩
end Go.Proofs.Ythmphmndpfkbcaa
