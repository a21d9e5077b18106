/-
  Slices of bytes: what one reads as, what the call itself owns; 'behind' by its contract: what is appended lies in new memory. No conditions but that the slices together stay below 2^47 bytes.
-/
import Derived.Test.YtmmdkoomceikiaaDoorClass
import Derived.StillTactics
namespace Go.Proofs.YtmmdkoomceikiaaDoor
open Go.RowKit

/-- A slice at A that holds the bytes l, all of it below block B. -/
structure RdB (w : World) (B : Nat) (A : Option Addr) (l : List Nat) : Prop where
  none_ : A = none → l = []
  low : ∀ a, A = some a → l ≠ [] → a.block < B
  cells : ∀ a, A = some a → ∀ (j x : Nat), l[j]? = some x → w.cell? (a.add j) = some (.int .u8 (x : Int))

def bvals (l : List Nat) : List Value := l.map fun x : Nat => .int .u8 (x : Int)
theorem bvals_length (l : List Nat) : (bvals l).length = l.length := by simp [bvals]
theorem bvals_at {l : List Nat} {j : Nat} {u : Value} (h : (bvals l)[j]? = some u) : ∃ x, l[j]? = some x ∧ u = .int .u8 (x : Int) := by
  simp only [bvals, List.getElem?_map, Option.map_eq_some_iff] at h
  obtain ⟨x, h1, h2⟩ := h
  exact ⟨x, h1, h2.symm⟩
theorem bvals_one (l : List Nat) : ∀ u ∈ bvals l, u.oneCell' = true := by
  intro u hu
  simp only [bvals, List.mem_map] at hu
  obtain ⟨x, _, rfl⟩ := hu
  rfl
theorem bvals_append (l m : List Nat) : bvals l ++ bvals m = bvals (l ++ m) := by simp [bvals]
theorem bvals_nil : bvals [] = [] := rfl

/-- The slice value v is of the call's own memory, from block 'base' on, and holds the bytes l. -/
def Own (w : World) (base : Nat) (v : Value) (l : List Nat) : Prop := w.ownsRow base 5 1 v l.length (bvals l)

theorem addr_add_block (a : Addr) (n : Nat) : (a.add n).block = a.block := by
  unfold Addr.add
  split <;> rfl

theorem RdB.nil_ (w : World) (B : Nat) : RdB w B none [] := ⟨fun _ => rfl, (fun _ h => by cases h), (fun _ h => by cases h)⟩
theorem RdB.below {w w' : World} {B B' : Nat} {A : Option Addr} {l : List Nat} (h : RdB w B A l) (hb : Below B' w w') (hB : B ≤ B') : RdB w' B A l :=
  ⟨h.none_, h.low, fun a ha j x hx => (hb.cell (p := a.add j) (by rw [addr_add_block]; have := h.low a ha (fun e => by subst e; simp at hx); omega)).trans (h.cells a ha j x hx)⟩
theorem RdB.more {w : World} {B B' : Nat} {A : Option Addr} {l : List Nat} (h : RdB w B A l) (hB : B ≤ B') : RdB w B' A l :=
  ⟨h.none_, fun a ha hl => by have := h.low a ha hl; omega, h.cells⟩

theorem Own.nil_ (w : World) (base : Nat) : Own w base (.slice none 0 0) [] := World.ownsRow_nil w base _ 1
theorem Own.alloc {w : World} {base : Nat} {v : Value} {l : List Nat} (h : Own w base v l) (o : Obj) : Own (w.alloc o) base v l := World.ownsRow.alloc h o
/-- What is owned is a slice; it reads as its bytes. -/
theorem Own.form {w : World} {base : Nat} {v : Value} {l : List Nat} (h : Own w base v l) : ∃ A cap, v = .slice A l.length cap ∧ l.length ≤ cap ∧ (A = none → cap = 0) ∧ cap ≤ maxLen ∧ RdB w w.heap.size A l ∧ (∀ a, A = some a → base ≤ a.block ∧ a.off = 0 ∧ a = ⟨a.block, 0, none⟩) := by
  rcases h.2 with ⟨rfl, h0⟩ | ⟨g, cap, cur, rfl, hg, hh, hn, hc, hs, ht⟩
  · have hl : l = [] := List.eq_nil_of_length_eq_zero h0
    subst hl
    exact ⟨none, 0, rfl, Nat.le_refl _, fun _ => rfl, Nat.zero_le _, RdB.nil_ w _, fun _ h => by cases h⟩
  · have hlt : g < w.heap.size := by
      rcases Nat.lt_or_ge g w.heap.size with h1 | h1
      · exact h1
      · rw [Array.getElem?_eq_none h1] at hh; cases hh
    refine ⟨some ⟨g, 0, none⟩, cap, rfl, hn, fun h => (by cases h), hc, ⟨fun h => (by cases h), fun a ha _ => ?_, fun a ha j x hx => ?_⟩, fun a ha => ?_⟩
    · cases ha; exact hlt
    · cases ha
      refine World.ownsRow.cells h (g := g) rfl j _ ?_
      simp only [bvals, List.getElem?_map, hx, Option.map_some]
    · cases ha; exact ⟨hg, rfl, rfl⟩
theorem Own.below {w w' : World} {base B : Nat} {v : Value} {l : List Nat} (h : Own w base v l) (hb : Below B w w') (hB : w.heap.size ≤ B) : Own w' base v l := by
  refine ⟨h.1, ?_⟩
  rcases h.2 with h2 | ⟨g, cap, cur, hv, hg, hh, r⟩
  · exact Or.inl h2
  · have hlt : g < w.heap.size := by
      rcases Nat.lt_or_ge g w.heap.size with h1 | h1
      · exact h1
      · rw [Array.getElem?_eq_none h1] at hh; cases hh
    exact Or.inr ⟨g, cap, cur, hv, hg, (hb.block g (by omega)).trans hh, r⟩
theorem Own.mono {w : World} {base base' : Nat} {v : Value} {l : List Nat} (h : Own w base v l) (hB : base' ≤ base) : Own w base' v l := by
  refine ⟨h.1, ?_⟩
  rcases h.2 with h2 | ⟨g, cap, cur, hv, hg, r⟩
  · exact Or.inl h2
  · exact Or.inr ⟨g, cap, cur, hv, by omega, r⟩

theorem u8info : (Tryd.prog.info? 5).map (fun i => (i.zero, i.size, i.bytes)) = some (some (.int .u8 0), 1, 1) := by kernel_rfl

set_option maxHeartbeats 400000 in
theorem behind_any (A : Option Addr) (n c : Nat) (l : List Nat) (ad : Addr) (m c' : Nat) (news : List Nat) (w : World) (hl : l.length = n) (hc : n ≤ c) (hA : RdB w w.heap.size A l) (hm : news.length = m) (h0 : 0 < m)
    (hnews : ∀ (j x : Nat), news[j]? = some x → w.cell? (ad.add j) = some (.int .u8 (x : Int))) (hsz : n + m ≤ 140737488355328) :
    Calls Tryd.prog 46 #[.slice A n c, .slice (some ad) m c'] w fun e w' => ∃ v, e = .returned v ∧ Own w' w.heap.size v (l ++ news) ∧ Below w.heap.size w w' := by
  obtain ⟨i0, hi0, hz0, hz1, hz2⟩ := info_parts u8info
  have hnone : A = none → n = 0 ∧ n = 0 := fun h => by
    have := hA.none_ h
    subst this
    simp at hl
    exact ⟨hl.symm, hl.symm⟩
  have g1 : (bvals l).length = n * 1 := by rw [bvals_length, hl, Nat.mul_one]
  have g2 : (bvals news).length = m * 1 := by rw [bvals_length, hm, Nat.mul_one]
  have g3 : ∀ b, A = some b → ∀ j u, (bvals l)[j]? = some u → w.cell? (b.add j) = some u := fun b hb j u hu => by
    obtain ⟨x, hx, rfl⟩ := bvals_at hu
    exact hA.cells b hb j x hx
  have g4 : ∀ j u, (bvals news)[j]? = some u → w.cell? (ad.add j) = some u := fun j u hu => by
    obtain ⟨x, hx, rfl⟩ := bvals_at hu
    exact hnews j x hx
  have H1 := Lib.hid hnone
  have H2 := Lib.hid g1
  have H3 := Lib.hid g2
  have H4 := Lib.hid g3
  have H5 := Lib.hid g4
  have H6 := Lib.hid hl
  have H7 := Lib.hid hm
  have H8 := Lib.hid hnews
  have H9 := Lib.hid hz0
  have H10 := Lib.hid hz1
  have H11 := Lib.hid hz2
  have H12 := Lib.hid hi0
  clear hnone g1 g2 g3 g4 hl hm hnews hz0 hz1 hz2 hi0
  go_enter Tryd.func46, Tryd.ntmps46
  go_wp2_with (at_builtin; refine wpList_append_grows _ rfl (.tmp 10) (.tmp 11) _ rfl 5 i0 _ 1 1 Tryd.underlying43 H12.out H9.out H10.out H11.out rfl (by omega) A n n (bvals l) rfl H1.out H2.out H4.out ad m c' (bvals news) rfl H3.out H5.out (bvals_one _) (by omega) (by simp only [maxLen]; omega) (by omega) ?_; intro v1 w1 hown1 hg1)
  go_ret
  refine ⟨v1, rfl, ?_, (Below.refl _ _).grown hg1 (Nat.le_refl _) (fun k hk => by cases hk)⟩
  rw [Own, List.length_append, H6.out, H7.out, ← bvals_append]
  exact hown1
end Go.Proofs.YtmmdkoomceikiaaDoor
