/-
  What is asked of the program's players, whatever they are made of; two players side by side.
-/
import Derived.Test.YtimlhckihkjifaaWk
namespace Go.Proofs.Ytimlhckihkjifaa
open Go.RowKit
set_option linter.unusedVariables false
set_option linter.unusedSimpArgs false
/-- A slice reads as the list; what it reads lies in T. -/
structure RdS (W : World) (T : Nat → Prop) (A : Option Addr) (l : List In) : Prop where
  len : l.length ≤ 9223372036854775807
  ok : ∀ x ∈ l, x.ok
  at_ : ∀ j x, l[j]? = some x → ∃ a, A = some a ∧ T a.block ∧ a.block < W.heap.size ∧ CellsA W (a.add (j * 3)) (ic x)
theorem Rd.toS {W : World} {B : Nat} {A : Option Addr} {l : List In} (h : Rd W B A l) (hB : B ≤ W.heap.size) : RdS W (fun k => k < B) A l :=
  ⟨h.len, h.ok, fun j x hj => by
    obtain ⟨a, e, hl, hc⟩ := h.at_ j x hj
    exact ⟨a, e, hl, by omega, hc⟩⟩
theorem RdS.toRd {W : World} {T : Nat → Prop} {A : Option Addr} {l : List In} (h : RdS W T A l) : Rd W W.heap.size A l :=
  ⟨h.len, h.ok, fun j x hj => by
    obtain ⟨a, e, _, hl, hc⟩ := h.at_ j x hj
    exact ⟨a, e, hl, hc⟩⟩
/-- Nothing but F has changed of what there was. -/
structure Only (F : Nat → Prop) (W W' : World) : Prop where
  os : W'.os = W.os
  tape : W'.tape = W.tape
  output : W'.output = W.output
  size : W.heap.size ≤ W'.heap.size
  blk : ∀ k, k < W.heap.size → ¬ F k → W'.heap[k]? = W.heap[k]?
theorem Only.below {F : Nat → Prop} {W W' : World} (h : Only F W W') {B : Nat} (hF : ∀ k, F k → B ≤ k) (hB : B ≤ W.heap.size) : Below B W W' :=
  ⟨h.os, h.tape, h.output, h.size, fun k hk => h.blk k (by omega) (fun hf => by have := hF k hf; omega)⟩
abbrev PlT := World → Addr → List In → Nat → (Nat → Prop) → (Nat → Prop) → Prop
/-- The program's players: PL says that a player lies there, of that list, behind so many cycles; S is all that it looks at, F what it may change. -/
structure PlayerOk (PL : PlT) : Prop where
  lt : ∀ W a l n S F, PL W a l n S F → (∀ k, S k → k < W.heap.size) ∧ ∀ k, F k → S k
  keep : ∀ W W' a l n S F, PL W a l n S F → (∀ k, S k → W'.heap[k]? = W.heap[k]?) → W.heap.size ≤ W'.heap.size → PL W' a l n S F
  new : ∀ W T A cap l, RdS W T A l → (chkL l).2 = 0 → l.length ≤ 1000 → Calls Try.prog 9 #[.slice A l.length cap] W fun e W' => (∃ a S F, e = .returned (.pointer (some a)) ∧ PL W' a l 0 S F ∧ (∀ k, F k → W.heap.size ≤ k) ∧ ∀ k, S k → T k ∨ W.heap.size ≤ k) ∧ Below W.heap.size W W'
  next : ∀ W a l n S F, PL W a l n S F → n ≤ 1000 → Calls Try.prog 11 #[.pointer (some a)] W fun e W' => (e = .returned (nv (atL l (((n + 1 : Nat)) : Int))) ∧ ∃ S' F', PL W' a l (n + 1) S' F' ∧ (∀ k, F' k → F k ∨ W.heap.size ≤ k) ∧ ∀ k, S' k → S k ∨ W.heap.size ≤ k) ∧ Only F W W'
  cycle : ∀ W a l n S F, PL W a l n S F → n ≤ 1000 → Calls Try.prog 13 #[.pointer (some a)] W fun e W' => e = .returned (.int .i64 (n : Int)) ∧ Below W.heap.size W W'
  upto : ∀ T A cap l (c : Int) W, RdS W T A l → l.length ≤ 1000 → -9223372036854775808 ≤ c → c ≤ 9223372036854775807 → Calls Try.prog 19 #[.slice A l.length cap, .int .i64 c] W fun e w' => (∃ A' cap' T', e = .returned (.slice A' (uptoL l c).length cap') ∧ RdS w' T' A' (uptoL l c) ∧ ∀ k, T' k → T k ∨ W.heap.size ≤ k) ∧ Below W.heap.size W w'
section
variable {PL : PlT} (H : PlayerOk PL)
include H
theorem pl_below {W W' : World} {a : Addr} {l : List In} {n : Nat} {S F : Nat → Prop} (h : PL W a l n S F) (hb : Below W.heap.size W W') : PL W' a l n S F :=
  H.keep W W' a l n S F h (fun k hk => hb.block k ((H.lt _ _ _ _ _ _ h).1 k hk)) hb.size
omit H in
/-- One player, that changes nothing below B. -/
def One (PL : PlT) (W : World) (B : Nat) (p : Addr) (l : List In) (n : Nat) : Prop := ∃ S F, PL W p l n S F ∧ ∀ k, F k → B ≤ k
omit H in
/-- Two players, that have nothing to do with each other. -/
def Two (PL : PlT) (W : World) (B : Nat) (p q : Addr) (l m : List In) (n k : Nat) : Prop :=
  ∃ S F S2 F2, PL W p l n S F ∧ PL W q m k S2 F2 ∧ (∀ j, F j → ¬ S2 j) ∧ (∀ j, F2 j → ¬ S j) ∧ (∀ j, F j → B ≤ j) ∧ ∀ j, F2 j → B ≤ j
theorem Two.below {W W' : World} {B : Nat} {p q : Addr} {l m : List In} {n k : Nat} (h : Two PL W B p q l m n k) (hb : Below W.heap.size W W') : Two PL W' B p q l m n k := by
  obtain ⟨S, F, S2, F2, h1, h2, h3⟩ := h
  exact ⟨S, F, S2, F2, pl_below H h1 hb, pl_below H h2 hb, h3⟩
omit H in
theorem Two.swap {W : World} {B : Nat} {p q : Addr} {l m : List In} {n k : Nat} (h : Two PL W B p q l m n k) : Two PL W B q p m l k n := by
  obtain ⟨S, F, S2, F2, h1, h2, h3, h4, h5, h6⟩ := h
  exact ⟨S2, F2, S, F, h2, h1, h4, h3, h6, h5⟩
theorem two_next {W : World} {B : Nat} {p q : Addr} {l m : List In} {n k : Nat} (h : Two PL W B p q l m n k) (hn : n ≤ 1000) (hB : B ≤ W.heap.size) :
    Calls Try.prog 11 #[.pointer (some p)] W fun e W' => (e = .returned (nv (atL l ((n + 1 : Nat) : Int))) ∧ Two PL W' B p q l m (n + 1) k) ∧ Below B W W' := by
  obtain ⟨S, F, S2, F2, h1, h2, h3, h4, h5, h6⟩ := h
  refine (H.next W p l n S F h1 hn).mono ?_
  rintro e W' ⟨⟨he, S', F', k1, k2, k3⟩, ho⟩
  have l1 := H.lt _ _ _ _ _ _ h1
  have l2 := H.lt _ _ _ _ _ _ h2
  refine ⟨⟨he, S', F', S2, F2, k1, H.keep W W' q m k S2 F2 h2 (fun j hj => ho.blk j (l2.1 j hj) (fun hf => h3 j hf hj)) ho.size, fun j hj hs => ?_, fun j hj hs => ?_, fun j hj => ?_, h6⟩, ho.below h5 hB⟩
  · rcases k2 j hj with h | h
    · exact h3 j h hs
    · have := l2.1 j hs
      omega
  · rcases k3 j hs with h | h
    · exact h4 j hj h
    · have := l2.1 j (l2.2 j hj)
      omega
  · rcases k2 j hj with h | h
    · exact h5 j h
    · omega
theorem two_next2 {W : World} {B : Nat} {p q : Addr} {l m : List In} {n k : Nat} (h : Two PL W B p q l m n k) (hk : k ≤ 1000) (hB : B ≤ W.heap.size) :
    Calls Try.prog 11 #[.pointer (some q)] W fun e W' => (e = .returned (nv (atL m ((k + 1 : Nat) : Int))) ∧ Two PL W' B p q l m n (k + 1)) ∧ Below B W W' :=
  (two_next H h.swap hk hB).mono fun e W' q => ⟨⟨q.1.1, q.1.2.swap⟩, q.2⟩
theorem two_cycle {W : World} {B : Nat} {p q : Addr} {l m : List In} {n k : Nat} (h : Two PL W B p q l m n k) (hn : n ≤ 1000) : Calls Try.prog 13 #[.pointer (some p)] W fun e W' => e = .returned (.int .i64 (n : Int)) ∧ Below W.heap.size W W' := by
  obtain ⟨S, F, S2, F2, h1, _⟩ := h
  exact H.cycle W p l n S F h1 hn
end
end Go.Proofs.Ytimlhckihkjifaa
