/-
  The document's Script by its contract. Made by wip/genworldref.py.
-/
import Derived.Test.YtimlhckihkjifaaRf
namespace Go.Proofs.Ytimlhckihkjifaa
open Go.RowKit
set_option linter.unusedVariables false
set_option linter.unusedSimpArgs false
structure Dr where
  f : Nat
  k : Nat
  v : Nat
def dc (d : Dr) : List Value := [.int .u8 (d.f : Int), .int .u8 (d.k : Int), .int .u8 (d.v : Int)]
structure Dr.ok (d : Dr) : Prop where
  f : d.f < 256
  k : d.k < 256
  v : d.v < 256
structure DIn (W : World) (B : Nat) (A : Option Addr) (l : List Dr) : Prop where
  len : l.length ≤ 9223372036854775807
  ok : ∀ x ∈ l, x.ok
  at_ : ∀ j x, l[j]? = some x → ∃ a, A = some a ∧ a.block < B ∧ CellsA W (a.add (j * 3)) (dc x)
theorem DIn.below {W W' : World} {B C : Nat} {A : Option Addr} {l : List Dr} (h : DIn W B A l) (hb : Below C W W') (hB : B ≤ C) : DIn W' B A l :=
  ⟨h.len, h.ok, fun j x hj => by
    obtain ⟨a, e, hl, hc⟩ := h.at_ j x hj
    exact ⟨a, e, hl, hc.below hb (by rw [add_block]; omega)⟩⟩
theorem DIn.get {W : World} {B : Nat} {A : Option Addr} {l : List Dr} (h : DIn W B A l) {j : Nat} {x : Dr} (hj : l[j]? = some x) : ∃ a, A = some a ∧ a.block < B ∧ x.ok ∧ ∀ X, Below B W X → X.cell? (a.add (j * 3)) = some (.int .u8 (x.f : Int)) ∧ X.cell? ⟨(a.add (j * 3)).block, (a.add (j * 3)).off + 1, none⟩ = some (.int .u8 (x.k : Int)) ∧ X.cell? ⟨(a.add (j * 3)).block, (a.add (j * 3)).off + 2, none⟩ = some (.int .u8 (x.v : Int)) := by
  obtain ⟨a, e, hl, hc⟩ := h.at_ j x hj
  refine ⟨a, e, hl, h.ok x (List.mem_of_getElem? hj), fun X hX => ?_⟩
  have hc' := hc.below hX (by rw [add_block]; omega)
  exact ⟨hc' 0 _ rfl, hc' 1 _ rfl, hc' 2 _ rfl⟩
/-- What a draft is made into, behind those that are there. -/
def rawS (at_ : Int) (d : Dr) : In := ⟨at_ + ((d.f % 20 : Nat) : Int), ((d.k % 3 : Nat) : Int), d.v⟩
def mkS (acc : List In) (at_ : Int) (d : Dr) : In := match acc.getLast? with
  | none => rawS at_ d
  | some y => if aheadI y (rawS at_ d) = true then rawS at_ d else { rawS at_ d with a := (rawS at_ d).a + 1 }
def scrS : List Dr → Nat → List In × Int
  | _, 0 => ([], 1)
  | l, k + 1 => match l[k]? with
    | none => scrS l k
    | some d => ((scrS l k).1 ++ [mkS (scrS l k).1 (scrS l k).2 d], (mkS (scrS l k).1 (scrS l k).2 d).a)
def scriptL (l : List Dr) : List In := (scrS l (min l.length 100)).1
theorem scr_len (l : List Dr) : ∀ k, (scrS l k).1.length ≤ k
  | 0 => by simp [scrS]
  | k + 1 => by
    have := scr_len l k
    unfold scrS
    split
    · omega
    · simp; omega
theorem mk_a (acc : List In) (at_ : Int) (d : Dr) : at_ ≤ (mkS acc at_ d).a ∧ (mkS acc at_ d).a ≤ at_ + 20 := by
  have h : ((d.f % 20 : Nat) : Int) ≤ 19 := by omega
  have h0 : (0 : Int) ≤ ((d.f % 20 : Nat) : Int) := by omega
  unfold mkS
  split
  · show at_ ≤ at_ + _ ∧ at_ + _ ≤ at_ + 20
    omega
  · split
    · show at_ ≤ at_ + _ ∧ at_ + _ ≤ at_ + 20
      omega
    · show at_ ≤ at_ + _ + 1 ∧ at_ + _ + 1 ≤ at_ + 20
      omega
theorem mk_k (acc : List In) (at_ : Int) (d : Dr) : (mkS acc at_ d).k = ((d.k % 3 : Nat) : Int) ∧ (mkS acc at_ d).v = d.v := by
  unfold mkS
  split
  · exact ⟨rfl, rfl⟩
  · split <;> exact ⟨rfl, rfl⟩
theorem scr_at (l : List Dr) : ∀ k : Nat, 1 ≤ (scrS l k).2 ∧ (scrS l k).2 ≤ 1 + 20 * (k : Int)
  | 0 => by simp [scrS]
  | k + 1 => by
    have h := scr_at l k
    unfold scrS
    split
    · omega
    · rename_i d _
      have := mk_a (scrS l k).1 (scrS l k).2 d
      simp only
      omega
/-- All lie between 1 and the last one's. -/
theorem scr_all {l : List Dr} (hl : ∀ d ∈ l, d.ok) : ∀ k : Nat, k ≤ 100 → ∀ x ∈ (scrS l k).1, 1 ≤ x.a ∧ x.a ≤ 2001 ∧ 0 ≤ x.k ∧ x.k ≤ 2 ∧ x.v < 256
  | 0, _, x, hx => by simp [scrS] at hx
  | k + 1, hk, x, hx => by
    unfold scrS at hx
    split at hx
    · exact scr_all hl k (by omega) x hx
    · rename_i d hd
      simp only [List.mem_append, List.mem_singleton] at hx
      rcases hx with hx | rfl
      · exact scr_all hl k (by omega) x hx
      · have h1 := mk_a (scrS l k).1 (scrS l k).2 d
        have h2 := mk_k (scrS l k).1 (scrS l k).2 d
        have h3 := scr_at l k
        have h4 := (hl d (List.mem_of_getElem? hd)).v
        rw [h2.1, h2.2]
        omega
theorem scr_ok {l : List Dr} (hl : ∀ d ∈ l, d.ok) {k : Nat} (hk : k ≤ 100) : ∀ x ∈ (scrS l k).1, x.ok := fun x hx => by
  have := scr_all hl k hk x hx
  exact ⟨by omega, by omega, by omega, by omega, this.2.2.2.2⟩
theorem scr_last {l : List Dr} (hl : ∀ d ∈ l, d.ok) {k : Nat} (hk : k ≤ 100) : ∀ y, (scrS l k).1.getLast? = some y → y.ok := fun y hy => scr_ok hl hk y (List.mem_of_getLast? hy)
end Go.Proofs.Ytimlhckihkjifaa
