/-
  Expressions as trees, how a tree lies in memory (the blocks it lies in by a set), and what folding makes of it. The law of an append that tells where the new slice lies.
-/
import Derived.Test.YthmphmndpfkbcaaNumber
import Derived.Laws.AppendOwn
namespace Go.Proofs.Ythmphmndpfkbcaa
open Go.RowKit

/-- An expression: its kind, its place, its names, its number, its type, what it refers to, its operands. -/
inductive Ex where
  | mk (op at_ : Int) (name field : ByteArray) (n ty ref : Int) (args : List Ex)
theorem Ex.ind {P : Ex → Prop} (h : ∀ op at_ name field n ty ref args, (∀ x ∈ args, P x) → P (.mk op at_ name field n ty ref args)) : ∀ e, P e
  | .mk op at_ name field n ty ref args => h op at_ name field n ty ref args fun x _ => Ex.ind h x
def Ex.op : Ex → Int | .mk op _ _ _ _ _ _ _ => op
def Ex.n : Ex → Int | .mk _ _ _ _ n _ _ _ => n
def Ex.ty : Ex → Int | .mk _ _ _ _ _ ty _ _ => ty
def Ex.args : Ex → List Ex | .mk _ _ _ _ _ _ _ args => args

/-- How many values an operator should have (0: it is none). -/
def valsOf (op : Int) : Nat := if 4 ≤ op ∧ op ≤ 8 then 1 else if 9 ≤ op ∧ op ≤ 24 then 2 else 0
/-- The number that a whole operator makes, if it makes one, of operands that are folded. -/
def worksT (op ty : Int) : List Ex → Option Int
  | [x] => if valsOf op = 1 ∧ x.op = 0 then some (unV op ty x.n) else none
  | [x, y] => if valsOf op = 2 ∧ x.op = 0 ∧ y.op = 0 ∧ ¬ ((op = 10 ∨ op = 11) ∧ y.n = 0) then some (binV op x.ty x.n y.n) else none
  | _ => none
/-- An expression whose operands are folded, folded. -/
def topT (op at_ : Int) (name field : ByteArray) (n ty ref : Int) (args : List Ex) : Ex :=
  if op = 0 then .mk op at_ name field (wrapT ty n) ty ref args
  else match worksT op ty args with
    | some v => .mk 0 at_ ⟨#[]⟩ ⟨#[]⟩ (wrapT ty v) ty 0 []
    | none => .mk op at_ name field n ty ref args
mutual
def foldT : Ex → Ex
  | .mk op at_ name field n ty ref args => topT op at_ name field n ty ref (foldL args)
def foldL : List Ex → List Ex
  | [] => []
  | x :: l => foldT x :: foldL l
end
theorem foldL_eq : ∀ l, foldL l = l.map foldT
  | [] => by rw [foldL]; rfl
  | x :: l => by rw [foldL, foldL_eq l]; rfl
theorem foldL_len (l : List Ex) : (foldL l).length = l.length := by rw [foldL_eq]; simp

/-- A slice's value, by its block. -/
abbrev slV (A : Option Nat) (n c : Nat) : Value := .slice (A.map fun b => ⟨b, 0, none⟩) n c
mutual
/-- These eight cells are an expression, whose operands lie in blocks of S. -/
inductive ExIn (S : Nat → Prop) (w : World) : List Value → Ex → Prop
  | mk {op at_ : Int} {name field : ByteArray} {n ty ref : Int} {A : Option Nat} {c : Nat} {args : List Ex} (h : SlIn S w A args) :
      ExIn S w [.int .i64 op, .int .i64 at_, .string name, .string field, .int .i64 n, .int .i64 ty, .int .i64 ref, slV A args.length c] (.mk op at_ name field n ty ref args)
/-- At this block lie expressions, one behind the other. -/
inductive SlIn (S : Nat → Prop) (w : World) : Option Nat → List Ex → Prop
  | nil {A : Option Nat} : SlIn S w A []
  | row {b : Nat} {args : List Ex} (hb : args.length ≤ 1048576) (hS : S b) (rows : Nat → List Value)
      (hc : ∀ i, i < args.length → ∀ j v, (rows i)[j]? = some v → w.cell? ⟨b, i * 8 + j, none⟩ = some v)
      (h : ∀ i x, args[i]? = some x → ExIn S w (rows i) x) : SlIn S w (some b) args
end
theorem ExIn.sl {S : Nat → Prop} {w : World} {l : List Value} {e : Ex} (h : ExIn S w l e) : ∃ op at_ name field n ty ref A c args, e = .mk op at_ name field n ty ref args ∧ l = [.int .i64 op, .int .i64 at_, .string name, .string field, .int .i64 n, .int .i64 ty, .int .i64 ref, slV A args.length c] ∧ SlIn S w A args := by
  cases h with
  | mk h => exact ⟨_, _, _, _, _, _, _, _, _, _, rfl, rfl, h⟩
theorem ExIn.len {S : Nat → Prop} {w : World} {l : List Value} {e : Ex} (h : ExIn S w l e) : l.length = 8 := by cases h; rfl
mutual
theorem ExIn.keep {S S' : Nat → Prop} {w w' : World} (hS : ∀ b, S b → S' b) (hk : ∀ b, S b → ∀ j v, w.cell? ⟨b, j, none⟩ = some v → w'.cell? ⟨b, j, none⟩ = some v) {l : List Value} {e : Ex} : ExIn S w l e → ExIn S' w' l e
  | .mk h => .mk (SlIn.keep hS hk h)
theorem SlIn.keep {S S' : Nat → Prop} {w w' : World} (hS : ∀ b, S b → S' b) (hk : ∀ b, S b → ∀ j v, w.cell? ⟨b, j, none⟩ = some v → w'.cell? ⟨b, j, none⟩ = some v) {A : Option Nat} {l : List Ex} : SlIn S w A l → SlIn S' w' A l
  | .nil => .nil
  | .row hb hs rows hc h => .row hb (hS _ hs) rows (fun i hi j v hv => hk _ hs _ _ (hc i hi j v hv)) (fun i x hx => ExIn.keep hS hk (h i x hx))
end
end Go.Proofs.Ythmphmndpfkbcaa
