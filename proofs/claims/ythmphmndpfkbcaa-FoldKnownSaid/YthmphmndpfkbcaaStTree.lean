/-
  Statements as trees, how they lie in memory, what folding makes of them.
-/
import Derived.Test.YthmphmndpfkbcaaLawBin
namespace Go.Proofs.Ythmphmndpfkbcaa
open Go.RowKit
/-- A statement. -/
inductive St where
  | mk (op at_ line : Int) (name field func : ByteArray) (reg ty end_ : Int) (e : List Ex) (body els : List St)
theorem St.ind {P : St → Prop} (h : ∀ op at_ line name field func reg ty end_ e body els, (∀ x ∈ body, P x) → (∀ x ∈ els, P x) → P (.mk op at_ line name field func reg ty end_ e body els)) : ∀ e, P e
  | .mk op at_ line name field func reg ty end_ e body els => h op at_ line name field func reg ty end_ e body els (fun x _ => St.ind h x) (fun x _ => St.ind h x)
mutual
def foldS : St → St
  | .mk op at_ line name field func reg ty end_ e body els => .mk op at_ line name field func reg ty end_ (e.map foldT) (foldSL body) (foldSL els)
def foldSL : List St → List St
  | [] => []
  | x :: l => foldS x :: foldSL l
end
theorem foldSL_eq : ∀ l, foldSL l = l.map foldS
  | [] => by rw [foldSL]; rfl
  | x :: l => by rw [foldSL, foldSL_eq l]; rfl
/-- The cells of a statement. -/
abbrev stL (op at_ line : Int) (name field func : ByteArray) (reg ty end_ : Int) (A : Option Nat) (la ca : Nat) (B : Option Nat) (lb cb : Nat) (C : Option Nat) (lc cc : Nat) : List Value :=
  [.int .i64 op, .int .i64 at_, .int .i64 line, .string name, .string field, .string func, .int .i64 reg, .int .i64 ty, .int .i64 end_, slV A la ca, slV B lb cb, slV C lc cc]
mutual
inductive StIn (S : Nat → Prop) (w : World) : List Value → St → Prop
  | mk {op at_ line : Int} {name field func : ByteArray} {reg ty end_ : Int} {A B C : Option Nat} {ca cb cc : Nat} {e : List Ex} {body els : List St} (h : SlIn S w A e) (h1 : SsIn S w B body) (h2 : SsIn S w C els) :
      StIn S w (stL op at_ line name field func reg ty end_ A e.length ca B body.length cb C els.length cc) (.mk op at_ line name field func reg ty end_ e body els)
inductive SsIn (S : Nat → Prop) (w : World) : Option Nat → List St → Prop
  | nil {A : Option Nat} : SsIn S w A []
  | row {b : Nat} {args : List St} (hb : args.length ≤ 1048576) (hS : S b) (rows : Nat → List Value)
      (hc : ∀ i, i < args.length → ∀ j v, (rows i)[j]? = some v → w.cell? ⟨b, i * 12 + j, none⟩ = some v)
      (h : ∀ i x, args[i]? = some x → StIn S w (rows i) x) : SsIn S w (some b) args
end
theorem StIn.len {S : Nat → Prop} {w : World} {l : List Value} {e : St} (h : StIn S w l e) : l.length = 12 := by cases h; rfl
mutual
theorem StIn.keep {S S' : Nat → Prop} {w w' : World} (hS : ∀ b, S b → S' b) (hk : ∀ b, S b → ∀ j v, w.cell? ⟨b, j, none⟩ = some v → w'.cell? ⟨b, j, none⟩ = some v) {l : List Value} {e : St} : StIn S w l e → StIn S' w' l e
  | .mk h h1 h2 => .mk (SlIn.keep hS hk h) (SsIn.keep hS hk h1) (SsIn.keep hS hk h2)
theorem SsIn.keep {S S' : Nat → Prop} {w w' : World} (hS : ∀ b, S b → S' b) (hk : ∀ b, S b → ∀ j v, w.cell? ⟨b, j, none⟩ = some v → w'.cell? ⟨b, j, none⟩ = some v) {A : Option Nat} {l : List St} : SsIn S w A l → SsIn S' w' A l
  | .nil => .nil
  | .row hb hs rows hc h => .row hb (hS _ hs) rows (fun i hi j v hv => hk _ hs _ _ (hc i hi j v hv)) (fun i x hx => StIn.keep hS hk (h i x hx))
end
theorem SsIn.under {S : Nat → Prop} {w w' : World} {A : Option Nat} {l : List St} {B : Nat} (h : SsIn S w A l) (hb : Below B w w') (hl : ∀ b, S b → b < B) : SsIn S w' A l :=
  h.keep (fun _ h => h) fun b hS j v hv => by
    rw [hb.cell (p := ⟨b, j, none⟩) (hl b hS)]
    exact hv
theorem SsIn.at {S : Nat → Prop} {w : World} {b : Nat} {args : List St} (h : SsIn S w (some b) args) (k : Nat) (x : St) (hx : args[k]? = some x) :
    S b ∧ ∃ op at_ line name field func reg ty end_ A ca B cb C cc e body els, x = .mk op at_ line name field func reg ty end_ e body els ∧ SlIn S w A e ∧ SsIn S w B body ∧ SsIn S w C els ∧ CellsAt w b (k * 12) (stL op at_ line name field func reg ty end_ A e.length ca B body.length cb C els.length cc) := by
  cases h with
  | nil => simp at hx
  | row hb hS rows hc h =>
    have hr := h k x hx
    have hk := (List.getElem?_eq_some_iff.1 hx).1
    have hc2 : CellsAt w b (k * 12) (rows k) := fun j v hv => hc k hk j v hv
    generalize rows k = r at hr hc2
    cases hr with
    | mk h h1 h2 => exact ⟨hS, _, _, _, _, _, _, _, _, _, _, _, _, _, _, _, _, _, _, rfl, h, h1, h2, hc2⟩
end Go.Proofs.Ythmphmndpfkbcaa
