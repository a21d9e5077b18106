/-
  General laws of my own, at any seat: whatever is made of integers and truths, in arrays and structs, is the same as itself: what == and != answer. No program in sight.
-/
import Derived.Test.YtimlhckihkjifaaKit
import Derived.DeepKeys
import Derived.Laws.StructEq
namespace Go.Proofs.Ytimlhckihkjifaa
open Go.RowKit
set_option linter.unusedVariables false
section
variable (P : Program)
/-- Cells that a value of this type may have, and that are the same as themselves. -/
def selfAt : Nat → TypeId → List Value → Bool
  | 0, _, _ => false
  | d + 1, t, cs =>
    match P.underlying t with
    | some .bool => match cs with
      | [.bool _] => true
      | _ => false
    | some (.int _) => match cs with
      | [.int _ _] => true
      | _ => false
    | some (.array n e) => (P.info? e).isSome && (List.range n).all fun i => selfAt d e ((cs.drop (i * P.cellsOf e)).take (P.cellsOf e))
    | some (.struct fs) => !P.stoodInHeld t && fs.toList.all fun f => f.name != "_" && (P.info? f.type).isSome && selfAt d f.type ((cs.drop f.offset).take (P.cellsOf f.type))
    | _ => false
/-- The value of these cells. -/
def ofCells (t : TypeId) (cs : List Value) : Value :=
  match P.underlying t with
  | some (.array _ _) | some (.struct _) => .agg cs.toArray
  | _ => cs.headD undef
variable {P}
theorem self_part (w : World) {d : Nat} {e : TypeId} {off : Nat} {xs : Array Value} (hi : (P.info? e).isSome = true) (h : selfAt P d e ((xs.toList.drop off).take (P.cellsOf e)) = true) :
    (part e xs off).run P w = .ok (ofCells P e ((xs.toList.drop off).take (P.cellsOf e))) w := by
  obtain ⟨i, hi⟩ := Option.isSome_iff_exists.1 hi
  have hl : (xs.extract off (off + P.cellsOf e)).toList = (xs.toList.drop off).take (P.cellsOf e) := by
    rw [Array.toList_extract]
    simp [List.extract]
  have hl2 : xs.extract off (off + P.cellsOf e) = ((xs.toList.drop off).take (P.cellsOf e)).toArray := by rw [← hl, Array.toArray_toList]
  cases d with
  | zero => simp [selfAt] at h
  | succ d =>
    unfold selfAt at h
    cases hu : P.underlying e with
    | none => simp [hu] at h
    | some kd =>
      cases kd
      case bool =>
        simp only [hu] at h
        split at h
        · rename_i b hc
          rw [hc]
          have hp : P.plainKey e = true := by simp [Program.plainKey, hu]
          simp only [ofCells, hu]
          exact run_part_plain w hp (getElem?_of_chunk hc)
        · cases h
      case int q =>
        simp only [hu] at h
        split at h
        · rename_i k n hc
          rw [hc]
          have hp : P.plainKey e = true := by simp [Program.plainKey, hu]
          simp only [ofCells, hu]
          exact run_part_plain w hp (getElem?_of_chunk hc)
        · cases h
      case array n e' =>
        simp only [ofCells, hu]
        rw [← hl2]
        simp only [part, isAgg, Sem.run_bind, run_underlying hu, run_sizeOf w hi, Result.andThen_ok, Sem.run_pure, if_true]
      case struct fs =>
        simp only [ofCells, hu]
        rw [← hl2]
        simp only [part, isAgg, Sem.run_bind, run_underlying hu, run_sizeOf w hi, Result.andThen_ok, Sem.run_pure, if_true]
      all_goals (simp [hu] at h; done)
theorem self_items (w : World) (dd d : Nat) {e : TypeId} (hi : (P.info? e).isSome = true) (xs : Array Value) (IH : ∀ cs, selfAt P d e cs = true → (Op.equalIn dd e (ofCells P e cs) (ofCells P e cs)).run P w = .ok true w) :
    ∀ is : List Nat, (is.all fun i => selfAt P d e ((xs.toList.drop (i * P.cellsOf e)).take (P.cellsOf e))) = true → (Op.eqItems dd e (P.cellsOf e) xs xs is).run P w = .ok true w
  | [], _ => by simp [Op.eqItems]
  | i :: is, h => by
    simp only [List.all_cons, Bool.and_eq_true] at h
    have p := self_part w hi h.1
    simp only [Op.eqItems, Sem.run_bind, p, IH _ h.1, Result.andThen_ok]
    simpa using self_items w dd d hi xs IH is h.2
theorem self_fields (w : World) (dd d : Nat) (xs : Array Value) (IH : ∀ e cs, selfAt P d e cs = true → (Op.equalIn dd e (ofCells P e cs) (ofCells P e cs)).run P w = .ok true w) :
    ∀ fs : List Field, (fs.all fun f => f.name != "_" && (P.info? f.type).isSome && selfAt P d f.type ((xs.toList.drop f.offset).take (P.cellsOf f.type))) = true → (Op.eqFields dd xs xs fs).run P w = .ok true w
  | [], _ => by simp [Op.eqFields]
  | f :: fs, h => by
    simp only [List.all_cons, Bool.and_eq_true, bne_iff_ne] at h
    obtain ⟨⟨⟨hn, hi⟩, hf⟩, hr⟩ := h
    have p := self_part w hi hf
    simp only [Op.eqFields, hn, ne_eq, not_false_eq_true, if_true, Sem.run_bind, p, IH _ _ hf, Result.andThen_ok]
    simpa using self_fields w dd d xs IH fs (by simpa [Bool.and_eq_true, bne_iff_ne] using hr)
theorem self_at (w : World) (c : Nat) : ∀ (d : Nat) (t : TypeId) (cs : List Value), selfAt P d t cs = true → (Op.equalIn (c + d) t (ofCells P t cs) (ofCells P t cs)).run P w = .ok true w
  | 0, _, _, h => by simp [selfAt] at h
  | d + 1, t, cs, h => by
    unfold selfAt at h
    cases hu : P.underlying t with
    | none => simp [hu] at h
    | some kd =>
      cases kd
      case bool =>
        simp only [hu] at h
        split at h
        · rename_i b
          simp only [ofCells, hu]
          exact (run_equalIn_bool' w (c + d) t b b hu).trans (by simp)
        · cases h
      case int q =>
        simp only [hu] at h
        split at h
        · rename_i k n
          simp only [ofCells, hu]
          exact (run_equalIn_int w (c + d) t k q n n hu).trans (by simp)
        · cases h
      case array n e =>
        simp only [hu, Bool.and_eq_true] at h
        obtain ⟨i, hi⟩ := Option.isSome_iff_exists.1 h.1
        simp only [ofCells, hu]
        rw [show c + (d + 1) = (c + d) + 1 from rfl, run_equalIn_array w (c + d) _ _ hu hi]
        exact self_items w (c + d) d h.1 cs.toArray (fun ds hd => self_at w c d e ds hd) _ h.2
      case struct fs =>
        simp only [hu, Bool.and_eq_true, Bool.not_eq_true'] at h
        simp only [ofCells, hu]
        have hf : P.fieldsOf t = fs := by simp [Program.fieldsOf, hu]
        rw [show c + (d + 1) = (c + d) + 1 from rfl, run_equalIn_struct w (c + d) t _ _ (by rw [hf]; exact hu) h.1, hf]
        exact self_fields w (c + d) d cs.toArray (fun e ds hd => self_at w c d e ds hd) fs.toList h.2
      all_goals (simp [hu] at h; done)
/-- A struct, or an array, is the same as itself. -/
theorem self_eq (w : World) (t : TypeId) (cs : List Value) (ht : ofCells P t [] = .agg #[]) (h : selfAt P 6 t cs = true) : (Op.equalIn 10000 t (.agg cs.toArray) (.agg cs.toArray)).run P w = .ok true w := by
  have e : ofCells P t cs = .agg cs.toArray := by
    unfold ofCells at ht ⊢
    split <;> simp_all [undef]
  have := self_at w 9994 6 t cs h
  rwa [e] at this
theorem self_eql (w : World) (t : TypeId) (cs : List Value) (ht : ofCells P t [] = .agg #[]) (h : selfAt P 6 t cs = true) : (binOp .eql t (.agg cs.toArray) (.agg cs.toArray)).run P w = .ok (.bool true) w := by
  rw [run_eql_struct, self_eq w t cs ht h]
  rfl
theorem self_neq (w : World) (t : TypeId) (cs : List Value) (ht : ofCells P t [] = .agg #[]) (h : selfAt P 6 t cs = true) : (binOp .neq t (.agg cs.toArray) (.agg cs.toArray)).run P w = .ok (.bool false) w := by
  rw [run_neq_struct, self_eq w t cs ht h]
  rfl
end
end Go.Proofs.Ytimlhckihkjifaa
