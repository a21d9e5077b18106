/-
  Gp: my texts of that device in one, in a namespace of its own. Made by wip/tools/merge.py.
-/
import Derived.Test.YtkodoldkfeopdaaVRow
import Derived.Laws.StructEq
import Derived.IntWalk
/- G -/
namespace Go.Proofs.Ytkodoldkfeopdaa.Gp
open Go.RowKit
set_option linter.unusedVariables false
set_option maxRecDepth 100000
def gc (o i e : Nat) : List Value := [.int .u8 (o : Int), .int .u8 (i : Int), .int .u8 (e : Int)]
def gv (o i e : Nat) : Value := .agg #[.int .u8 (o : Int), .int .u8 (i : Int), .int .u8 (e : Int)]
theorem gv_eq (o i e : Nat) : gv o i e = .agg (gc o i e).toArray := rfl
theorem gc_one (o i e : Nat) : ∀ u ∈ gc o i e, u.oneCell' = true := by
  intro u hu
  simp only [gc, List.mem_cons, List.not_mem_nil, or_false] at hu
  rcases hu with rfl | rfl | rfl <;> rfl
/-- The lowest byte. -/
def lowN (v : Int) : Nat := (v % 256).toNat
theorem lowN_lt (v : Int) : lowN v < 256 := by
  have := Int.emod_nonneg v (show (256 : Int) ≠ 0 by decide)
  have := Int.emod_lt_of_pos v (show (0 : Int) < 256 by decide)
  unfold lowN
  omega
theorem lowN_cast (v : Int) : ((lowN v : Nat) : Int) = v % 256 := by
  have := Int.emod_nonneg v (show (256 : Int) ≠ 0 by decide)
  unfold lowN
  omega
/-- Is pin n's bit set? -/
def bitB (v n : Nat) : Bool := v / 2 ^ n % 2 == 1
def peekN (o i e : Nat) (reg : Int) : Int := if reg = 0 then o else if reg = 1 then i else if reg = 2 then e else 0
def outN (o : Nat) (reg v : Int) : Nat := if reg = 0 then lowN v else o
def edgeN (e : Nat) (reg v : Int) : Nat := if reg = 2 then lowN v else e
/-- Which of the pins below k rise. -/
def riseK (was is k : Nat) : List Nat := (List.range k).filter fun n => !bitB was n && bitB is n
theorem riseK_succ (was is k : Nat) : riseK was is (k + 1) = if !bitB was k && bitB is k then riseK was is k ++ [k] else riseK was is k := by
  unfold riseK
  rw [List.range_succ, List.filter_append]
  by_cases h : (!bitB was k && bitB is k) = true
  · simp [h]
  · simp [h]
theorem riseK_lt (was is k : Nat) : ∀ n ∈ riseK was is k, n < k := fun n hn => by simpa using (List.mem_filter.1 hn).1
theorem riseK_len (was is k : Nat) : (riseK was is k).length ≤ k := Nat.le_trans (List.length_filter_le _ _) (by simp)
def iv (n : Nat) : Value := .int .i64 (n : Int)
/-- Of the pins of l, is one looked at? -/
def asksL (e : Nat) (l : List Nat) : Bool := l.any (bitB e)
theorem asksL_snoc (e : Nat) (l : List Nat) (n : Nat) : asksL e (l ++ [n]) = (asksL e l || bitB e n) := by simp [asksL]
/-! ### are two the same? -/
theorem run_eq_g (t : TypeId) (w : World) (ht : Try.prog.underlying t = Try.prog.underlying 28) (hp : Try.prog.stoodInHeld t = false) (o i e o' i' e' : Nat) :
    (Op.equalIn 10000 t (gv o i e) (gv o' i' e')).run Try.prog w = .ok (decide (o = o' ∧ i = i' ∧ e = e')) w := by
  have hf : Try.prog.fieldsOf t = #[⟨"Out", 5, 0, false, "", "", 0⟩, ⟨"In", 5, 1, false, "", "", 1⟩, ⟨"Edge", 5, 2, false, "", "", 2⟩] := by
    unfold Program.fieldsOf
    rw [ht]
    rfl
  have hpart : ∀ (cs : Array Value) (j : Nat) (v : Value), cs[j]? = some v → (part 5 cs j).run Try.prog w = .ok v w := fun cs j v h => by
    simp [part, isAgg, run_underlying Try.underlying5, h]
  have hint : ∀ a b : Int, (Op.equalIn 9999 5 (.int .u8 a) (.int .u8 b)).run Try.prog w = .ok (a == b) w := fun a b => run_equalIn_int w 9998 5 .u8 .u8 a b Try.underlying5
  unfold gv
  rw [run_equalIn_struct w 9999 t _ _ (by rw [hf, ht]; rfl) hp, hf]
  have a0 := hpart #[.int .u8 (o : Int), .int .u8 (i : Int), .int .u8 (e : Int)] 0 (.int .u8 (o : Int)) rfl
  have a1 := hpart #[.int .u8 (o : Int), .int .u8 (i : Int), .int .u8 (e : Int)] 1 (.int .u8 (i : Int)) rfl
  have a2 := hpart #[.int .u8 (o : Int), .int .u8 (i : Int), .int .u8 (e : Int)] 2 (.int .u8 (e : Int)) rfl
  have b0 := hpart #[.int .u8 (o' : Int), .int .u8 (i' : Int), .int .u8 (e' : Int)] 0 (.int .u8 (o' : Int)) rfl
  have b1 := hpart #[.int .u8 (o' : Int), .int .u8 (i' : Int), .int .u8 (e' : Int)] 1 (.int .u8 (i' : Int)) rfl
  have b2 := hpart #[.int .u8 (o' : Int), .int .u8 (i' : Int), .int .u8 (e' : Int)] 2 (.int .u8 (e' : Int)) rfl
  simp only [Op.eqFields, ne_eq, Sem.run_bind, Sem.run_ite, a0, a1, a2, b0, b1, b2, hint, Result.andThen_ok]
  by_cases h1 : o = o'
  · by_cases h2 : i = i'
    · by_cases h3 : e = e'
      · simp [h1, h2, h3]
      · have : ¬ (e : Int) = (e' : Int) := by omega
        simp [h1, h2, h3, this]
    · have : ¬ (i : Int) = (i' : Int) := by omega
      simp [h1, h2, this]
  · have : ¬ (o : Int) = (o' : Int) := by omega
    simp [h1, this]
theorem run_eql_g (w : World) (o i e o' i' e' : Nat) : (binOp .eql 28 (gv o i e) (gv o' i' e')).run Try.prog w = .ok (.bool (decide (o = o' ∧ i = i' ∧ e = e'))) w := by
  have h := run_eq_g 28 w rfl (by kernel_rfl) o i e o' i' e'
  unfold gv at h ⊢
  rw [run_eql_struct, h]
  rfl
theorem guard_g (w : World) (x y : Operand) (o i e o' i' e' : Nat) : (eqGuard .eql 28 x y (gv o i e) (gv o' i' e')).run Try.prog w = .ok () w := run_eqGuard_agg w _ _ _ _ _ _ Try.eqGuardType28
theorem i64info : (Try.prog.info? 3).map (fun i => (i.zero, i.size, i.bytes)) = some (some (.int .i64 0), 1, 8) := by kernel_rfl
end Go.Proofs.Ytkodoldkfeopdaa.Gp
/- Ref -/
namespace Go.Proofs.Ytkodoldkfeopdaa.Gp
open Go.RowKit
set_option linter.unusedVariables false
set_option maxRecDepth 100000
end Go.Proofs.Ytkodoldkfeopdaa.Gp
/- Ref2 -/
namespace Go.Proofs.Ytkodoldkfeopdaa.Gp
open Go.RowKit
set_option linter.unusedVariables false
set_option maxRecDepth 100000
end Go.Proofs.Ytkodoldkfeopdaa.Gp
/- Ref3 -/
namespace Go.Proofs.Ytkodoldkfeopdaa.Gp
open Go.RowKit
set_option linter.unusedVariables false
set_option maxRecDepth 100000
/-- The slice v is of the call's own memory, from block B on, and holds these numbers. -/
def OwnN (w : World) (B : Nat) (v : Value) (l : List Nat) : Prop := w.ownsRow B 3 1 v l.length (l.map iv)
theorem OwnN.form {w : World} {B : Nat} {v : Value} {l : List Nat} (h : OwnN w B v l) : ∃ A c, v = .slice A l.length c := own_form h
theorem OwnN.at {w : World} {B : Nat} {v : Value} {l : List Nat} (h : OwnN w B v l) (k x : Nat) (hx : l[k]? = some x) : ∃ a c, v = .slice (some a) l.length c ∧ w.cell? (a.add k) = some (.int .i64 (x : Int)) := by
  rcases h.2 with ⟨_, h0⟩ | ⟨g, cap, cur, rfl, hg, hh, hn, hc, hs, ht⟩
  · have : l = [] := List.eq_nil_of_length_eq_zero h0
    subst this
    simp at hx
  · exact ⟨⟨g, 0, none⟩, cap, rfl, World.ownsRow.cells h (g := g) rfl k _ (by simp [List.getElem?_map, hx, iv])⟩
theorem OwnN.below {w w' : World} {B : Nat} {v : Value} {l : List Nat} (h : OwnN w B v l) (hb : Below w.heap.size w w') : OwnN w' B v l := ownsRow_below h hb
end Go.Proofs.Ytkodoldkfeopdaa.Gp
/- Ref4 -/
namespace Go.Proofs.Ytkodoldkfeopdaa.Gp
open Go.RowKit
set_option linter.unusedVariables false
set_option maxRecDepth 100000
end Go.Proofs.Ytkodoldkfeopdaa.Gp
