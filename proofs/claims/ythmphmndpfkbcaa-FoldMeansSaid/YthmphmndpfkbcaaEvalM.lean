/-
  What an expression means, as plain mathematics: a folded one means the same, is no longer, is bare, and stays. No walk.
-/
import Derived.Test.YthmphmndpfkbcaaBare
import Derived.Test.YthmphmndpfkbcaaLawM
namespace Go.Proofs.Ythmphmndpfkbcaa
open Go.RowKit
set_option linter.unusedVariables false
/-- What a part makes of its operands' values. -/
def topE (L Wd : Int → Int) (op n ty ref t0 v0 v1 : Int) : Int × Int :=
  if op = 0 then (wrapT ty n, 0) else if op = 26 then (L ref, 0) else if op = 27 then (Wd ref, 0)
  else if op = 28 then (if v0 < 0 ∨ n ≤ v0 then (0, 3) else (Wd (ref + v0), 0))
  else if op ≤ 8 then (unV op ty v0, 0)
  else if (op = 10 ∨ op = 11) ∧ v1 = 0 then (0, 2) else (binV op t0 v0 v1, 0)
def ty0 (args : List Ex) : Int := (args[0]?.map Ex.ty).getD 0
mutual
def evalT (L Wd : Int → Int) : Ex → Int × Int
  | .mk op _ _ _ n ty ref args => if (evalL L Wd args).2 = 0 then topE L Wd op n ty ref (ty0 args) ((evalL L Wd args).1.getD 0 0) ((evalL L Wd args).1.getD 1 0) else (0, (evalL L Wd args).2)
def evalL (L Wd : Int → Int) : List Ex → List Int × Int
  | [] => ([], 0)
  | x :: l => if (evalT L Wd x).2 = 0 then ((evalT L Wd x).1 :: (evalL L Wd l).1, (evalL L Wd l).2) else ([], (evalT L Wd x).2)
end
/-- The shape and the types of a part, by its operands. -/
def okTop (op n ty ref : Int) : List Ex → Prop
  | [] => op = 0 ∨ op = 26 ∨ op = 27
  | [x] => op = 28 ∨ 4 ≤ op ∧ op ≤ 8 ∧ (op = 5 → ty = x.ty) ∧ (op = 8 → ty ≠ 1)
  | [x, y] => 9 ≤ op ∧ op ≤ 24 ∧ (op ≤ 15 ∨ 22 ≤ op → ty = x.ty) ∧ (op = 14 ∨ op = 15 ∨ y.ty = x.ty)
  | _ => False
mutual
/-- Such are the expressions that are made. -/
def okT : Ex → Prop
  | .mk op _ _ _ n ty ref args => (0 ≤ ref ∧ ref ≤ 100) ∧ (-9223372036854775808 ≤ n ∧ n ≤ 9223372036854775807) ∧ okTop op n ty ref args ∧ okL args
def okL : List Ex → Prop
  | [] => True
  | x :: l => okT x ∧ okL l
end
theorem okL_iff : ∀ l : List Ex, okL l ↔ ∀ x ∈ l, okT x
  | [] => by simp [okL]
  | x :: l => by
    rw [okL, okL_iff l]
    simp
theorem foldT_ty : ∀ x : Ex, (foldT x).ty = x.ty
  | .mk op at_ name field n ty ref args => by
    rw [foldT, topT]
    split
    · rfl
    · split <;> rfl
theorem foldT_wrapped : ∀ x : Ex, (foldT x).op = 0 → wrapT (foldT x).ty (foldT x).n = (foldT x).n
  | .mk op at_ name field n ty ref args => by
    rw [foldT, topT]
    split
    · intro _
      exact wrapT_self _ _
    · split
      · intro _
        exact wrapT_self _ _
      · intro h
        exact absurd h (by assumption)
theorem size_fold : ∀ x : Ex, sizeT (foldT x) ≤ sizeT x := by
  refine Ex.ind fun op at_ name field n ty ref args IH => ?_
  have hl : sizeL (foldL args) ≤ sizeL args := by
    induction args with
    | nil => simp [foldL]
    | cons x l ih =>
      rw [foldL, sizeL, sizeL]
      have h1 := IH x (by simp)
      have h2 := ih fun y hy => IH y (by simp [hy])
      omega
  rw [foldT, topT, sizeT]
  split
  · rw [sizeT]
    omega
  · split
    · rw [sizeT, sizeL]
      omega
    · rw [sizeT]
      omega
theorem worksT_same (op ty : Int) (l : List Ex) : ∀ v, worksT op ty l = some v → valsOf op = l.length ∧ 0 < l.length ∧ (∀ x ∈ l, x.op = 0) := by
  intro v h
  match l with
  | [] => simp [worksT] at h
  | [x] =>
    rw [worksT] at h
    split at h
    · simp_all
    · cases h
  | [x, y] =>
    rw [worksT] at h
    split at h
    · simp_all
    · cases h
  | _ :: _ :: _ :: _ => simp [worksT] at h
theorem foldL_twice (args : List Ex) (h : ∀ x ∈ args, foldT (foldT x) = foldT x) : foldL (foldL args) = foldL args := by
  induction args with
  | nil => rfl
  | cons x l ih =>
    rw [foldL, foldL, h x (by simp), ih fun y hy => h y (by simp [hy])]
theorem fold_fold : ∀ x : Ex, foldT (foldT x) = foldT x := by
  refine Ex.ind fun op at_ name field n ty ref args IH => ?_
  have hl := foldL_twice args IH
  rw [foldT, topT]
  by_cases h0 : op = 0
  · subst h0
    rw [if_pos rfl, foldT, topT, if_pos rfl, hl, wrapT_self]
  · rw [if_neg h0]
    cases hw : worksT op ty (foldL args) with
    | some v =>
      show foldT (.mk 0 at_ ⟨#[]⟩ ⟨#[]⟩ (wrapT ty v) ty 0 []) = _
      rw [foldT, topT, if_pos rfl, wrapT_self]
      rfl
    | none =>
      show foldT (.mk op at_ name field n ty ref (foldL args)) = _
      rw [foldT, topT, if_neg h0, hl, hw]
theorem bare_fold : ∀ x : Ex, okT x → bareT (foldT x) = true := by
  refine Ex.ind fun op at_ name field n ty ref args IH hok => ?_
  rw [okT] at hok
  obtain ⟨_, _, hok, hl⟩ := hok
  rw [okL_iff] at hl
  have hb : bareL (foldL args) = true := by
    rw [bareL_iff, foldL_eq]
    intro y hy
    obtain ⟨x, hx, rfl⟩ := List.mem_map.1 hy
    exact IH x hx (hl x hx)
  rw [foldT, topT]
  by_cases h0 : op = 0
  · subst h0
    rw [if_pos rfl, bareT, hb, if_pos rfl, wrapT_self]
    simp
  · rw [if_neg h0]
    cases hw : worksT op ty (foldL args) with
    | some v =>
      show bareT (.mk 0 at_ ⟨#[]⟩ ⟨#[]⟩ (wrapT ty v) ty 0 []) = true
      rw [bareT, if_pos rfl, wrapT_self]
      simp [bareL]
    | none =>
      show bareT (.mk op at_ name field n ty ref (foldL args)) = true
      rw [bareT, hb, if_neg h0]
      match args, hok with
      | [], hok => simp [allNum, foldL]
      | [x], hok =>
        rcases hok with rfl | ⟨h4, h8, _⟩
        · simp
        · have hv := (valsOf_1 op).2 ⟨h4, h8⟩
          by_cases hx : (foldT x).op = 0
          · simp only [foldL] at hw
            rw [worksT, if_pos ⟨hv, hx⟩] at hw
            cases hw
          · simp [allNum, foldL, hx]
      | [x, y], hok =>
        obtain ⟨h9, h24, _⟩ := hok
        have hv := (valsOf_2 op).2 ⟨h9, h24⟩
        by_cases hd : op = 10 ∨ op = 11
        · rcases hd with rfl | rfl <;> simp
        · by_cases hx : (foldT x).op = 0 ∧ (foldT y).op = 0
          · simp only [foldL] at hw
            rw [worksT, if_pos ⟨hv, hx.1, hx.2, fun h => hd h.1⟩] at hw
            cases hw
          · have : allNum (foldL [x, y]) = false := by
              simp only [allNum, foldL, List.all_cons, List.all_nil, Bool.and_true, Bool.and_eq_false_iff]
              by_cases h1 : (foldT x).op = 0
              · have h2 : (foldT y).op ≠ 0 := fun h2 => hx ⟨h1, h2⟩
                exact .inr (.inr (by simpa using h2))
              · exact .inr (.inl (by simpa using h1))
            rw [this]
            rfl
end Go.Proofs.Ythmphmndpfkbcaa
