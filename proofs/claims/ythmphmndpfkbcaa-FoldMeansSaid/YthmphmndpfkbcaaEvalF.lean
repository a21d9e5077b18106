/-
  A folded expression has the value, or the trap, of the one it comes of. No walk.
-/
import Derived.Test.YthmphmndpfkbcaaEvalM
namespace Go.Proofs.Ythmphmndpfkbcaa
open Go.RowKit
set_option linter.unusedVariables false
theorem in16 {a : Int} (h : wrapT 1 a = a) : -(2 : Int) ^ 15 ≤ a ∧ a < (2 : Int) ^ 15 := by
  rw [wrapT_16] at h
  have : (2 : Int) ^ 15 = 32768 := by decide
  omega
theorem in32 {t a : Int} (ht : t ≠ 1) (h : wrapT t a = a) : -(2 : Int) ^ 31 ≤ a ∧ a < (2 : Int) ^ 31 := by
  rw [wrapT_32 _ _ ht] at h
  have : (2 : Int) ^ 31 = 2147483648 := by decide
  omega
theorem wrapT_of {t v : Int} (h : t = 1 → -32768 ≤ v ∧ v ≤ 32767) (h2 : -2147483648 ≤ v ∧ v ≤ 2147483647) : wrapT t v = v := by
  by_cases ht : t = 1
  · have := h ht
    subst ht
    rw [wrapT_16]
    omega
  · rw [wrapT_32 _ _ ht]
    omega
theorem wrapT_lo {t a : Int} (h : wrapT t a = a) : (t = 1 → -32768 ≤ a ∧ a ≤ 32767) ∧ (-2147483648 ≤ a ∧ a ≤ 2147483647) := by
  by_cases ht : t = 1
  · subst ht
    rw [wrapT_16] at h
    omega
  · rw [wrapT_32 _ _ ht] at h
    exact ⟨fun h1 => absurd h1 ht, by omega⟩
theorem wrap32_in (v : Int) (h : -2147483648 ≤ v) (h2 : v ≤ 2147483647) : wrap32 v = v := by
  unfold wrap32
  omega
theorem tmod_in (t a b : Int) (h : wrapT t a = a) : wrapT t (a.tmod b) = a.tmod b := by
  obtain ⟨h1, h2⟩ := wrapT_lo h
  refine wrapT_of (fun ht => ?_) (tmod_bd a b h2.1 h2.2)
  have h3 := h1 ht
  have h4 : (a.tmod b).natAbs ≤ a.natAbs := by
    rw [Int.natAbs_tmod]
    exact Nat.mod_le _ _
  by_cases h0 : 0 ≤ a
  · have := Int.tmod_nonneg b h0
    omega
  · have h5 : 0 ≤ (-a).tmod b := Int.tmod_nonneg b (by omega)
    rw [Int.neg_tmod] at h5
    omega
theorem shr_in (t a : Int) (n : Nat) (hn : n ≤ 31) (h : wrapT t a = a) : wrapT t (a / 2 ^ n) = a / 2 ^ n := by
  obtain ⟨h1, h2⟩ := wrapT_lo h
  refine wrapT_of (fun ht => ?_) (shr_bd a n h2.1 h2.2 hn)
  have h3 := h1 ht
  obtain ⟨_, hq⟩ := pow_bd n hn
  have hp : 0 < (2 : Int) ^ n := by omega
  refine ⟨(Int.le_ediv_iff_mul_le hp).2 ?_, Int.lt_add_one_iff.1 ((Int.ediv_lt_iff_lt_mul hp).2 ?_)⟩
  · have h4 : (-32768 : Int) * 2 ^ n ≤ (-32768) * 1 := Int.mul_le_mul_of_nonpos_left (by omega) hq
    omega
  · have h4 : ((32767 + 1 : Int)) * 1 ≤ (32767 + 1) * 2 ^ n := Int.mul_le_mul_of_nonneg_left hq (by omega)
    omega
theorem bits_in (t a b : Int) (ha : wrapT t a = a) (hb : wrapT t b = b) (f : BinOp) (hf : f = .and ∨ f = .or ∨ f = .xor) : wrapT t (wrap32 (bits f IntKind.i64 a b)) = wrap32 (bits f IntKind.i64 a b) := by
  by_cases ht : t = 1
  · subst ht
    have h1 := in16 ha
    have h2 := in16 hb
    have e : (2 : Int) ^ 15 = 32768 := by decide
    obtain ⟨_, _, h3, h4, h5⟩ := bits_go (K := 15) (.inl rfl) a b h1.1 h1.2 h2.1 h2.2
    rw [e] at h3 h4 h5
    rcases hf with rfl | rfl | rfl
    · rw [wrap32_in _ (by omega) (by omega)]
      exact wrapT_of (fun _ => by omega) (by omega)
    · rw [wrap32_in _ (by omega) (by omega)]
      exact wrapT_of (fun _ => by omega) (by omega)
    · rw [wrap32_in _ (by omega) (by omega)]
      exact wrapT_of (fun _ => by omega) (by omega)
  · have := wrap32_bd (bits f IntKind.i64 a b)
    exact wrapT_of (fun h => absurd h ht) this
theorem unV_in (op ty a t : Int) (h4 : 4 ≤ op) (h8 : op ≤ 8) (h5 : op = 5 → ty = t) (h82 : op = 8 → ty ≠ 1) (ha : wrapT t a = a) : wrapT ty (unV op ty a) = unV op ty a := by
  rcases (by omega : op = 4 ∨ op = 5 ∨ op = 6 ∨ op = 7 ∨ op = 8) with rfl | rfl | rfl | rfl | rfl
  · have e : unV 4 ty a = wrapT ty (-a) := by simp [unV]
    rw [e]
    exact wrapT_self _ _
  · rw [unV_5]
    have e := h5 rfl
    subst e
    exact wrapT_not _ _ ha
  · have e : unV 6 ty a = if a = 0 then 1 else 0 := by simp [unV]
    rw [e]
    split
    · exact wrapT_one _
    · exact wrapT_nil _
  · have e : unV 7 ty a = wrapT 1 a := by simp [unV]
    rw [e]
    exact wrapT_twice ty a
  · have e : unV 8 ty a = a := by simp [unV]
    rw [e]
    have h := wrapT_lo ha
    exact wrapT_of (fun h1 => absurd h1 (h82 rfl)) h.2
theorem binV_in (op ty a b t : Int) (h9 : 9 ≤ op) (h24 : op ≤ 24) (hz : ¬ ((op = 10 ∨ op = 11) ∧ b = 0)) (ht : op ≤ 15 ∨ 22 ≤ op → ty = t) (ha : wrapT t a = a) (hb : op = 14 ∨ op = 15 ∨ wrapT t b = b) : wrapT ty (binV op t a b) = binV op t a b := by
  have hc := cnt_bd t b
  by_cases hcmp : 16 ≤ op ∧ op ≤ 21
  · have h01 : binV op t a b = 0 ∨ binV op t a b = 1 := by
      rcases (by omega : op = 16 ∨ op = 17 ∨ op = 18 ∨ op = 19 ∨ op = 20 ∨ op = 21) with rfl | rfl | rfl | rfl | rfl | rfl <;> simp only [binV] <;> simp <;> omega
    rcases h01 with h | h <;> rw [h]
    · exact wrapT_nil _
    · exact wrapT_one _
  · have e := ht (by omega)
    subst e
    rcases (by omega : op = 9 ∨ op = 10 ∨ op = 11 ∨ op = 12 ∨ op = 13 ∨ op = 14 ∨ op = 15 ∨ op = 22 ∨ op = 23 ∨ op = 24) with rfl | rfl | rfl | rfl | rfl | rfl | rfl | rfl | rfl | rfl
    · exact wrapT_self _ _
    · exact wrapT_self _ _
    · exact tmod_in _ _ _ ha
    · exact wrapT_self _ _
    · exact wrapT_self _ _
    · exact wrapT_self _ _
    · exact shr_in _ _ _ (by omega) ha
    · exact bits_in _ _ _ ha (by simpa using hb) _ (.inl rfl)
    · exact bits_in _ _ _ ha (by simpa using hb) _ (.inr (.inr rfl))
    · exact bits_in _ _ _ ha (by simpa using hb) _ (.inr (.inl rfl))
theorem evalL_fold (L Wd : Int → Int) : ∀ args : List Ex, (∀ x ∈ args, evalT L Wd (foldT x) = evalT L Wd x) → evalL L Wd (foldL args) = evalL L Wd args
  | [], _ => rfl
  | x :: l, h => by rw [foldL, evalL, evalL, h x (by simp), evalL_fold L Wd l fun y hy => h y (by simp [hy])]
theorem ty0_fold (args : List Ex) : ty0 (foldL args) = ty0 args := by
  cases args with
  | nil => rfl
  | cons x l => simp [ty0, foldL, foldT_ty]
theorem eval_num (L Wd : Int → Int) : ∀ y : Ex, y.op = 0 → y.args = [] → wrapT y.ty y.n = y.n → evalT L Wd y = (y.n, 0)
  | .mk op at_ name field n ty ref args, h0, ha, hw => by
    obtain rfl : op = 0 := h0
    obtain rfl : args = [] := ha
    rw [evalT]
    simp only [evalL, topE, if_true]
    exact congrArg (fun z => (z, (0 : Int))) hw
theorem fold_args : ∀ x : Ex, okT x → (foldT x).op = 0 → (foldT x).args = []
  | .mk op at_ name field n ty ref args, hok, h => by
    rw [okT] at hok
    obtain ⟨_, _, hok, _⟩ := hok
    rw [foldT, topT] at h ⊢
    by_cases h0 : op = 0
    · subst h0
      rw [if_pos rfl]
      match args, hok with
      | [], _ => rfl
      | [x], hok => exact absurd hok (by rintro (h | h) <;> omega)
      | [x, y], hok => exact absurd hok (by rintro ⟨h, _⟩; omega)
    · rw [if_neg h0] at h ⊢
      cases hw : worksT op ty (foldL args) with
      | some v => rfl
      | none =>
        rw [hw] at h
        exact absurd h h0
theorem eval_fold (L Wd : Int → Int) : ∀ x : Ex, okT x → evalT L Wd (foldT x) = evalT L Wd x := by
  refine Ex.ind fun op at_ name field n ty ref args IH hok => ?_
  have hok0 := hok
  rw [okT] at hok
  obtain ⟨_, _, hok, hl⟩ := hok
  rw [okL_iff] at hl
  have he := evalL_fold L Wd args fun x hx => IH x hx (hl x hx)
  have hv : ∀ x ∈ args, (foldT x).op = 0 → evalT L Wd x = ((foldT x).n, 0) := fun x hx h0 => by
    rw [← IH x hx (hl x hx)]
    exact eval_num L Wd _ h0 (fold_args x (hl x hx) h0) (foldT_wrapped x h0)
  rw [foldT, topT]
  by_cases h0 : op = 0
  · subst h0
    rw [if_pos rfl, evalT, evalT, he]
    simp only [topE, if_true, wrapT_self]
  · rw [if_neg h0]
    cases hw : worksT op ty (foldL args) with
    | none =>
      show evalT L Wd (.mk op at_ name field n ty ref (foldL args)) = _
      rw [evalT, evalT, he, ty0_fold]
    | some v =>
      show evalT L Wd (.mk 0 at_ ⟨#[]⟩ ⟨#[]⟩ (wrapT ty v) ty 0 []) = _
      rw [eval_num L Wd _ rfl rfl (wrapT_self _ _)]
      show (wrapT ty v, 0) = _
      match args, hok with
      | [], hok => simp [foldL, worksT] at hw
      | [x], hok =>
        simp only [foldL, worksT] at hw
        split at hw
        · rename_i hc
          obtain rfl := Option.some.inj hw
          obtain ⟨h4, h8⟩ := (valsOf_1 op).1 hc.1
          rcases hok with rfl | ⟨_, _, k5, k8⟩
          · omega
          have hx := hv x (by simp) hc.2
          have hwr := foldT_wrapped x hc.2
          rw [foldT_ty] at hwr
          rw [evalT]
          simp only [evalL, hx, if_true, topE]
          rw [if_neg h0, if_neg (by omega), if_neg (by omega), if_neg (by omega), if_pos h8]
          show (wrapT ty (unV op ty (foldT x).n), (0 : Int)) = (unV op ty (foldT x).n, 0)
          rw [unV_in op ty _ x.ty h4 h8 k5 k8 hwr]
        · cases hw
      | [x, y], hok =>
        simp only [foldL, worksT] at hw
        split at hw
        · rename_i hc
          obtain rfl := Option.some.inj hw
          obtain ⟨hc1, hcx, hcy, hcz⟩ := hc
          obtain ⟨h9, h24, kt, ky⟩ := hok
          have hx := hv x (by simp) hcx
          have hy := hv y (by simp) hcy
          have hwx := foldT_wrapped x hcx
          have hwy := foldT_wrapped y hcy
          rw [foldT_ty] at hwx hwy
          rw [evalT]
          simp only [evalL, hx, hy, if_true, topE]
          rw [if_neg h0, if_neg (by omega), if_neg (by omega), if_neg (by omega), if_neg (by omega)]
          show (wrapT ty (binV op (foldT x).ty (foldT x).n (foldT y).n), (0 : Int)) = if (op = 10 ∨ op = 11) ∧ (foldT y).n = 0 then (0, 2) else (binV op x.ty (foldT x).n (foldT y).n, 0)
          rw [if_neg hcz]
          rw [foldT_ty, binV_in op ty _ _ x.ty h9 h24 hcz kt hwx (by rcases ky with h | h | h; exact .inl h; exact .inr (.inl h); exact .inr (.inr (h ▸ hwy)))]
        · cases hw
theorem okL_map (args : List Ex) (h : ∀ x ∈ args, okT (foldT x)) : okL (foldL args) := by
  rw [okL_iff, foldL_eq]
  intro y hy
  obtain ⟨x, hx, rfl⟩ := List.mem_map.1 hy
  exact h x hx
theorem ok_fold : ∀ x : Ex, okT x → okT (foldT x) := by
  refine Ex.ind fun op at_ name field n ty ref args IH hok => ?_
  rw [okT] at hok
  obtain ⟨hr, hn, hok, hl⟩ := hok
  rw [okL_iff] at hl
  have hl2 := okL_map args fun x hx => IH x hx (hl x hx)
  have ht : okTop op n ty ref (foldL args) := by
    match args, hok with
    | [], hok => exact hok
    | [x], hok =>
      show op = 28 ∨ 4 ≤ op ∧ op ≤ 8 ∧ (op = 5 → ty = (foldT x).ty) ∧ (op = 8 → ty ≠ 1)
      rw [foldT_ty]
      exact hok
    | [x, y], hok =>
      show 9 ≤ op ∧ op ≤ 24 ∧ (op ≤ 15 ∨ 22 ≤ op → ty = (foldT x).ty) ∧ (op = 14 ∨ op = 15 ∨ (foldT y).ty = (foldT x).ty)
      rw [foldT_ty, foldT_ty]
      exact hok
  have hw := fun v => wrapT_bd ty v
  rw [foldT, topT]
  by_cases h0 : op = 0
  · rw [if_pos h0, okT]
    refine ⟨hr, by have := hw n; omega, ?_, hl2⟩
    subst h0
    exact ht
  · rw [if_neg h0]
    cases worksT op ty (foldL args) with
    | some v =>
      show okT (.mk 0 at_ ⟨#[]⟩ ⟨#[]⟩ (wrapT ty v) ty 0 [])
      rw [okT]
      refine ⟨by omega, by have := hw v; omega, .inl rfl, ?_⟩
      simp [okL]
    | none =>
      show okT (.mk op at_ name field n ty ref (foldL args))
      rw [okT]
      exact ⟨hr, hn, ht, hl2⟩
theorem unV_bd2 (op t a : Int) (ha : -2147483648 ≤ a ∧ a ≤ 2147483647) : -2147483648 ≤ unV op t a ∧ unV op t a ≤ 2147483647 := by
  by_cases h5 : op = 5
  · subst h5
    rw [unV_5]
    omega
  · exact unV_bd op t a ha.1 ha.2 h5
theorem topE_bd (L Wd : Int → Int) (hL : ∀ i, -2147483648 ≤ L i ∧ L i ≤ 2147483647) (hW : ∀ i, -2147483648 ≤ Wd i ∧ Wd i ≤ 2147483647) (op n ty ref t0 v0 v1 : Int) (h0 : -2147483648 ≤ v0 ∧ v0 ≤ 2147483647) :
    -2147483648 ≤ (topE L Wd op n ty ref t0 v0 v1).1 ∧ (topE L Wd op n ty ref t0 v0 v1).1 ≤ 2147483647 := by
  unfold topE
  repeat' (first | exact wrapT_bd _ _ | exact hL _ | exact hW _ | exact unV_bd2 _ _ _ h0 | exact binV_bd _ _ _ _ h0.1 h0.2 | split | (constructor <;> simp; done))
theorem evalT_bd (L Wd : Int → Int) (hL : ∀ i, -2147483648 ≤ L i ∧ L i ≤ 2147483647) (hW : ∀ i, -2147483648 ≤ Wd i ∧ Wd i ≤ 2147483647) : ∀ x : Ex, -2147483648 ≤ (evalT L Wd x).1 ∧ (evalT L Wd x).1 ≤ 2147483647 := by
  refine Ex.ind fun op at_ name field n ty ref args IH => ?_
  have hl : ∀ l : List Ex, (∀ x ∈ l, -2147483648 ≤ (evalT L Wd x).1 ∧ (evalT L Wd x).1 ≤ 2147483647) → ∀ v ∈ (evalL L Wd l).1, -2147483648 ≤ v ∧ v ≤ 2147483647 := by
    intro l
    induction l with
    | nil => intro _ v hv; simp [evalL] at hv
    | cons x l ih =>
      intro h v hv
      rw [evalL] at hv
      split at hv
      · rcases List.mem_cons.1 hv with rfl | hv
        · exact h x (by simp)
        · exact ih (fun y hy => h y (by simp [hy])) v hv
      · simp at hv
  have hv := hl args IH
  rw [evalT]
  split
  · refine topE_bd L Wd hL hW _ _ _ _ _ _ _ ?_
    rw [List.getD_eq_getElem?_getD]
    cases hx : (evalL L Wd args).1[0]? with
    | none => simp
    | some v => exact hv v (List.mem_of_getElem? hx)
  · constructor <;> simp
end Go.Proofs.Ythmphmndpfkbcaa
