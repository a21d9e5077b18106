/-
  The tokens of a text, behind which a line end and another one stand: those of the one, and then those of the other one, moved. No condition.
-/
import Derived.Test.YtmebcenjghagoaaGreatDoorLoc
namespace Go.Proofs.YtmebcenjghagoaaGreatDoor
open Go.RowKit

theorem gap_notB (s : ByteArray) (p : Nat) (h : gap s p < s.size) : isB (bAt s (gap s p)) = false := by
  induction hn : s.size - p using Nat.strongRecOn generalizing p with
  | _ n ih =>
    subst hn
    by_cases hp : p < s.size
    · by_cases hb : isB (bAt s p) = true
      · rw [gap_blank s p hp hb] at h ⊢
        exact ih _ (by omega) (p + 1) h rfl
      · by_cases hc : isC s p = true
        · have h1 := isC_endl s p hc
          have h2 := endl_ge s (p + 1)
          rw [gap_comment s p hc] at h ⊢
          exact ih _ (by omega) (endl s p) h rfl
        · rw [gap_stop s p (fun _ => ⟨by simpa using hb, by simpa using hc⟩)]
          simpa using hb
    · rw [gap_stop s p (fun h => absurd h hp)] at h
      omega
/-- T begins with A, whose last byte is a line end. -/
structure Begins (A T : ByteArray) : Prop where
  pos : 1 ≤ A.size
  le : A.size ≤ T.size
  eq : ∀ i, i < A.size → bAt T i = bAt A i
  end_ : bAt A (A.size - 1) = 10
/-- T ends with b, from place N on. -/
structure Ends (b T : ByteArray) (N : Nat) : Prop where
  sz : T.size = N + b.size
  eq : ∀ i, i < b.size → bAt T (N + i) = bAt b i
variable {A T b : ByteArray} {N : Nat}
theorem Begins.endl (h : Begins A T) (p : Nat) (hp : p < A.size) : endl A p < A.size ∧ Go.Proofs.YtmebcenjghagoaaGreatDoor.endl T p = Go.Proofs.YtmebcenjghagoaaGreatDoor.endl A p := by
  have h1 := h.le
  have h0 := h.pos
  induction hn : A.size - p generalizing p with
  | zero => omega
  | succ n ih =>
    by_cases hc : bAt A p ≠ 10
    · rw [endl_step A p hp hc, endl_step T p (by omega) (by rwa [h.eq p hp])]
      have : p + 1 < A.size := by
        rcases Nat.lt_or_ge (p + 1) A.size with h2 | h2
        · exact h2
        · obtain rfl : p = A.size - 1 := by omega
          exact absurd h.end_ hc
      exact ih (p + 1) this (by omega)
    · have hc' : bAt A p = 10 := by omega
      rw [endl_stop A p (by simp [hc']), endl_stop T p (by rw [h.eq p hp]; simp [hc'])]
      exact ⟨hp, rfl⟩
theorem Begins.isC (h : Begins A T) (p : Nat) (hp : p < A.size) : isC T p = Go.Proofs.YtmebcenjghagoaaGreatDoor.isC A p := by
  have h1 := h.le
  unfold Go.Proofs.YtmebcenjghagoaaGreatDoor.isC
  rw [h.eq p hp]
  by_cases h2 : p + 1 < A.size
  · rw [h.eq (p + 1) h2]
    simp [h2, show p + 1 < T.size from by omega]
  · obtain rfl : p = A.size - 1 := by omega
    simp [h.end_]
theorem Begins.gap (h : Begins A T) (p : Nat) (hp : p ≤ A.size) : (gap A p < A.size → Go.Proofs.YtmebcenjghagoaaGreatDoor.gap T p = Go.Proofs.YtmebcenjghagoaaGreatDoor.gap A p) ∧ (¬ Go.Proofs.YtmebcenjghagoaaGreatDoor.gap A p < A.size → Go.Proofs.YtmebcenjghagoaaGreatDoor.gap T p = Go.Proofs.YtmebcenjghagoaaGreatDoor.gap T A.size) := by
  have h1 := h.le
  induction hn : A.size - p using Nat.strongRecOn generalizing p with
  | _ n ih =>
    subst hn
    by_cases hlt : p < A.size
    · by_cases hb : isB (bAt A p) = true
      · rw [gap_blank A p hlt hb, gap_blank T p (by omega) (by rwa [h.eq p hlt])]
        exact ih _ (by omega) (p + 1) (by omega) rfl
      · by_cases hc : Go.Proofs.YtmebcenjghagoaaGreatDoor.isC A p = true
        · have e := h.endl p hlt
          have e1 := isC_endl A p hc
          have e2 := endl_ge A (p + 1)
          rw [gap_comment A p hc, gap_comment T p (by rwa [h.isC p hlt]), e.2]
          exact ih _ (by omega) _ (by omega) rfl
        · have e1 := gap_stop A p (fun _ => ⟨by simpa using hb, by simpa using hc⟩)
          have e2 := gap_stop T p (fun _ => ⟨by rw [h.eq p hlt]; simpa using hb, by rw [h.isC p hlt]; simpa using hc⟩)
          rw [e1, e2]
          exact ⟨fun _ => rfl, fun h => absurd hlt h⟩
    · obtain rfl : p = A.size := by omega
      refine ⟨fun h2 => ?_, fun _ => rfl⟩
      have := gap_ge A A.size
      omega
theorem nls_same (s s' : ByteArray) (q p q' p' : Nat) (hz : p - q = p' - q') (h : ∀ i, i < p - q → bAt s (q + i) = bAt s' (q' + i)) : nls s q p = nls s' q' p' := by
  unfold nls
  rw [← hz]
  congr 1
  refine List.filter_congr fun i hi => ?_
  rw [h i (List.mem_range.1 hi)]
theorem Begins.line (h : Begins A T) (p : Nat) (hp : p ≤ A.size) : lineS T p = lineS A p := by
  have h1 := h.le
  unfold lineS
  rw [Nat.min_eq_left hp, Nat.min_eq_left (by omega)]
  rw [nls_same T A 0 p 0 p rfl (fun i hi => by rw [Nat.zero_add]; exact h.eq i (by omega))]
theorem Begins.loc (h : Begins A T) (p : Nat) (hp : p < A.size - 1) : Loc A p T p (A.size - 1 - p) ∧ NoM A (p + (A.size - 1 - p)) ∧ NoM T (p + (A.size - 1 - p)) := by
  have h1 := h.le
  have e : p + (A.size - 1 - p) = A.size - 1 := by omega
  have m1 : NoM A (p + (A.size - 1 - p)) := fun _ => by rw [e, h.end_]; rfl
  have m2 : NoM T (p + (A.size - 1 - p)) := fun _ => by rw [e, h.eq _ (by omega), h.end_]; rfl
  exact ⟨⟨by omega, by omega, fun i hi => h.eq _ (by omega), m1.noW, m2.noW⟩, m1, m2⟩
theorem lex_first (h : Begins A T) (p : Nat) (hp : p ≤ A.size) (acc : List Tk) :
    lexA T (gap T p) acc = if (lexA A (gap A p) acc).2.1 = 0 then lexA T (gap T A.size) (lexA A (gap A p) acc).1.dropLast else lexA A (gap A p) acc := by
  have h1 := h.le
  have h0 := h.pos
  induction hn : A.size - p using Nat.strongRecOn generalizing p acc with
  | _ n ih =>
    subst hn
    have hg := gap_ge A p
    obtain ⟨g1, g2⟩ := h.gap p hp
    by_cases hlt : gap A p < A.size
    · rw [g1 hlt]
      have hnb := gap_notB A p hlt
      have hne : gap A p ≠ A.size - 1 := by
        intro h2
        rw [h2, h.end_] at hnb
        cases hnb
      obtain ⟨l1, l2, l3⟩ := h.loc (gap A p) (by omega)
      have hk := l1.one (by omega) l2 l3
      by_cases hok : (oneT A (gap A p)).2.1 = 0
      · obtain ⟨k1, k2⟩ := hk.tok hok
        have hc := hk.code
        rw [hok] at hc
        have hlk := oneT_k A (gap A p) hok
        have het : (oneT T (gap A p)).1 = (oneT A (gap A p)).1 := by
          rw [k1, h.line _ (by omega), ← hlk.2.2]
          have := hlk.2.1
          generalize (oneT A (gap A p)).1 = x at *
          obtain ⟨k, q, l, t, m⟩ := x
          simp only at this
          rw [this]
        have hok2 := oneT_ok A (gap A p) hlt hok
        rw [lexA_step A _ acc hlt hok, lexA_step T _ acc (by omega) hc, het]
        exact ih _ (by omega) _ (by omega) _ rfl
      · have hc := hk.code
        have ha := hk.at_ hok
        have he : (oneT T (gap A p)).2 = (oneT A (gap A p)).2 := Prod.ext hc (by omega)
        rw [lexA_bad A _ acc hlt hok, if_neg hok, lexA_bad T _ acc (by omega) (by rwa [hc]), he]
    · rw [g2 hlt, lexA_end A _ acc hlt]
      simp
/-- A token that is moved by some bytes and lines. -/
def mv (N L : Nat) (x : Tk) : Tk := ⟨x.k, N + x.p, x.l + L, x.t, x.n⟩
theorem Ends.endl (h : Ends b T N) (p : Nat) : Go.Proofs.YtmebcenjghagoaaGreatDoor.endl T (N + p) = N + Go.Proofs.YtmebcenjghagoaaGreatDoor.endl b p := by
  have h1 := h.sz
  induction hn : b.size - p generalizing p with
  | zero => rw [endl_stop b p (by omega), endl_stop T _ (by omega)]
  | succ n ih =>
    by_cases hc : bAt b p ≠ 10
    · rw [endl_step b p (by omega) hc, endl_step T _ (by omega) (by rwa [h.eq p (by omega)])]
      exact ih (p + 1) (by omega)
    · rw [endl_stop b p (by simpa using fun _ => hc), endl_stop T _ (by rw [h.eq p (by omega)]; simpa using fun _ => hc)]
theorem Ends.isC (h : Ends b T N) (p : Nat) : Go.Proofs.YtmebcenjghagoaaGreatDoor.isC T (N + p) = Go.Proofs.YtmebcenjghagoaaGreatDoor.isC b p := by
  have h1 := h.sz
  unfold Go.Proofs.YtmebcenjghagoaaGreatDoor.isC
  by_cases h2 : p + 1 < b.size
  · rw [h.eq p (by omega), show N + p + 1 = N + (p + 1) from rfl, h.eq (p + 1) h2]
    simp [h2, show N + (p + 1) < T.size from by omega]
  · simp [h2, show ¬ N + p + 1 < T.size from by omega]
theorem Ends.gap (h : Ends b T N) (p : Nat) : Go.Proofs.YtmebcenjghagoaaGreatDoor.gap T (N + p) = N + Go.Proofs.YtmebcenjghagoaaGreatDoor.gap b p := by
  have h1 := h.sz
  induction hn : b.size - p using Nat.strongRecOn generalizing p with
  | _ n ih =>
    subst hn
    by_cases hlt : p < b.size
    · by_cases hb : isB (bAt b p) = true
      · rw [gap_blank b p hlt hb, gap_blank T _ (by omega) (by rwa [h.eq p hlt])]
        exact ih _ (by omega) (p + 1) rfl
      · by_cases hc : Go.Proofs.YtmebcenjghagoaaGreatDoor.isC b p = true
        · have e1 := isC_endl b p hc
          have e2 := endl_ge b (p + 1)
          rw [gap_comment b p hc, gap_comment T _ (by rwa [h.isC p]), h.endl p]
          exact ih _ (by omega) _ rfl
        · rw [gap_stop b p (fun _ => ⟨by simpa using hb, by simpa using hc⟩), gap_stop T _ (fun _ => ⟨by rw [h.eq p hlt]; simpa using hb, by rw [h.isC p]; simpa using hc⟩)]
    · rw [gap_stop b p (fun h => absurd h hlt), gap_stop T _ (fun h => absurd h (by omega))]
theorem Ends.line (h : Ends b T N) (p : Nat) (hp : p ≤ b.size) : lineS T (N + p) = lineS b p + nls T 0 N := by
  have h1 := h.sz
  unfold lineS
  rw [Nat.min_eq_left hp, Nat.min_eq_left (by omega), nls_add T 0 N (N + p) (by omega) (by omega), nls_same T b N (N + p) 0 p (by omega) (fun i hi => by rw [Nat.zero_add]; exact h.eq i (by omega))]
  omega
theorem Ends.loc (h : Ends b T N) (p : Nat) (hp : p ≤ b.size) : Loc b p T (N + p) (b.size - p) ∧ NoM b (p + (b.size - p)) ∧ NoM T (N + p + (b.size - p)) := by
  have h1 := h.sz
  have m1 : NoM b (p + (b.size - p)) := fun h => by omega
  have m2 : NoM T (N + p + (b.size - p)) := fun h => by omega
  exact ⟨⟨by omega, by omega, fun i hi => by rw [Nat.add_assoc]; exact h.eq _ (by omega), m1.noW, m2.noW⟩, m1, m2⟩
theorem lex_second (h : Ends b T N) (p : Nat) (hp : p ≤ b.size) (acc acc' : List Tk) :
    lexA T (gap T (N + p)) (acc ++ acc'.map (mv N (nls T 0 N))) = if (lexA b (gap b p) acc').2.1 = 0 then (acc ++ (lexA b (gap b p) acc').1.map (mv N (nls T 0 N)), (0, 0)) else ([], ((lexA b (gap b p) acc').2.1, N + (lexA b (gap b p) acc').2.2)) := by
  have h1 := h.sz
  induction hn : b.size - p using Nat.strongRecOn generalizing p acc' with
  | _ n ih =>
    subst hn
    have hg := gap_ge b p
    have hgl := gap_le b p hp
    rw [h.gap p]
    by_cases hlt : gap b p < b.size
    · obtain ⟨l1, l2, l3⟩ := h.loc (gap b p) hgl
      have hk := l1.one (by omega) l2 l3
      by_cases hok : (oneT b (gap b p)).2.1 = 0
      · obtain ⟨k1, k2⟩ := hk.tok hok
        have hc := hk.code
        rw [hok] at hc
        have hlk := oneT_k b (gap b p) hok
        have het : (oneT T (N + gap b p)).1 = mv N (nls T 0 N) (oneT b (gap b p)).1 := by
          rw [k1, h.line _ hgl, ← hlk.2.2]
          have := hlk.2.1
          generalize (oneT b (gap b p)).1 = x at *
          obtain ⟨k, q, l, t, m⟩ := x
          simp only at this
          simp only [mv, this]
        have hok2 := oneT_ok b (gap b p) hlt hok
        have hi := ih (b.size - (gap b p + (oneT b (gap b p)).1.t.size)) (by omega) _ (by omega) (acc' ++ [(oneT b (gap b p)).1]) rfl
        rw [lexA_step b _ acc' hlt hok, lexA_step T _ _ (by omega) hc, het]
        rw [List.map_append, ← List.append_assoc] at hi
        rw [show (mv N (nls T 0 N) (oneT b (gap b p)).1).t = (oneT b (gap b p)).1.t from rfl, Nat.add_assoc]
        exact hi
      · have hc := hk.code
        have ha := hk.at_ hok
        have he : (oneT T (N + gap b p)).2 = ((oneT b (gap b p)).2.1, N + (oneT b (gap b p)).2.2) := Prod.ext hc (by simp only; omega)
        rw [lexA_bad b _ acc' hlt hok, if_neg hok, lexA_bad T _ _ (by omega) (by rwa [hc]), he]
    · rw [lexA_end b _ acc' hlt, lexA_end T _ _ (by omega)]
      simp only [if_true, List.map_append, List.map_cons, List.map_nil, List.append_assoc]
      have hl : lineS T T.size = lineS b b.size + nls T 0 N := by rw [h1]; exact h.line b.size (Nat.le_refl _)
      rw [hl, h1]
      rfl
/-- The three answers together. -/
theorem lex_parts (hA : Begins A T) (hb : Ends b T A.size) (hs : T.size ≤ 20000) :
    ((lexS A).2.1 ≠ 0 → lexS T = lexS A) ∧ ((lexS A).2.1 = 0 → (lexS b).2.1 ≠ 0 → lexS T = ([], ((lexS b).2.1, A.size + (lexS b).2.2))) ∧
    ((lexS A).2.1 = 0 → (lexS b).2.1 = 0 → lexS T = ((lexS A).1.dropLast ++ (lexS b).1.map (mv A.size (nls A 0 A.size)), (0, 0))) := by
  have h1 := hb.sz
  have h0 := hA.le
  have e1 := lex_first hA 0 (by omega) []
  have e2 := lex_second hb 0 (by omega) (lexA A (gap A 0) []).1.dropLast []
  rw [Nat.add_zero, List.map_nil, List.append_nil] at e2
  have e3 : nls T 0 A.size = nls A 0 A.size := nls_same T A 0 _ 0 _ rfl (fun i hi => by rw [Nat.zero_add]; exact hA.eq i (by omega))
  rw [e3] at e2
  unfold lexS
  rw [if_neg (by omega), if_neg (by omega), if_neg (by omega), e1]
  refine ⟨fun h => by rw [if_neg h], fun h h2 => by rw [if_pos h, e2, if_neg h2], fun h h2 => by rw [if_pos h, e2, if_pos h2]⟩
end Go.Proofs.YtmebcenjghagoaaGreatDoor
