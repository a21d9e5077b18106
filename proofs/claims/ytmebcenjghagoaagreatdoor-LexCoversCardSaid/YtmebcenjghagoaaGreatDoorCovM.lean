/-
  The tokens of a text cover it; and set one behind the other, with a blank or a line end between, they are lexed to the same. No condition.
-/
import Derived.Test.YtmebcenjghagoaaGreatDoorBare
import Derived.Test.YtmebcenjghagoaaGreatDoorPartsP
namespace Go.Proofs.YtmebcenjghagoaaGreatDoor
open Go.RowKit

/-- These tokens cover a text from q on. -/
def Cov (s : ByteArray) : Nat → List Tk → Prop
  | q, [] => q = s.size
  | q, x :: l => q ≤ s.size ∧ x.p = gap s q ∧ x.l = lineS s x.p ∧ ((l = [] ∧ x.k = 0 ∧ x.t = ByteArray.empty ∧ x.n = 0 ∧ x.p = s.size) ∨ (l ≠ [] ∧ x.p < s.size ∧ oneT s x.p = (x, (0, 0)))) ∧ Cov s (x.p + x.t.size) l
theorem lexA_cov (s : ByteArray) (q : Nat) (acc : List Tk) (hq : q ≤ s.size) (h : (lexA s (gap s q) acc).2.1 = 0) : ∃ l, l ≠ [] ∧ (lexA s (gap s q) acc).1 = acc ++ l ∧ Cov s q l := by
  induction hn : s.size - q using Nat.strongRecOn generalizing q acc with
  | _ n ih =>
    subst hn
    have hg := gap_ge s q
    have hgl := gap_le s q hq
    by_cases hp : gap s q < s.size
    · by_cases h2 : (oneT s (gap s q)).2.1 = 0
      · rw [lexA_step s _ acc hp h2] at h ⊢
        have h3 := oneT_ok s _ hp h2
        have hk := oneT_k s _ h2
        obtain ⟨l, hl, he, hc⟩ := ih _ (by omega) (gap s q + (oneT s (gap s q)).1.t.size) _ (by omega) h rfl
        refine ⟨(oneT s (gap s q)).1 :: l, by simp, by rw [he, List.append_assoc]; rfl, hq, hk.2.1, ?_, Or.inr ⟨hl, ?_, ?_⟩, ?_⟩
        · rw [hk.2.1]; exact hk.2.2
        · rw [hk.2.1]; exact hp
        · rw [hk.2.1]; exact Prod.ext rfl (oneT_zero s _ h2)
        · rw [hk.2.1]; exact hc
      · rw [lexA_bad s _ acc hp h2] at h
        exact absurd h h2
    · rw [lexA_end s _ acc hp]
      have he : gap s q = s.size := by omega
      exact ⟨_, by simp, rfl, hq, he.symm, rfl, Or.inl ⟨rfl, rfl, rfl, rfl, rfl⟩, rfl⟩
theorem lexS_cov (s : ByteArray) (h : (lexS s).2.1 = 0) : Cov s 0 (lexS s).1 := by
  revert h
  unfold lexS
  split
  · intro h; cases h
  · intro h
    obtain ⟨l, _, he, hc⟩ := lexA_cov s 0 [] (Nat.zero_le _) h
    rw [he]
    exact hc
/-- What is known of a token, and of the place behind it. -/
structure TokOk (s : ByteArray) (q : Nat) (x : Tk) (last : Bool) : Prop where
  ge : q ≤ x.p
  le : x.p + x.t.size ≤ s.size
  text : s.extract x.p (x.p + x.t.size) = x.t
  bare : gap (s.extract q x.p) 0 = (s.extract q x.p).size
  line : x.l = lineS s x.p
  kind : (x.k = 0) = (last = true)
  empty : (x.t.size = 0) = (x.k = 0)
  num : x.k ≠ 2 → x.n = 0
theorem oneT_text (s : ByteArray) (p : Nat) (h : (oneT s p).2.1 = 0) : s.extract p (p + (oneT s p).1.t.size) = (oneT s p).1.t ∧ ((oneT s p).1.k ≠ 2 → (oneT s p).1.n = 0) := by
  by_cases hp : p < s.size
  · have key : ∀ e, p ≤ e → e ≤ s.size → (oneT s p).1.t = s.extract p e → s.extract p (p + (oneT s p).1.t.size) = (oneT s p).1.t := fun e h1 h2 he => by
      have hz := size_extract_of s p e h1 h2
      rw [← he] at hz
      rw [hz, he, show p + (e - p) = e from by omega]
    by_cases hl : isL (bAt s p) = true
    · have e : oneT s p = nameT s p := by unfold oneT; rw [if_pos hl]
      have e2 : (oneT s p).1.t = s.extract p (wend s p) ∧ ((oneT s p).1.k ≠ 2 → (oneT s p).1.n = 0) := by
        revert h
        rw [e]
        unfold nameT
        split
        · intro h; cases h
        · intro _; exact ⟨rfl, fun _ => rfl⟩
      exact ⟨key _ (wend_ge s p) (wend_le s p (by omega)) e2.1, e2.2⟩
    by_cases hd : isD (bAt s p) = true
    · have e : oneT s p = digitT s p := by unfold oneT; rw [if_neg hl, if_pos hd]
      obtain ⟨h1, h2, _⟩ := numE_first s p hp hd
      have e2 : (oneT s p).1.t = s.extract p (numE s p).2 ∧ ((oneT s p).1.k ≠ 2 → (oneT s p).1.n = 0) := by
        revert h
        rw [e]
        unfold digitT
        split
        · intro h; cases h
        split
        · intro h; cases h
        split
        · intro h; cases h
        · intro _; exact ⟨rfl, fun h => absurd rfl h⟩
      exact ⟨key _ (by omega) h2 e2.1, e2.2⟩
    · have e : oneT s p = markT s p := by unfold oneT; rw [if_neg hl, if_neg hd]
      revert h
      rw [e]
      unfold markT
      cases hf : markS s p marksL with
      | none => intro h; cases h
      | some m =>
        intro _
        exact ⟨isM_text s p m (List.find?_some hf), fun _ => rfl⟩
  · exfalso
    revert h
    have hb : bAt s p = 0 := by unfold bAt; rw [dif_neg hp]
    have e : oneT s p = markT s p := by unfold oneT; rw [hb]; rfl
    rw [e]
    unfold markT
    rw [markS_no s p (by rw [hb]; rfl)]
    intro h
    cases h
theorem Cov.tok {s : ByteArray} {q : Nat} {x : Tk} {l : List Tk} (h : Cov s q (x :: l)) : TokOk s q x l.isEmpty := by
  obtain ⟨hq, hp, hl, hc, _⟩ := h
  have hg := gap_ge s q
  have hgl := gap_le s q hq
  have hb := bare_of s q hgl
  rw [← hp] at hb hg hgl
  rcases hc with ⟨rfl, hk, ht, hn, he⟩ | ⟨hne, hlt, ho⟩
  · have hz : x.t.size = 0 := by rw [ht]; rfl
    exact ⟨hg, by omega, by rw [hz, ht, Nat.add_zero, extract_self]; rfl, hb, hl, by simp [hk], by simp [hz, hk], fun _ => hn⟩
  · have h2 : (oneT s x.p).2.1 = 0 := by rw [ho]
    have h3 := oneT_ok s x.p hlt h2
    have h4 := oneT_text s x.p h2
    have h5 := oneT_k s x.p h2
    rw [ho] at h3 h4 h5
    simp only at h3 h4 h5
    have he : l.isEmpty = false := by cases l with | nil => exact absurd rfl hne | cons _ _ => rfl
    refine ⟨hg, h3.2, h4.1, hb, hl, ?_, ?_, h4.2⟩
    · rw [he]; simpa using h5.1
    · have : x.t.size ≠ 0 := by omega
      simp [this, h5.1]
/-- What stands behind token i. -/
def sepS (i : Nat) : ByteArray := if i % 2 = 0 then ⟨#[32]⟩ else ⟨#[10]⟩
theorem sepS_size (i : Nat) : (sepS i).size = 1 := by unfold sepS; split <;> rfl
theorem sepS_at (i : Nat) : bAt (sepS i) 0 = if i % 2 = 0 then 32 else 10 := by unfold sepS; split <;> rfl
/-- The tokens' texts, one behind the other, from token i on. -/
def agS : Nat → List Tk → ByteArray
  | _, [] => ByteArray.empty
  | i, x :: l => (x.t ++ sepS i) ++ agS (i + 1) l
theorem agS_snoc (i : Nat) (l : List Tk) (x : Tk) : agS i (l ++ [x]) = (agS i l ++ x.t) ++ sepS (i + l.length) := by
  induction l generalizing i with
  | nil =>
    show (x.t ++ sepS i) ++ ByteArray.empty = (ByteArray.empty ++ x.t) ++ sepS (i + 0)
    rw [ByteArray.append_empty, ByteArray.empty_append, Nat.add_zero]
  | cons y l ih =>
    show (y.t ++ sepS i) ++ agS (i + 1) (l ++ [x]) = (((y.t ++ sepS i) ++ agS (i + 1) l) ++ x.t) ++ sepS (i + (l.length + 1))
    rw [ih (i + 1), show i + 1 + l.length = i + (l.length + 1) from by omega]
    simp only [ByteArray.append_assoc]
theorem agS_app (i : Nat) (l m : List Tk) : agS i (l ++ m) = agS i l ++ agS (i + l.length) m := by
  induction l generalizing i with
  | nil =>
    show agS i m = ByteArray.empty ++ agS (i + 0) m
    rw [ByteArray.empty_append, Nat.add_zero]
  | cons y l ih =>
    show (y.t ++ sepS i) ++ agS (i + 1) (l ++ m) = ((y.t ++ sepS i) ++ agS (i + 1) l) ++ agS (i + (l.length + 1)) m
    rw [ih (i + 1), show i + 1 + l.length = i + (l.length + 1) from by omega]
    simp only [ByteArray.append_assoc]
theorem Cov.size {s : ByteArray} : ∀ {q : Nat} {l : List Tk} (i : Nat), Cov s q l → q ≤ s.size ∧ (agS i l).size ≤ (s.size - q) + l.length
  | q, [], i, h => by
    have h' : q = s.size := h
    have : (agS i []).size = 0 := rfl
    rw [this]
    omega
  | q, x :: l, i, h => by
    have ht := h.tok
    have hr := Cov.size (i + 1) h.2.2.2.2
    have : (agS i (x :: l)).size = x.t.size + 1 + (agS (i + 1) l).size := by
      show ((x.t ++ sepS i) ++ agS (i + 1) l).size = _
      rw [ByteArray.size_append, ByteArray.size_append, sepS_size]
    rw [this, List.length_cons]
    have h1 := ht.ge
    have h2 := ht.le
    have h3 := h.1
    omega
/-- No mark of two bytes begins with a slash. -/
theorem marks_slash : ∀ m ∈ marksL, m.size = 1 ∨ bAt m 0 ≠ 47 := by decide
theorem tok_slash (t : ByteArray) (ht : 0 < t.size) (k n : Nat) (v : Int) (h : oneT t 0 = (⟨k, 0, n, t, v⟩, (0, 0))) : isB (bAt t 0) = false ∧ (t.size = 1 ∨ bAt t 0 ≠ 47) := by
  have hb : isB (bAt t 0) = false := by
    cases hb : isB (bAt t 0)
    · rfl
    · exfalso
      obtain ⟨a, c, _⟩ := excl_B _ hb
      have e : oneT t 0 = markT t 0 := by unfold oneT; rw [if_neg (by simp [a]), if_neg (by simp [c])]
      rw [e] at h
      unfold markT at h
      cases hf : markS t 0 marksL with
      | none => rw [hf] at h; cases h
      | some m =>
        have h3 := List.find?_some hf
        have h4 := List.mem_of_find?_eq_some hf
        have h5 := isM_first t 0 m (marks_pos m h4) h3
        have := mark_notB m h4 0 (marks_pos m h4)
        rw [h5, hb] at this
        cases this
  refine ⟨hb, ?_⟩
  by_cases h47 : bAt t 0 = 47
  · left
    have e : oneT t 0 = markT t 0 := by unfold oneT; rw [h47]; rfl
    rw [e] at h
    unfold markT at h
    cases hf : markS t 0 marksL with
    | none => rw [hf] at h; cases h
    | some m =>
      rw [hf] at h
      have hm : m = t := by injection h with h _; injection h
      have h4 := List.mem_of_find?_eq_some hf
      rw [hm] at h4
      exact (marks_slash t h4).resolve_right (fun h => h h47)
  · exact Or.inr h47
/-- What the second lexing finds. -/
def Anew (i n : Nat) (x y : Tk) : Prop := y.k = x.k ∧ y.t = x.t ∧ y.n = x.n ∧ (i + 1 < n → y.l = 1 + i / 2)
theorem lex_anew (s T : ByteArray) : ∀ (rest : List Tk) (q i n : Nat) (P : ByteArray) (acc : List Tk), Cov s q rest → rest ≠ [] → n = i + rest.length → T = P ++ agS i rest → nls T 0 P.size = i / 2 →
    ∃ M, lexA T (gap T P.size) acc = (acc ++ M, (0, 0)) ∧ M.length = rest.length ∧ ∀ j x y, rest[j]? = some x → M[j]? = some y → Anew (i + j) n x y
  | [], _, _, _, _, _, _, h, _, _, _ => absurd rfl h
  | x :: l, q, i, n, P, acc, hc, _, hn, hT, hl => by
    have hag : agS i (x :: l) = (x.t ++ sepS i) ++ agS (i + 1) l := rfl
    have hTs : T.size = P.size + (x.t.size + 1 + (agS (i + 1) l).size) := by rw [hT, hag, ByteArray.size_append, ByteArray.size_append, ByteArray.size_append, sepS_size]
    have hT2 : T = ((P ++ x.t) ++ sepS i) ++ agS (i + 1) l := by rw [hT, hag]; simp only [ByteArray.append_assoc]
    have hsep : bAt T (P.size + x.t.size) = if i % 2 = 0 then 32 else 10 := by
      have hz : (P ++ x.t).size = P.size + x.t.size := ByteArray.size_append
      rw [← sepS_at i, ← hz, hT2, ByteArray.append_assoc]
      have h0 : bAt ((P ++ x.t) ++ (sepS i ++ agS (i + 1) l)) (P ++ x.t).size = bAt (sepS i ++ agS (i + 1) l) 0 := bAt_app2 (P ++ x.t) (sepS i ++ agS (i + 1) l) 0 (by rw [ByteArray.size_append, sepS_size]; omega)
      rw [h0, bAt_app1 _ _ 0 (by rw [sepS_size]; omega)]
    have hsB : isB (bAt T (P.size + x.t.size)) = true := by rw [hsep]; split <;> rfl
    have hgs := gap_blank T (P.size + x.t.size) (by omega) hsB
    obtain ⟨hq, hp, _, hcase, hrest⟩ := hc
    rcases hcase with ⟨rfl, hk, ht, hnn, _⟩ | ⟨hne, hlt, ho⟩
    · have hz0 : x.t.size = 0 := by rw [ht]; rfl
      have ha0 : (agS (i + 1) ([] : List Tk)).size = 0 := rfl
      rw [hz0, Nat.add_zero] at hgs
      have hge := gap_ge T (P.size + 1)
      refine ⟨[⟨0, T.size, lineS T T.size, ByteArray.empty, 0⟩], lexA_end T _ acc (by omega), rfl, fun j y z hy hz => ?_⟩
      cases j with
      | zero =>
        simp only [List.getElem?_cons_zero, Option.some.injEq] at hy hz
        subst hy hz
        exact ⟨hk.symm, ht.symm, hnn.symm, fun h => by rw [hn, List.length_singleton] at h; omega⟩
      | succ j => simp at hy
    · have hok : (oneT s x.p).2.1 = 0 := by rw [ho]
      have hsz := oneT_ok s x.p hlt hok
      have hal := oneT_alone s x.p hlt hok
      rw [ho] at hsz hal
      simp only at hsz hal
      obtain ⟨hf1, hf2⟩ := tok_slash x.t (by omega) _ _ _ hal
      have hbT : ∀ j, j < x.t.size → bAt T (P.size + j) = bAt x.t j := fun j hj => by
        rw [hT, hag, ByteArray.append_assoc, bAt_app2 P _ j (by rw [ByteArray.size_append]; omega), bAt_app1 _ _ j hj]
      have hb0 := hbT 0 (by omega)
      rw [Nat.add_zero] at hb0
      have hnC : isC T P.size = false := by
        cases hcc : isC T P.size
        · rfl
        · exfalso
          simp only [isC, Bool.and_eq_true, decide_eq_true_eq, beq_iff_eq] at hcc
          rcases hf2 with h1 | h1
          · have := hcc.2.2
            rw [← h1, hsep] at this
            split at this <;> omega
          · exact h1 (by rw [← hb0]; exact hcc.2.1)
      have hg0 : gap T P.size = P.size := gap_stop T P.size (fun _ => ⟨by rw [hb0]; exact hf1, hnC⟩)
      have hNM : NoM T (P.size + x.t.size) := fun _ => hsB
      have hN0 : NoM x.t (0 + x.t.size) := fun h => by omega
      have hloc : Loc x.t 0 T P.size x.t.size := ⟨by omega, by omega, fun j hj => by rw [Nat.zero_add]; exact hbT j hj, hN0.noW, hNM.noW⟩
      have hlk := hloc.one (by omega) hN0 hNM
      rw [hal] at hlk
      have hcode : (oneT T P.size).2.1 = 0 := hlk.code
      have htok : (oneT T P.size).1 = ⟨x.k, P.size, lineS T P.size, x.t, x.n⟩ := (hlk.tok rfl).1
      have hln := tok_line T P.size (by omega) hcode
      have hst := lexA_step T P.size acc (by omega) hcode
      rw [htok] at hln hst
      simp only at hln hst
      have hP2 : (((P ++ x.t) ++ sepS i)).size = P.size + x.t.size + 1 := by rw [ByteArray.size_append, ByteArray.size_append, sepS_size]
      have hl2 : nls T 0 ((P ++ x.t) ++ sepS i).size = (i + 1) / 2 := by
        rw [hP2, nls_succ T 0 _ (by omega), nls_add T 0 P.size _ (by omega) (by omega), hl, hln, hsep]
        by_cases h2 : i % 2 = 0
        · rw [if_pos h2]; simp; omega
        · rw [if_neg h2]; simp; omega
      obtain ⟨M, hM, hML, hMM⟩ := lex_anew s T l (x.p + x.t.size) (i + 1) n ((P ++ x.t) ++ sepS i) (acc ++ [⟨x.k, P.size, lineS T P.size, x.t, x.n⟩]) hrest hne (by rw [hn, List.length_cons]; omega) hT2 hl2
      rw [hP2] at hM
      refine ⟨⟨x.k, P.size, lineS T P.size, x.t, x.n⟩ :: M, ?_, by rw [List.length_cons, List.length_cons, hML], fun j y z hy hz => ?_⟩
      · rw [hg0, hst, hgs, hM, List.append_assoc]
        rfl
      · cases j with
        | zero =>
          simp only [List.getElem?_cons_zero, Option.some.injEq] at hy hz
          subst hy hz
          refine ⟨rfl, rfl, rfl, fun _ => ?_⟩
          show lineS T P.size = _
          unfold lineS
          rw [Nat.min_eq_left (by omega), hl, Nat.add_zero]
        | succ j =>
          simp only [List.getElem?_cons_succ] at hy hz
          have := hMM j y z hy hz
          rwa [show i + 1 + j = i + (j + 1) from by omega] at this
/-- The second lexing, whole. -/
theorem lexS_anew (s : ByteArray) (hs : s.size ≤ 2000) (h : (lexS s).2.1 = 0) : (lexS (agS 0 (lexS s).1)).2 = (0, 0) ∧ (lexS (agS 0 (lexS s).1)).1.length = (lexS s).1.length ∧ (agS 0 (lexS s).1).size ≤ 5000 ∧
    ∀ j x y, (lexS s).1[j]? = some x → (lexS (agS 0 (lexS s).1)).1[j]? = some y → Anew j (lexS s).1.length x y := by
  have hc := lexS_cov s h
  have hne := (lexS_pos s h).1
  have hlen := lexS_len s
  have hsz := (hc.size 0).2
  generalize (lexS s).1 = R at *
  obtain ⟨M, h1, h2, h3⟩ := lex_anew s (agS 0 R) R 0 0 R.length ByteArray.empty [] hc hne (by omega) (by rw [ByteArray.empty_append]) (nls_self _ _)
  have h1' : lexA (agS 0 R) (gap (agS 0 R) 0) [] = (M, (0, 0)) := h1
  have e : lexS (agS 0 R) = (M, (0, 0)) := by
    unfold lexS
    rw [if_neg (by omega), h1']
  rw [e]
  refine ⟨rfl, h2, by omega, fun j x y hx hy => ?_⟩
  have := h3 j x y hx hy
  rwa [Nat.zero_add] at this
end Go.Proofs.YtmebcenjghagoaaGreatDoor
