/-
  What a player keeps between two inputs; what there is, out of the last values that came. Plain words and worlds.
-/
import Derived.Test.YtimlhckihkjifaaOkIter
namespace Go.Proofs.Ytimlhckihkjifaa
open Go.RowKit Go.Shelf
set_option linter.unusedVariables false
set_option linter.unusedSimpArgs false
def lvF (l : List In) : Lv := l.foldl comeL ⟨0, 0, 0⟩
def anyB (c : Int) (l : List In) : Bool := l.any fun x => x.k == 1 && x.a == c
theorem lvF_on {l : List In} {j : Nat} {x : In} (h : l[j]? = some x) : lvF (l.take (j + 1)) = comeL (lvF (l.take j)) x := by
  rw [List.take_add_one, h]
  simp [lvF]
theorem anyB_on {l : List In} {j : Nat} {x : In} (c : Int) (h : l[j]? = some x) : anyB c (l.take (j + 1)) = (anyB c (l.take j) || (x.k == 1 && x.a == c)) := by
  rw [List.take_add_one, h]
  simp [anyB]
theorem anyB_none {l : List In} {c : Int} (h : ∀ x ∈ l, x.a < c) : anyB c l = false := by
  unfold anyB
  rw [List.any_eq_false]
  intro x hx
  have := h x hx
  simp
  omega
/-- The place up to which the inputs have come by a cycle. -/
structure Upt (l : List In) (c : Int) (j : Nat) : Prop where
  le : j ≤ l.length
  lo : ∀ q y, q < j → l[q]? = some y → y.a ≤ c
  hi : ∀ q y, j ≤ q → l[q]? = some y → c < y.a
theorem atF_hi (c : Int) : ∀ (l : List In) (n : Nw), (∀ y ∈ l, c < y.a) → atF c n l = n
  | [], n, _ => rfl
  | x :: t, n, h => by
    have hx := h x (List.mem_cons_self ..)
    have hs : stepN c n x = n := by
      unfold stepN step1 step2 step3
      rw [if_neg (by omega), if_neg (by omega), if_neg (by omega)]
    rw [atF, hs]
    exact atF_hi c t n fun y hy => h y (List.mem_cons_of_mem _ hy)
theorem atF_append (c : Int) : ∀ (l m : List In) (n : Nw), atF c n (l ++ m) = atF c (atF c n l) m
  | [], m, n => rfl
  | x :: t, m, n => by rw [List.cons_append, atF, atF, atF_append c t m]
theorem step_lo {c : Int} {v : Lv} {b : Bool} {x : In} (hx : Rng x) (hc : x.a ≤ c) (hb : b = true → x.k ≠ 1) : stepN c (nowL v b) x = nowL (comeL v x) (b || (x.k == 1 && x.a == c)) := by
  have h0 := hx.2.2.1
  have h2 := hx.2.2.2
  obtain hk | hk | hk : x.k = 0 ∨ x.k = 1 ∨ x.k = 2 := by omega
  · simp [stepN, step1, step2, step3, comeL, nowL, hk, hc]
  · have hb2 : b = false := by
      cases b
      · rfl
      · exact absurd hk (hb rfl)
    subst hb2
    by_cases ha : x.a = c
    · simp [stepN, step1, step2, step3, comeL, nowL, hk, ha]
    · simp [stepN, step1, step2, step3, comeL, nowL, hk, ha]
  · simp [stepN, step1, step2, step3, comeL, nowL, hk, hc]
theorem at_low {l : List In} (hs : Scr l) {c : Int} : ∀ j, j ≤ l.length → (∀ q y, q < j → l[q]? = some y → y.a ≤ c) → atF c n0 (l.take j) = nowL (lvF (l.take j)) (anyB c (l.take j))
  | 0, _, _ => rfl
  | j + 1, hj, h => by
    obtain ⟨x, hx⟩ : ∃ x, l[j]? = some x := ⟨l[j], List.getElem?_eq_getElem hj⟩
    have ih := at_low hs j (by omega) fun q y hq hy => h q y (by omega) hy
    rw [lvF_on hx, anyB_on c hx]
    rw [List.take_add_one, hx, Option.toList_some, atF_append, ih]
    show stepN c _ x = _
    refine step_lo (hs.rng x (List.mem_of_getElem? hx)) (h j x (by omega) hx) fun hb hk => ?_
    unfold anyB at hb
    rw [List.any_eq_true] at hb
    obtain ⟨y, hy, hyc⟩ := hb
    obtain ⟨q, hq⟩ := List.mem_iff_getElem?.1 hy
    rw [List.getElem?_take] at hq
    split at hq
    · have h1 := (ahead_iff _ _).1 (hs.lt (by assumption) hq hx)
      have h2 := h j x (by omega) hx
      simp only [Bool.and_eq_true, beq_iff_eq] at hyc
      omega
    · cases hq
theorem at_upt {l : List In} (hs : Scr l) {c : Int} {j : Nat} (h : Upt l c j) : atF c n0 l = nowL (lvF (l.take j)) (anyB c (l.take j)) := by
  have e : l = l.take j ++ l.drop j := (List.take_append_drop j l).symm
  have h1 : atF c n0 l = atF c (atF c n0 (l.take j)) (l.drop j) := by rw [← atF_append, ← e]
  rw [h1, at_low hs j h.le h.lo]
  refine atF_hi c _ _ fun y hy => ?_
  obtain ⟨q, hq⟩ := List.mem_iff_getElem?.1 hy
  rw [List.getElem?_drop] at hq
  exact h.hi _ y (Nat.le_add_right _ _) hq
theorem chk_ok {l : List In} (hs : Scr l) : (chkL l).2 = 0 := by rw [hs.chk]
theorem at_now {l : List In} (hs : Scr l) {c : Int} (hc : 1 ≤ c) {j : Nat} (h : Upt l c j) : nowL (lvF (l.take j)) (anyB c (l.take j)) = atL l c := by
  rw [← at_upt hs h]
  unfold atL
  rw [if_neg (by rintro (h1 | h1); exact h1 (chk_ok hs); omega)]
theorem lvF_ok : ∀ (l : List In) (v : Lv), v.ok → (∀ x ∈ l, x.v < 256) → (l.foldl comeL v).ok
  | [], v, hv, _ => hv
  | x :: t, v, hv, h => lvF_ok t _ (comeL_ok hv (h x (List.mem_cons_self ..))) fun y hy => h y (List.mem_cons_of_mem _ hy)
/-- The world of a range: what lay there stays, but for the player and a variable. -/
structure JU (W0 : World) (D g ib : Nat) (rc : Loop) (cs : List Value) (b : Bool) (W : World) : Prop where
  d : W.heap[D]? = some (.deferred (some []))
  l : W.heap[D + 1]? = some (.loop rc)
  fr : ∀ k, k < D → k ≠ g → k ≠ ib → W.heap[k]? = W0.heap[k]?
  pl : VRow W g 61 cs
  ib : VRow W ib 4 [.bool b]
  os : W.os = W0.os
  tape : W.tape = W0.tape
  output : W.output = W0.output
section
variable {W0 W W' : World} {D g ib : Nat} {rc rc' : Loop} {cs cs' : List Value} {b b' : Bool}
theorem JU.ltD (h : JU W0 D g ib rc cs b W) : D + 1 < W.heap.size := (Array.getElem?_eq_some_iff.1 h.l).1
theorem JU.below (h : JU W0 D g ib rc cs b W) (hb : Below W.heap.size W W') : JU W0 D g ib rc cs b W' :=
  have hD := h.ltD
  ⟨(hb.block _ (by omega)).trans h.d, (hb.block _ hD).trans h.l, fun k hk h1 h2 => (hb.block k (by omega)).trans (h.fr k hk h1 h2), VRow.below h.pl hb (VRow.lt h.pl), VRow.below h.ib hb (VRow.lt h.ib), hb.os.trans h.os, hb.tape.trans h.tape, hb.output.trans h.output⟩
theorem JU.put (h : JU W0 D g ib rc cs b W) (hg : g < D) (hi : ib < D) (rc' : Loop) : JU W0 D g ib rc' cs b (W.putObj (D + 1) (.loop rc')) :=
  have e : ∀ k, k ≠ D + 1 → (W.putObj (D + 1) (.loop rc')).heap[k]? = W.heap[k]? := fun k hk => World.putObj_heap_other hk
  ⟨(e _ (by omega)).trans h.d, World.putObj_heap_same h.ltD, fun k hk h1 h2 => (e k (by omega)).trans (h.fr k hk h1 h2), (e _ (by omega)).trans h.pl, (e _ (by omega)).trans h.ib, h.os, h.tape, h.output⟩
/-- The player alone has changed. -/
theorem JU.setG (h : JU W0 D g ib rc cs b W) (hg : g < D) (hi : ib < D) (hgi : g ≠ ib) (hr : VRow W' g 61 cs') (ho : Only (fun k => k = g) W W') : JU W0 D g ib rc cs' b W' :=
  have hD := h.ltD
  have e : ∀ k, k < W.heap.size → k ≠ g → W'.heap[k]? = W.heap[k]? := fun k hk hne => ho.blk k hk hne
  ⟨(e _ (by omega) (by omega)).trans h.d, (e _ hD (by omega)).trans h.l, fun k hk h1 h2 => (e k (by omega) h1).trans (h.fr k hk h1 h2), hr, (e _ (VRow.lt h.ib) (Ne.symm hgi)).trans h.ib, ho.os.trans h.os, ho.tape.trans h.tape, ho.output.trans h.output⟩
theorem JU.cell (h : JU W0 D g ib rc cs b W) (hg : g < D) (hi : ib < D) (hgi : g ≠ ib) (j : Nat) (v : Value) : JU W0 D g ib rc (cs.set j v) b (W.setCell ⟨g, j, none⟩ v) := by
  have e : ∀ k, k ≠ g → (W.setCell ⟨g, j, none⟩ v).heap[k]? = W.heap[k]? := fun k hk => Below.heap_setCell _ _ _ _ hk
  exact ⟨(e _ (by omega)).trans h.d, (e _ (by omega)).trans h.l, fun k hk h1 h2 => (e k h1).trans (h.fr k hk h1 h2), row_setCell h.pl, (e _ (Ne.symm hgi)).trans h.ib, h.os, h.tape, h.output⟩
theorem JU.setI (h : JU W0 D g ib rc cs b W) (hg : g < D) (hi : ib < D) (hgi : g ≠ ib) (b' : Bool) : JU W0 D g ib rc cs b' (W.setCell ⟨ib, 0, none⟩ (.bool b')) := by
  have e : ∀ k, k ≠ ib → (W.setCell ⟨ib, 0, none⟩ (.bool b')).heap[k]? = W.heap[k]? := fun k hk => Below.heap_setCell _ _ _ _ hk
  exact ⟨(e _ (by omega)).trans h.d, (e _ (by omega)).trans h.l, fun k hk h1 h2 => (e k h2).trans (h.fr k hk h1 h2), (e _ hgi).trans h.pl, row_setCell (l := [.bool b]) h.ib, h.os, h.tape, h.output⟩
/-- What was a row is one. -/
theorem JU.row (h : JU W0 D g ib rc cs b W) {k : Nat} {t : TypeId} {l : List Value} (hr : VRow W0 k t l) (hk : k < D) (h1 : k ≠ g) (h2 : k ≠ ib) : VRow W k t l := (h.fr k hk h1 h2).trans hr
theorem JU.rd (h : JU W0 D g ib rc cs b W) {T : Nat → Prop} {A : Option Addr} {l : List In} (hr : RdS W0 T A l) (hT : ∀ k, T k → k < D ∧ k ≠ g ∧ k ≠ ib) : RdS W T A l :=
  ⟨hr.len, hr.ok, fun j x hj => by
    obtain ⟨a, e, ht, hl, hc⟩ := hr.at_ j x hj
    obtain ⟨t1, t2, t3⟩ := hT _ ht
    have hD := h.ltD
    refine ⟨a, e, ht, by omega, fun i u hu => ?_⟩
    have := hc i u hu
    unfold World.cell? at this ⊢
    rw [add_block, add_block, h.fr _ t1 t2 t3]
    rw [add_block, add_block] at this
    exact this⟩
end
end Go.Proofs.Ytimlhckihkjifaa
