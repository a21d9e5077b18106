/-
  All that the law asks of what was built, as contracts in any later world: order, depths, ways, bounds.
-/
import Derived.Test.YtchhbhgbpimegaaDoorBuilt
namespace Go.Proofs.YtchhbhgbpimegaaDoor
open Go.RowKit
set_option linter.unusedVariables false
structure Facts (W : World) (gv sv pv : Value) (N : Nat) (Gf : Nat → List Nat) (sz pr : List Int) (ol : List Nat) (D : Nat → Int) : Prop where
  olen : ol.length = N
  nd : ol.Nodup
  olt : ∀ f ∈ ol, f < N
  before : ∀ f c, f < N → c ∈ Gf f → ¬ atF ol N c > atF ol N f
  glt : ∀ f, f < N → ∀ c ∈ Gf f, c < N
  glen : ∀ f, f < N → (Gf f).length ≤ 1048576
  small : ∀ f, 0 ≤ D f ∧ D f ≤ 64000
  order : ∀ X, Below W.heap.size W X → Calls Tryd.prog 15 #[gv] X fun e w' => ∃ v', e = .returned (.tuple #[v', .bool true]) ∧ RowIs w' v' ol ∧ Below X.heap.size X w'
  deep : ∀ X, Below W.heap.size W X → Calls Tryd.prog 16 #[gv, sv] X fun e w' => ∃ db, e = .returned (.slice (some ⟨db, 0, none⟩) N N) ∧ w'.heap[db]? = some (.cells (wsL N D).toArray 3 (0, 0)) ∧ Below X.heap.size X w'
  walk : ∀ X f, f < N → Below W.heap.size W X → Calls Tryd.prog 17 #[gv, sv, .int .i64 (f : Nat)] X fun e w' => e = .returned (.int .i64 (D f)) ∧ Below X.heap.size X w'
  bound0 : N = 0 → ∀ X, Below W.heap.size W X → Calls Tryd.prog 18 #[gv, sv, .int .i64 0, pv] X fun e w' => e = .returned (.int .i64 0) ∧ Below X.heap.size X w'
  bound1 : 1 ≤ N → ∀ X, Below W.heap.size W X → Calls Tryd.prog 18 #[gv, sv, .int .i64 ((N : Int) - 1), pv] X fun e w' => e = .returned (.int .i64 (needL N pr D 7)) ∧ Below X.heap.size X w'
  bound2 : 1 ≤ N → ∀ X, Below W.heap.size W X → Calls Tryd.prog 18 #[gv, sv, .int .i64 ((N : Int) - 1), .slice none 0 0] X fun e w' => e = .returned (.int .i64 (D (N - 1))) ∧ Below X.heap.size X w'
  bound3 : ∀ X, Below W.heap.size W X → Calls Tryd.prog 18 #[gv, sv, .int .i64 (-1), .slice none 0 0] X fun e w' => e = .returned (.int .i64 0) ∧ Below X.heap.size X w'
theorem mostL_small (pr : List Int) (D : Nat → Int) (hD : ∀ f, 0 ≤ D f ∧ D f ≤ 64000) (p k : Nat) : 0 ≤ mostL pr D p k ∧ mostL pr D p k ≤ 64000 := by
  induction k with
  | zero => exact ⟨Int.le_refl _, by show (0 : Int) ≤ 64000; decide⟩
  | succ k ih =>
    have := hD k
    rw [mostL]
    split <;> omega
theorem needL_small (n : Nat) (pr : List Int) (D : Nat → Int) (hD : ∀ f, 0 ≤ D f ∧ D f ≤ 64000) (p : Nat) : 0 ≤ needL n pr D p ∧ needL n pr D p ≤ 64000 * ((p : Int) + 1) := by
  induction p with
  | zero =>
    have := hD (n - 1)
    exact ⟨this.1, by show D (n - 1) ≤ _; omega⟩
  | succ p ih =>
    have := mostL_small pr D hD (p + 1) n
    rw [needL, Int.natCast_add]
    omega
theorem intsIs_nil (w : World) : IntsIs w (.slice none 0 0) [] := ⟨none, 0, rfl, fun j x hj => by simp at hj⟩
theorem built_facts {B : Nat} {W : World} {gv sv pv : Value} {us : List Value} {G : List (List Nat)} {sz pr : List Int} (h : Built B W gv sv pv us G sz pr) (h9 : G.length ≤ 9) (hs : sz.length = G.length) (hp : pr.length = G.length) (hT : Tab W) :
    ∃ ol D, Facts W gv sv pv G.length (fun f => G.getD f []) sz pr ol D := by
  obtain ⟨hF, hl⟩ := h.fine h9
  have hg := h.graph
  have hS : IntsIs W sv sz := intsIs_own h.s
  have hP : IntsIs W pv pr := intsIs_own h.p
  have hsz : Sizes sz := ⟨by omega, fun x hx => by have := h.sok x hx; omega⟩
  have hpl : pr.length ≤ 1048576 := by omega
  have hfull := order_whole hF hl
  have hsm := deepL_small (cnt fun f => G.getD f []) sz hsz (orderL G.length (cnt fun f => G.getD f []))
  have hw := fun f hf => deep_walk hF hl hsz f hf
  have hI := orderL_inv hF.isG
  have hbf := fun f c hf hc => atF_before hF hl f c hf hc
  have hlens : ∀ f, f < G.length → (G.getD f []).length ≤ 1048576 := hF.len
  refine ⟨orderL G.length (cnt fun f => G.getD f []), deepL (cnt fun f => G.getD f []) sz (orderL G.length (cnt fun f => G.getD f [])), hfull, hI.nd, hI.lt, hbf, hF.lt, hlens, fun f => ?_, fun X hX => ?_, fun X hX => ?_, fun X f hf hX => ?_, fun h0 X hX => ?_, fun h1 X hX => ?_, fun h1 X hX => ?_, fun X hX => ?_⟩
  · have := hsm f
    rw [hfull] at this
    omega
  · refine (order_full _ _ gv X hF hfull (hg.below hX) (hT.below hX (Nat.le_refl _))).mono ?_
    rintro e w' ⟨v', rfl, ho, hb⟩
    refine ⟨v', rfl, rowIs_own (B := X.heap.size) (e := 3) ?_, hb⟩
    rw [hfull]
    exact ho
  · refine (deep_full _ _ gv sz sv X hF hfull (hg.below hX) (hS.below hX) hsz (hT.below hX (Nat.le_refl _))).mono ?_
    rintro e w' ⟨v', db, rfl, rfl, _, hrow, hb⟩
    exact ⟨db, rfl, hrow, hb⟩
  · refine walk_any G.length (fun f => G.getD f []) sz _ hl hs hlens (fun f hf => ?_) (fun f => ?_) gv sv (fun x hx => by have := h.sok x hx; omega) f X hf (hg.below hX) (hS.below hX)
    · rw [hw f hf, toldI_nat sz f (by omega)]
      congr 1
      have hx : sz[f]? = some (sz.getD f 0) := by
        have h1 : f < sz.length := by omega
        simp [h1]
      have := h.sok _ (List.mem_of_getElem? hx)
      omega
    · have := hsm f
      rw [hfull] at this
      omega
  · have hb := bound_full _ _ gv sz sv 0 pr pv X hF hfull (hg.below hX) (hS.below hX) hsz (hP.below hX) hpl (hT.below hX (Nat.le_refl _))
    refine hb.mono ?_
    rintro e w' ⟨rfl, hb⟩
    refine ⟨?_, hb⟩
    congr 2
    rw [h0]
    exact bound_empty pr _ 0
  · have hb := bound_full _ _ gv sz sv ((G.length : Int) - 1) pr pv X hF hfull (hg.below hX) (hS.below hX) hsz (hP.below hX) hpl (hT.below hX (Nat.le_refl _))
    rwa [bound_need _ pr _ (fun f => (hsm f).1) h1 hp] at hb
  · have hb := bound_full _ _ gv sz sv ((G.length : Int) - 1) [] (.slice none 0 0) X hF hfull (hg.below hX) (hS.below hX) hsz (intsIs_nil _) (by decide) (hT.below hX (Nat.le_refl _))
    rwa [bound_main _ _ h1] at hb
  · have hb := bound_full _ _ gv sz sv (-1) [] (.slice none 0 0) X hF hfull (hg.below hX) (hS.below hX) hsz (intsIs_nil _) (by decide) (hT.below hX (Nat.le_refl _))
    rwa [bound_none] at hb
end Go.Proofs.YtchhbhgbpimegaaDoor
