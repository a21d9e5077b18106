/-
  Bound: the depth of main, and of each priority the greatest one.
-/
import Derived.Test.YtchhbhgbpimegaaDoorDeep
namespace Go.Proofs.YtchhbhgbpimegaaDoor
open Go.RowKit
set_option linter.unusedVariables false
/-- The depths of the handlers below k of priority p. -/
def prioL (k : Nat) (pr : List Int) (D : Nat → Int) (p : Nat) : List Int := ((List.range k).filter fun f => toldI pr (f : Nat) == (p : Int) && decide (1 ≤ p) && decide (p ≤ 7)).map D
def sumTo (n : Nat) (pr : List Int) (D : Nat → Int) : Nat → Int
  | 0 => 0
  | p + 1 => sumTo n pr D p + greatL (prioL n pr D p)
/-- The bound. -/
def boundL (n : Nat) (pr : List Int) (D : Nat → Int) (main : Int) : Int := toldI ((List.range n).map D) main + sumTo n pr D 8
def prioN (k : Nat) (pr : List Int) (D : Nat → Int) (p : Nat) : List Nat := (prioL k pr D p).map Int.toNat
theorem prioL_no (k : Nat) (pr : List Int) (D : Nat → Int) (p : Nat) (h : ¬ (toldI pr (k : Nat) = (p : Int) ∧ 1 ≤ p ∧ p ≤ 7)) : prioL (k + 1) pr D p = prioL k pr D p := by
  unfold prioL
  rw [List.range_succ, List.filter_append]
  have : (toldI pr (k : Nat) == (p : Int) && decide (1 ≤ p) && decide (p ≤ 7)) = false := by
    rw [Bool.and_eq_false_iff, Bool.and_eq_false_iff, beq_eq_false_iff_ne, decide_eq_false_iff_not, decide_eq_false_iff_not]
    by_cases h1 : toldI pr (k : Nat) = (p : Int)
    · by_cases h2 : 1 ≤ p
      · exact .inr fun h3 => h ⟨h1, h2, h3⟩
      · exact .inl (.inr h2)
    · exact .inl (.inl h1)
  simp only [List.filter_cons, this, List.filter_nil]
  simp
theorem prioL_yes (k : Nat) (pr : List Int) (D : Nat → Int) (p : Nat) (h : toldI pr (k : Nat) = (p : Int) ∧ 1 ≤ p ∧ p ≤ 7) : prioL (k + 1) pr D p = prioL k pr D p ++ [D k] := by
  unfold prioL
  rw [List.range_succ, List.filter_append]
  have : (toldI pr (k : Nat) == (p : Int) && decide (1 ≤ p) && decide (p ≤ 7)) = true := by
    obtain ⟨h1, h2, h3⟩ := h
    simp [h1, h2, h3]
  simp only [List.filter_cons, this, List.filter_nil, if_true, List.map_append, List.map_cons, List.map_nil]
theorem prioL_len (k : Nat) (pr : List Int) (D : Nat → Int) (p : Nat) : (prioL k pr D p).length ≤ k := by
  unfold prioL
  rw [List.length_map]
  have := List.length_filter_le (fun f => toldI pr (f : Nat) == (p : Int) && decide (1 ≤ p) && decide (p ≤ 7)) (List.range k)
  simpa using this
theorem mem_prioL {k : Nat} {pr : List Int} {D : Nat → Int} {p : Nat} {y : Int} (h : y ∈ prioL k pr D p) : ∃ f, y = D f := by
  obtain ⟨f, _, rfl⟩ := List.mem_map.1 h
  exact ⟨f, rfl⟩
theorem prioN_jv (k : Nat) (pr : List Int) (D : Nat → Int) (p : Nat) (hD : ∀ f, 0 ≤ D f) : (prioN k pr D p).map iv = (prioL k pr D p).map jv := by
  unfold prioN
  rw [List.map_map]
  apply List.map_congr_left
  intro y hy
  obtain ⟨f, rfl⟩ := mem_prioL hy
  have := hD f
  simp only [Function.comp, iv, jv]
  congr 1
  omega
theorem sumTo_small (n : Nat) (pr : List Int) (D : Nat → Int) (b : Int) (hb : 0 ≤ b) (hD : ∀ f, 0 ≤ D f ∧ D f ≤ b) (p : Nat) : 0 ≤ sumTo n pr D p ∧ sumTo n pr D p ≤ b * p := by
  induction p with
  | zero => simp [sumTo]
  | succ p ih =>
    have h1 : 0 ≤ greatL (prioL n pr D p) := greatL_ge _ fun y hy => by
      obtain ⟨f, rfl⟩ := mem_prioL hy
      exact (hD f).1
    have h2 : greatL (prioL n pr D p) ≤ b := greatL_le _ _ hb fun y hy => by
      obtain ⟨f, rfl⟩ := mem_prioL hy
      exact (hD f).2
    rw [sumTo, Int.natCast_add, Int.mul_add]
    omega
theorem toldI_row (n : Nat) (D : Nat → Int) (b : Int) (hb : 0 ≤ b) (hD : ∀ f, 0 ≤ D f ∧ D f ≤ b) (m : Int) : 0 ≤ toldI ((List.range n).map D) m ∧ toldI ((List.range n).map D) m ≤ b := by
  unfold toldI
  split
  · omega
  · next h =>
    have hlt : m.toNat < n := by simp at h; omega
    have : ((List.range n).map D).getD m.toNat 0 = D m.toNat := by simp [hlt]
    rw [this]
    exact hD _
theorem wsL_ints {w : World} {db n c : Nat} {D : Nat → Int} (h : w.heap[db]? = some (.cells (wsL n D).toArray 3 (0, 0))) : IntsIs w (.slice (some ⟨db, 0, none⟩) n c) ((List.range n).map D) := by
  refine ⟨_, c, by simp, fun j x hj => ⟨db, rfl, ?_⟩⟩
  refine row_at h j _ ?_
  unfold wsL
  rw [List.getElem?_map] at hj ⊢
  cases hr : (List.range n)[j]? with
  | none => rw [hr] at hj; cases hj
  | some k =>
    rw [hr] at hj
    simp only [Option.map_some, Option.some.injEq] at hj
    subst hj
    rfl
/-- An array of eight rows, at a place. -/
theorem index8 (a0 a1 a2 a3 a4 a5 a6 a7 : Value) (W : World) : (Instr.index 92 (.agg #[a0, a1, a2, a3, a4, a5, a6, a7]) (.int .i64 0)).run Tryd.prog W = .ok a0 W ∧ (Instr.index 92 (.agg #[a0, a1, a2, a3, a4, a5, a6, a7]) (.int .i64 1)).run Tryd.prog W = .ok a1 W ∧ (Instr.index 92 (.agg #[a0, a1, a2, a3, a4, a5, a6, a7]) (.int .i64 2)).run Tryd.prog W = .ok a2 W ∧ (Instr.index 92 (.agg #[a0, a1, a2, a3, a4, a5, a6, a7]) (.int .i64 3)).run Tryd.prog W = .ok a3 W ∧ (Instr.index 92 (.agg #[a0, a1, a2, a3, a4, a5, a6, a7]) (.int .i64 4)).run Tryd.prog W = .ok a4 W ∧ (Instr.index 92 (.agg #[a0, a1, a2, a3, a4, a5, a6, a7]) (.int .i64 5)).run Tryd.prog W = .ok a5 W ∧ (Instr.index 92 (.agg #[a0, a1, a2, a3, a4, a5, a6, a7]) (.int .i64 6)).run Tryd.prog W = .ok a6 W ∧ (Instr.index 92 (.agg #[a0, a1, a2, a3, a4, a5, a6, a7]) (.int .i64 7)).run Tryd.prog W = .ok a7 W := by
  refine ⟨?_, ?_, ?_, ?_, ?_, ?_, ?_, ?_⟩ <;> kernel_rfl
set_option maxRecDepth 100000 in
set_option maxHeartbeats 4000000 in
theorem bound_full (n : Nat) (G : Nat → List Nat) (v : Value) (sz : List Int) (sv : Value) (main : Int) (pr : List Int) (pv : Value) (w : World) (hF : Fine n G) (hfull : (orderL n (cnt G)).length = n) (h : GraphIs w v n G) (hS : IntsIs w sv sz) (hsz : Sizes sz)
    (hP : IntsIs w pv pr) (hpl : pr.length ≤ 1048576) (hT : Tab w) :
    Calls Tryd.prog 18 #[v, sv, .int .i64 main, pv] w fun e w' => e = .returned (.int .i64 (boundL n pr (deepL (cnt G) sz (orderL n (cnt G))) main)) ∧ Below w.heap.size w w' := by
  have HDE := Lib.hid (deep_full n G v sz sv w hF hfull h hS hsz hT)
  have h64 := hF.n64
  have hsm := deepL_small (cnt G) sz hsz (orderL n (cnt G))
  rw [hfull] at hsm
  have HP := Lib.hid hP
  clear hF hfull hS hsz hT hP h
  generalize deepL (cnt G) sz (orderL n (cnt G)) = D at *
  have hD0 : ∀ f, 0 ≤ D f := fun f => (hsm f).1
  have hD1 : ∀ f, 0 ≤ D f ∧ D f ≤ 64000 := fun f => ⟨(hsm f).1, by have := (hsm f).2; omega⟩
  have HD0 := Lib.hid hD0
  have HD1 := Lib.hid hD1
  obtain ⟨i0, hi0, hz0, hz1, hz2⟩ := info_parts intinfo
  have H9 := Lib.hid hz0
  have H10 := Lib.hid hz1
  have H11 := Lib.hid hz2
  have H12 := Lib.hid hi0
  clear hz0 hz1 hz2 hi0 hsm hD0 hD1
  go_enter Tryd.func18, Tryd.ntmps18
  go_wp2_with (go_at_call 16; refine HDE.out.mono ?_; rintro e w2 ⟨v2, db, rfl, rfl, hdb, hrow, hb2⟩; have HROW := Lib.hid hrow; have HB2 := Lib.hid hb2; clear hrow hb2)
  have hAl : Below w2.heap.size w2 (w2.alloc (.cells #[.slice none 0 0, .slice none 0 0, .slice none 0 0, .slice none 0 0, .slice none 0 0, .slice none 0 0, .slice none 0 0, .slice none 0 0] 92)) := (Below.refl _ _).alloc (Nat.le_refl _) _
  have hR3 : RowsOwn 92 (w2.alloc (.cells #[.slice none 0 0, .slice none 0 0, .slice none 0 0, .slice none 0 0, .slice none 0 0, .slice none 0 0, .slice none 0 0, .slice none 0 0] 92)) w2.heap.size (w2.heap.size + 1) 8 (prioN 0 pr D) := by
    refine ⟨List.replicate 8 (.slice none 0 0), by simp, alloc_at _ _, fun i u hu => ?_, fun i k u t b hu ht hik hb => ?_⟩
    · have := List.eq_of_mem_replicate (List.mem_of_getElem? hu)
      subst this
      exact World.ownsRow_nil _ _ _ _
    · have := List.eq_of_mem_replicate (List.mem_of_getElem? hu)
      subst this
      cases hb
  have hz3 : (w2.alloc (.cells #[.slice none 0 0, .slice none 0 0, .slice none 0 0, .slice none 0 0, .slice none 0 0, .slice none 0 0, .slice none 0 0, .slice none 0 0] 92)).heap.size = w2.heap.size + 1 := by simp
  have HR3 := Lib.hid hR3
  have HA3 := Lib.hid hAl
  clear hR3 hAl
  generalize (w2.alloc (.cells #[.slice none 0 0, .slice none 0 0, .slice none 0 0, .slice none 0 0, .slice none 0 0, .slice none 0 0, .slice none 0 0, .slice none 0 0] 92)) = w3 at *
  have HP2 := Lib.hid (HP.out.below HB2.out)
  clear HP HDE
  go_loopw [22] (fun i wr => ∃ k : Nat, k ≤ n ∧ i = .int .i64 k ∧ Below w2.heap.size w2 wr ∧ RowsOwn 92 wr w2.heap.size (w2.heap.size + 1) 8 (prioN k pr D) ∧ w2.heap.size + 1 ≤ wr.heap.size) (fun i _ => n - (intOf i).toNat)
  case atStart => exact ⟨0, by omega, rfl, HA3.out, HR3.out, by omega⟩
  case round =>
    obtain ⟨k, hk, rfl, hb, hr, hz⟩ := hrel
    by_cases hlt : k < n
    · have hrow := (hb.block db (Array.getElem?_eq_some_iff.1 HROW.out).1).trans HROW.out
      have d1 := row_at hrow k _ (wsL_at _ _ k hlt)
      have HTO := Lib.hid (told_any pr pv k wr (HP2.out.below hb) hpl)
      have HB := Lib.hid hb
      have HR := Lib.hid hr
      clear hb hr hrow
      obtain ⟨pi, hpi⟩ : ∃ pi, toldI pr (k : Nat) = pi := ⟨_, rfl⟩
      rw [hpi] at HTO
      by_cases h1 : 1 ≤ pi
      · by_cases h2 : pi ≤ 7
        · obtain ⟨p, rfl⟩ : ∃ p : Nat, pi = p := ⟨pi.toNat, by omega⟩
          have hp8 : p < 8 := by omega
          obtain ⟨vs, p1, p2, p3, p4⟩ := HR.out
          obtain ⟨u, hu⟩ : ∃ u, vs[p]? = some u := ⟨_, List.getElem?_eq_getElem (by omega)⟩
          have hown := p3 p u hu
          obtain ⟨ua, uc, rfl⟩ := own_form hown
          have c5 := row_at p2 p _ hu
          have hlr : (prioN k pr D p).length ≤ k := by rw [prioN, List.length_map]; exact prioL_len k pr D p
          have hub : ∀ b, (Value.slice ua (prioN k pr D p).length uc).ownBlock = some b → w2.heap.size + 1 ≤ b := fun b hb => (hown.lt b hb).1
          have P2 := Lib.hid p2
          have HNEW : Hid (Value.int .i64 (D k) = iv (D k).toNat) := by
            have := HD0.out k
            show Value.int .i64 (D k) = iv (D k).toNat
            simp only [iv]
            congr 1
            omega
          have HF := Lib.hid (fun w1 w3 v3 hg1 hg3 ho hb => RowsOwn.put (w1 := w1) (w3 := w3) (v3 := v3) (f := (D k).toNat) (R' := prioN (k + 1) pr D) p1 p2 p3 p4 hu (show w2.heap.size < w2.heap.size + 1 by omega) hz hg1 hg3 ho hb (fun i hi => by rw [prioN, prioL_no k pr D i (fun h => hi (by omega))]; rfl) (by rw [prioN, prioL_yes k pr D p ⟨hpi, by omega, by omega⟩, List.map_append]; rfl))
          have HO := Lib.hid hown
          have HU := Lib.hid hu
          have hp0 : (0 : Int) ≤ (p : Int) := by omega
          have hp1 : (p : Int) < 8 := by omega
          clear p1 p2 p3 p4 hu hown hpi
          generalize hRx : prioN k pr D p = rx at *
          go_wp2_with (first | (go_at_call 37; refine HTO.out.mono ?_; rintro e w' ⟨rfl, rfl⟩) | (at_builtin; refine wpList_append_blk _ rfl (.tmp 39) (.tmp 41) 36 rfl (w2.heap.size + 1) 3 i0 (.int .i64 0) 1 8 Tryd.underlying36 H12.out H9.out H10.out H11.out rfl (by decide) (.slice ua rx.length uc) rx.length (rx.map iv) rfl (own_ne HO.out (gb_alloc _ none _) (by simp)) ⟨_, 0, none⟩ 1 1 [.int .i64 (D k)] rfl rfl (new_one _ _ _ _ rfl) (by simp [Value.oneCell']) (by simp only [maxLen]; omega) (by omega) (by simp; omega) ?_; intro v3 w4 hown3 hg3 hb3; obtain ⟨g3, cap3, rfl⟩ := ownsRow_succ hown3; have O3 := Lib.hid hown3; have G3 := Lib.hid hg3; have B3 := Lib.hid hb3; have e3 : w4.heap[w2.heap.size]? = some (.cells vs.toArray 92 (0, 0)) := (hg3.block _ (by simp; omega) (fun e => by have := hub _ e.symm; omega)).trans ((Go.heap_alloc_old _ _ (by omega)).trans P2.out); have e4 : w4.frozen? ⟨w2.heap.size, p, none⟩ = false := row_free e3; have e5 := row_at e3 p _ HU.out; clear hown3 hg3 hb3))
          rw [HNEW.out] at O3
          have hz4 := G3.out.size
          simp only [World.size_alloc] at hz4
          go_roundw
          case rel => exact ⟨k + 1, by omega, by go_num, (below_gb (HB.out.alloc (by omega) (.cells #[.int .i64 (D k)] 3)) G3.out (by simp; omega) (fun b hb => by have := hub b hb; omega)).setCell (p := ⟨w2.heap.size, p, none⟩) (Nat.le_refl _) _, HF.out _ _ _ (gb_alloc _ none _) G3.out O3.out (fun b hb => by have := B3.out b hb; simpa using this), by simp [World.setCell]; omega⟩
          case measure =>
            simp [intOf]
            omega
        · have HN : Hid (prioN (k + 1) pr D = prioN k pr D) := by
            funext i
            rw [prioN, prioL_no k pr D i (fun h => by omega)]
            rfl
          clear hpi
          go_wp2_with (go_at_call 37; refine HTO.out.mono ?_; rintro e w' ⟨rfl, rfl⟩)
          go_roundw
          case rel => exact ⟨k + 1, by omega, by go_num, HB.out, by rw [HN.out]; exact HR.out, hz⟩
          case measure =>
            simp [intOf]
            omega
      · have HN : Hid (prioN (k + 1) pr D = prioN k pr D) := by
          funext i
          rw [prioN, prioL_no k pr D i (fun h => by omega)]
          rfl
        clear hpi
        go_wp2_with (go_at_call 37; refine HTO.out.mono ?_; rintro e w' ⟨rfl, rfl⟩)
        go_roundw
        case rel => exact ⟨k + 1, by omega, by go_num, HB.out, by rw [HN.out]; exact HR.out, hz⟩
        case measure =>
          simp [intOf]
          omega
    · obtain rfl : k = n := by omega
      have hrow := (hb.block db (Array.getElem?_eq_some_iff.1 HROW.out).1).trans HROW.out
      have HTM := Lib.hid (told_any ((List.range k).map D) (.slice (some ⟨db, 0, none⟩) k k) main wr (wsL_ints hrow) (by simp; omega))
      have htm := toldI_row k D 64000 (by decide) HD1.out main
      have HSU := Lib.hid (sumTo_small k pr D 64000 (by decide) HD1.out)
      obtain ⟨vs, p1, p2, p3, p4⟩ := hr
      have hgr : ∀ (p : Nat) (u : Value), vs[p]? = some u → Calls Tryd.prog 38 #[u] wr fun e w' => e = .returned (.int .i64 (greatL (prioL k pr D p))) ∧ w' = wr := fun p u hu => by
        have ho := p3 p u hu
        rw [prioN_jv k pr D p HD0.out, prioN, List.length_map] at ho
        exact greatest_any _ _ _ (intsIs_own ho) (by have := prioL_len k pr D p; omega)
      obtain ⟨a0, a1, a2, a3, a4, a5, a6, a7, rfl⟩ : ∃ a0 a1 a2 a3 a4 a5 a6 a7, vs = [a0, a1, a2, a3, a4, a5, a6, a7] := by
        match vs, p1 with
        | [a0, a1, a2, a3, a4, a5, a6, a7], _ => exact ⟨a0, a1, a2, a3, a4, a5, a6, a7, rfl⟩
      have G0 := Lib.hid (hgr 0 a0 rfl)
      have G1 := Lib.hid (hgr 1 a1 rfl)
      have G2 := Lib.hid (hgr 2 a2 rfl)
      have G3 := Lib.hid (hgr 3 a3 rfl)
      have G4 := Lib.hid (hgr 4 a4 rfl)
      have G5 := Lib.hid (hgr 5 a5 rfl)
      have G6 := Lib.hid (hgr 6 a6 rfl)
      have G7 := Lib.hid (hgr 7 a7 rfl)
      have P2 := Lib.hid p2
      have HB := Lib.hid hb
      have HBO : Hid (∀ tm, tm = toldI ((List.range k).map D) main → boundL k pr D main = tm + sumTo k pr D 8) := fun tm h => by rw [h]; rfl
      clear p1 p2 p3 p4 hgr hb hrow
      obtain ⟨tm, htmE⟩ : ∃ tm, toldI ((List.range k).map D) main = tm := ⟨_, rfl⟩
      rw [htmE] at HTM htm
      have HTE := Lib.hid (HBO.out tm htmE.symm)
      clear htmE HBO
      go_wp2_with (first | (go_at_call 37; refine HTM.out.mono ?_; rintro e w' ⟨rfl, rfl⟩) | (refine wpList_load_at rfl 92 _ rfl w2.heap.size 0 rfl _ _ (row_cells P2.out) Tryd.underlying92 rfl (by kernel_rfl) ?_))
      go_loopw [14, 49] (fun q i w5 => ∃ p : Nat, p ≤ 8 ∧ i = .int .i64 p ∧ q = .int .i64 (tm + sumTo k pr D p) ∧ w5 = w') (fun _ i _ => 8 - (intOf i).toNat)
      case atStart => exact ⟨0, by omega, rfl, by simp [sumTo], rfl⟩
      case round =>
        obtain ⟨p, hp, rfl, rfl, rfl⟩ := hrel
        by_cases hp8 : p < 8
        · have hs1 := HSU.out p
          have hs2 := HSU.out (p + 1)
          have hwr : IntKind.i64.wrap (tm + sumTo k pr D p + greatL (prioL k pr D p)) = tm + sumTo k pr D (p + 1) := by
            have : sumTo k pr D (p + 1) = sumTo k pr D p + greatL (prioL k pr D p) := rfl
            rw [IntKind.wrap_i64]
            omega
          have hpp : p = 0 ∨ p = 1 ∨ p = 2 ∨ p = 3 ∨ p = 4 ∨ p = 5 ∨ p = 6 ∨ p = 7 := by omega
          clear hs1 hs2
          obtain ⟨x0, x1, x2, x3, x4, x5, x6, x7⟩ := index8 a0 a1 a2 a3 a4 a5 a6 a7 wr
          rcases hpp with rfl | rfl | rfl | rfl | rfl | rfl | rfl | rfl
          all_goals
            go_wp2_with (go_at_call 38; (first | with_reducible refine G0.out.mono ?_ | with_reducible refine G1.out.mono ?_ | with_reducible refine G2.out.mono ?_ | with_reducible refine G3.out.mono ?_ | with_reducible refine G4.out.mono ?_ | with_reducible refine G5.out.mono ?_ | with_reducible refine G6.out.mono ?_ | with_reducible refine G7.out.mono ?_); rintro e w' ⟨rfl, rfl⟩)
            go_roundw
            case rel => first | exact ⟨1, by omega, rfl, rfl, trivial⟩ | exact ⟨2, by omega, rfl, rfl, trivial⟩ | exact ⟨3, by omega, rfl, rfl, trivial⟩ | exact ⟨4, by omega, rfl, rfl, trivial⟩ | exact ⟨5, by omega, rfl, rfl, trivial⟩ | exact ⟨6, by omega, rfl, rfl, trivial⟩ | exact ⟨7, by omega, rfl, rfl, trivial⟩ | exact ⟨8, by omega, rfl, rfl, trivial⟩
            case measure =>
              simp [intOf]
        · obtain rfl : p = 8 := by omega
          go_wp2
          go_ret
          exact ⟨by rw [HTE.out]; rfl, HB2.out.trans (HB.out.mono HB2.out.size)⟩
set_option maxRecDepth 100000 in
set_option maxHeartbeats 4000000 in
/-- Where Deep answers none. -/
theorem bound_short (n : Nat) (G : Nat → List Nat) (v sv : Value) (main : Int) (pv : Value) (w : World) (hF : Fine n G) (hs : (orderL n (cnt G)).length < n) (h : GraphIs w v n G) (hT : Tab w) :
    Calls Tryd.prog 18 #[v, sv, .int .i64 main, pv] w fun e w' => e = .returned (.int .i64 0) ∧ Below w.heap.size w w' := by
  have HDE := Lib.hid (deep_short n G v sv w hF hs h hT)
  clear hF hs h hT
  have HE : Hid (∀ W, IntsIs W (.slice none 0 0) []) := fun W => ⟨none, 0, rfl, fun j x hj => by simp at hj⟩
  have HG : Hid (∀ W, Calls Tryd.prog 38 #[.slice none 0 0] W fun e w' => e = .returned (.int .i64 0) ∧ w' = W) := fun W => greatest_any [] _ W (HE.out W) (by decide)
  have HTD : Hid (∀ W, Calls Tryd.prog 37 #[.slice none 0 0, .int .i64 main] W fun e w' => e = .returned (.int .i64 0) ∧ w' = W) := fun W => by
    have := told_any [] (.slice none 0 0) main W (HE.out W) (by decide)
    have he : toldI [] main = 0 := by
      unfold toldI
      split <;> simp
    rwa [he] at this
  go_enter Tryd.func18, Tryd.ntmps18
  go_wp2_with (go_at_call 16; refine HDE.out.mono ?_; rintro e w2 ⟨rfl, hb2⟩; have HB2 := Lib.hid hb2; clear hb2)
  have hAl : Below w2.heap.size w2 (w2.alloc (.cells #[.slice none 0 0, .slice none 0 0, .slice none 0 0, .slice none 0 0, .slice none 0 0, .slice none 0 0, .slice none 0 0, .slice none 0 0] 92)) := (Below.refl _ _).alloc (Nat.le_refl _) _
  have hrow := alloc_at w2 (.cells [.slice none 0 0, .slice none 0 0, .slice none 0 0, .slice none 0 0, .slice none 0 0, .slice none 0 0, .slice none 0 0, .slice none 0 0].toArray 92)
  change (w2.alloc (.cells #[.slice none 0 0, .slice none 0 0, .slice none 0 0, .slice none 0 0, .slice none 0 0, .slice none 0 0, .slice none 0 0, .slice none 0 0] 92)).heap[_]? = _ at hrow
  generalize (w2.alloc (.cells #[.slice none 0 0, .slice none 0 0, .slice none 0 0, .slice none 0 0, .slice none 0 0, .slice none 0 0, .slice none 0 0, .slice none 0 0] 92)) = w3 at *
  have P2 := Lib.hid hrow
  have HA := Lib.hid hAl
  clear hrow hAl
  go_loopw [22] (fun i wr => i = .int .i64 0 ∧ wr = w3) (fun _ _ => 0)
  case atStart => exact ⟨rfl, rfl⟩
  case round =>
    obtain ⟨rfl, rfl⟩ := hrel
    go_wp2_with (first | (go_at_call 37; refine (HTD.out _).mono ?_; rintro e w' ⟨rfl, rfl⟩) | (refine wpList_load_at rfl 92 _ rfl w2.heap.size 0 rfl _ _ (row_cells P2.out) Tryd.underlying92 rfl (by kernel_rfl) ?_))
    go_loopw [14, 49] (fun q i w5 => ∃ p : Nat, p ≤ 8 ∧ i = .int .i64 p ∧ q = .int .i64 0 ∧ w5 = w') (fun _ i _ => 8 - (intOf i).toNat)
    case atStart => exact ⟨0, by omega, rfl, rfl, rfl⟩
    case round =>
      obtain ⟨p, hp, rfl, rfl, rfl⟩ := hrel
      by_cases hp8 : p < 8
      · have hpp : p = 0 ∨ p = 1 ∨ p = 2 ∨ p = 3 ∨ p = 4 ∨ p = 5 ∨ p = 6 ∨ p = 7 := by omega
        obtain ⟨x0, x1, x2, x3, x4, x5, x6, x7⟩ := index8 (.slice none 0 0) (.slice none 0 0) (.slice none 0 0) (.slice none 0 0) (.slice none 0 0) (.slice none 0 0) (.slice none 0 0) (.slice none 0 0) wr
        rcases hpp with rfl | rfl | rfl | rfl | rfl | rfl | rfl | rfl
        all_goals
          go_wp2_with (go_at_call 38; refine (HG.out _).mono ?_; rintro e w' ⟨rfl, rfl⟩)
          go_roundw
          case rel => first | exact ⟨1, by omega, rfl, rfl, trivial⟩ | exact ⟨2, by omega, rfl, rfl, trivial⟩ | exact ⟨3, by omega, rfl, rfl, trivial⟩ | exact ⟨4, by omega, rfl, rfl, trivial⟩ | exact ⟨5, by omega, rfl, rfl, trivial⟩ | exact ⟨6, by omega, rfl, rfl, trivial⟩ | exact ⟨7, by omega, rfl, rfl, trivial⟩ | exact ⟨8, by omega, rfl, rfl, trivial⟩
          case measure =>
            simp [intOf]
      · obtain rfl : p = 8 := by omega
        go_wp2
        go_ret
        exact ⟨rfl, HB2.out.trans (HA.out.mono HB2.out.size)⟩
end Go.Proofs.YtchhbhgbpimegaaDoor
