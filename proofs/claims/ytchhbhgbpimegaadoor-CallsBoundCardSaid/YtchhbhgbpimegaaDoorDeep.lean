/-
  Deep: the depths of all functions, in their order; none where they are not all in it.
-/
import Derived.Test.YtchhbhgbpimegaaDoorOrder
namespace Go.Proofs.YtchhbhgbpimegaaDoor
open Go.RowKit
set_option linter.unusedVariables false
/-- The depth of f, when those of D are known. -/
def deep1 (G : Nat → List Nat) (sz : List Int) (D : Nat → Int) (f : Nat) : Nat → Int := fun k => if k = f then max (toldI sz f) 0 + greatL ((G f).map D) else D k
def deepL (G : Nat → List Nat) (sz : List Int) (l : List Nat) : Nat → Int := l.foldl (deep1 G sz) fun _ => 0
/-- Sizes that may be. -/
def Sizes (sz : List Int) : Prop := sz.length ≤ 1048576 ∧ ∀ x ∈ sz, x ≤ 1000
theorem toldI_le (sz : List Int) (f : Int) (h : Sizes sz) : max (toldI sz f) 0 ≤ 1000 ∧ 0 ≤ max (toldI sz f) 0 := by
  refine ⟨?_, by omega⟩
  unfold toldI
  split
  · decide
  · next h1 =>
    have hlt : f.toNat < sz.length := by omega
    have hg : sz.getD f.toNat 0 = sz[f.toNat] := by simp [hlt]
    rw [hg]
    have := h.2 _ (List.getElem_mem hlt)
    omega
theorem deepL_snoc (G : Nat → List Nat) (sz : List Int) (l : List Nat) (f : Nat) : deepL G sz (l ++ [f]) = deep1 G sz (deepL G sz l) f := by simp [deepL]
theorem deepL_small (G : Nat → List Nat) (sz : List Int) (h : Sizes sz) (l : List Nat) : ∀ k, 0 ≤ deepL G sz l k ∧ deepL G sz l k ≤ 1000 * l.length := by
  suffices H : ∀ (m : Nat) (l : List Nat), l.length = m → ∀ k, 0 ≤ deepL G sz l k ∧ deepL G sz l k ≤ 1000 * l.length from H _ l rfl
  intro m
  induction m with
  | zero =>
    intro l hl k
    obtain rfl := List.eq_nil_of_length_eq_zero hl
    simp [deepL]
  | succ m ih =>
    intro l hl k
    have hne : l ≠ [] := by intro e; subst e; cases hl
    rw [← List.dropLast_concat_getLast hne]
    have hd : l.dropLast.length = m := by simp [hl]
    generalize l.dropLast = l' at *
    generalize l.getLast hne = f
    rw [deepL_snoc]
    have h1 := ih l' hd
    have h2 := toldI_le sz f h
    have h3 : greatL ((G f).map (deepL G sz l')) ≤ 1000 * l'.length := greatL_le _ _ (by omega) fun y hy => by
      obtain ⟨c, _, rfl⟩ := List.mem_map.1 hy
      exact (h1 c).2
    have h4 : 0 ≤ greatL ((G f).map (deepL G sz l')) := greatL_ge _ fun y hy => by
      obtain ⟨c, _, rfl⟩ := List.mem_map.1 hy
      exact (h1 c).1
    have hk := h1 k
    rw [List.length_append, List.length_singleton]
    unfold deep1
    split <;> omega
/-- Numbers as cells. -/
abbrev jv (x : Int) : Value := .int .i64 x
theorem ints_len {w : World} {B : Nat} {v : Value} {l : List Int} (h : w.ownsRow B 3 1 v l.length (l.map jv)) : IntsIs w v l := intsIs_own h
set_option maxRecDepth 100000 in
set_option maxHeartbeats 4000000 in
theorem deep_full (n : Nat) (G : Nat → List Nat) (v : Value) (sz : List Int) (sv : Value) (w : World) (hF : Fine n G) (hfull : (orderL n (cnt G)).length = n) (h : GraphIs w v n G) (hS : IntsIs w sv sz) (hsz : Sizes sz) (hT : Tab w) :
    Calls Tryd.prog 16 #[v, sv] w fun e w' => ∃ v' db, e = .returned v' ∧ v' = .slice (some ⟨db, 0, none⟩) n n ∧ w.heap.size ≤ db ∧ w'.heap[db]? = some (.cells (wsL n (deepL (cnt G) sz (orderL n (cnt G)))).toArray 3 (0, 0)) ∧ Below w.heap.size w w' := by
  have HC := Lib.hid (counted_any n G v w hF.n64 hF.lt hF.len h hT)
  have HO : Hid (∀ u W, GraphIs W u n (cnt G) → Tab W → Calls Tryd.prog 36 #[u] W fun e w' => ∃ v', e = .returned v' ∧ w'.ownsRow W.heap.size 3 1 v' n ((orderL n (cnt G)).map iv) ∧ Below W.heap.size W w') := fun u W hg ht => by
    have := ordered_any n (cnt G) u W hF.isG (fun f _ => cnt_len G f) hg ht
    rwa [hfull] at this
  have HT := Lib.hid hT
  have HS := Lib.hid hS
  have HSZ := Lib.hid hsz
  have HLT := Lib.hid (orderL_inv hF.isG).lt
  have HCL := Lib.hid (fun f => bitsL_len (bitsOr (G f)))
  have HIG := Lib.hid hF.isG
  obtain ⟨A, c, rfl, -⟩ := h
  have h64 := hF.n64
  clear hT hF hS hsz
  change Hid (∀ f ∈ orderL n (cnt G), f < n) at HLT
  generalize hol : orderL n (cnt G) = ol at *
  obtain ⟨i0, hi0, hz0, hz1, hz2⟩ := info_parts intinfo
  have H9 := Lib.hid hz0
  have H10 := Lib.hid hz1
  have H11 := Lib.hid hz2
  have H12 := Lib.hid hi0
  clear hol hz0 hz1 hz2 hi0
  go_enter Tryd.func16, Tryd.ntmps16
  go_wp2_with (first | (go_at_call 35; refine HC.out.mono ?_; rintro e w1 ⟨v1, rfl, hg1, hb1⟩; have HO1 := Lib.hid (HO.out v1 w1 hg1 (HT.out.below hb1 (Nat.le_refl _))); have HG1 := Lib.hid hg1; obtain ⟨A1, c1, rfl, -⟩ := hg1; have HB1 := Lib.hid hb1; clear hb1) | (go_at_call 36; refine HO1.out.mono ?_; rintro e w2 ⟨v2, rfl, ho2, hb2⟩; obtain ⟨A2, c2, rfl⟩ := own_form ho2; have HO2 := Lib.hid ho2; have HB2 := Lib.hid hb2; clear ho2 hb2))
  rw [mk_ints n h64]
  go_wp2
  have hrow := rowIs_own (l := ol) (by rw [hfull]; exact HO2.out)
  have HRO := Lib.hid hrow
  have hb3 : Below w2.heap.size w2 (w2.alloc (.cells (Array.replicate n (.int .i64 0)) 3)) := (Below.refl _ _).alloc (Nat.le_refl _) _
  have hz3 : (w2.alloc (.cells (Array.replicate n (.int .i64 0)) 3)).heap.size = w2.heap.size + 1 := by simp
  have hd3 : (w2.alloc (.cells (Array.replicate n (.int .i64 0)) 3)).heap[w2.heap.size]? = some (.cells (wsL n (deepL (cnt G) sz [])).toArray 3 (0, 0)) := by
    rw [show deepL (cnt G) sz [] = (fun _ => 0) from rfl, ← wsL_zero]
    exact alloc_at _ _
  have HB3 := Lib.hid hb3
  have HD3 := Lib.hid hd3
  have hbw := HB1.out.size
  have hbw2 := HB2.out.size
  have HBW := Lib.hid (HB1.out.trans (HB2.out.mono hbw))
  have HG2 := Lib.hid (HG1.out.below HB2.out)
  have HS2 := Lib.hid (HS.out.below HBW.out)
  clear hrow hb3 hd3 HC HO HO1 HG1 HB1 HB2 HO2 HS HT
  generalize (w2.alloc (.cells (Array.replicate n (.int .i64 0)) 3)) = w3 at *
  go_loopw [26] (fun i wr => ∃ j : Nat, j ≤ n ∧ i = .int .i64 j ∧ wr.heap[w2.heap.size]? = some (.cells (wsL n (deepL (cnt G) sz (ol.take j))).toArray 3 (0, 0)) ∧ Below w2.heap.size w2 wr) (fun i _ => n - (intOf i).toNat)
  case atStart => exact ⟨0, by omega, rfl, HD3.out, HB3.out⟩
  case round =>
    obtain ⟨j, hj, rfl, hd, hb⟩ := hrel
    by_cases hjn : j < n
    · obtain ⟨f, hf⟩ : ∃ f, ol[j]? = some f := ⟨_, List.getElem?_eq_getElem (by omega)⟩
      have hfn := HLT.out f (List.mem_of_getElem? hf)
      obtain ⟨A3, c3, hv3, hcell⟩ := HRO.out
      obtain ⟨b3, rfl, hc3⟩ := hcell j f hf
      obtain ⟨rfl, -, rfl⟩ := Value.slice.inj hv3
      obtain ⟨A4, c4, hv4, hg4⟩ := HG2.out
      obtain ⟨gb, u, rfl, hu, A5, c5, rfl, hrow5⟩ := hg4 f hfn
      obtain ⟨rfl, -, rfl⟩ := Value.slice.inj hv4
      have d1 := cell_below hc3 hb
      have d2 := cell_below hu hb
      simp only [iv] at d1
      have hf0 : (0 : Int) ≤ (f : Int) := by omega
      have hf1 : (f : Int) < (n : Int) := by omega
      have hlen5 : (cnt G f).length ≤ 64 := HCL.out f
      have HR5 := Lib.hid hrow5
      have HF := Lib.hid hf
      have HD := Lib.hid hd
      have HB := Lib.hid hb
      have hsm := deepL_small (cnt G) sz HSZ.out (ol.take j)
      have hlj : (ol.take j).length ≤ 64 := by simp; omega
      have hml := HIG.out.lt f hfn
      obtain ⟨D, hD⟩ : ∃ D, deepL (cnt G) sz (ol.take j) = D := ⟨_, rfl⟩
      rw [hD] at HD hsm
      have hgs : 0 ≤ greatL ((cnt G f).map D) ∧ greatL ((cnt G f).map D) ≤ 64000 := ⟨greatL_ge _ fun y hy => by
        obtain ⟨c, _, rfl⟩ := List.mem_map.1 hy
        exact (hsm c).1, greatL_le _ _ (by omega) fun y hy => by
        obtain ⟨c, _, rfl⟩ := List.mem_map.1 hy
        have := (hsm c).2
        omega⟩
      have HDD : Hid (deepL (cnt G) sz (ol.take (j + 1)) = fun k => if k = f then max (toldI sz f) 0 + greatL ((cnt G f).map D) else D k) := by rw [take_snoc _ _ _ hf, deepL_snoc, hD]; exact rfl
      have HML := Lib.hid hml
      clear hd hb hc3 hcell hg4 hu hrow5 hf hv3 hv4 hsm hD hml
      generalize hrr : cnt G f = row at *
      go_wp2
      go_loopw [9, 35] (fun q i wr => ∃ t : Nat, t ≤ row.length ∧ i = .int .i64 t ∧ wr.heap[w2.heap.size]? = some (.cells (wsL n D).toArray 3 (0, 0)) ∧ Below w2.heap.size w2 wr ∧ wr.ownsRow (w2.heap.size + 1) 3 1 q t ((row.take t).map fun c => jv (D c))) (fun _ i _ => row.length - (intOf i).toNat)
      case atStart => exact ⟨0, by omega, rfl, HD.out, HB.out, World.ownsRow_nil _ _ _ _⟩
      case round =>
        obtain ⟨t, ht, rfl, hd, hb, ho⟩ := hrel
        obtain ⟨qa, qc, rfl⟩ := own_form ho
        by_cases htl : t < row.length
        · obtain ⟨x, hx⟩ : ∃ x, row[t]? = some x := ⟨_, List.getElem?_eq_getElem htl⟩
          have hxn := HML.out x (List.mem_of_getElem? hx)
          obtain ⟨b5, rfl, hc5⟩ := HR5.out t x hx
          have e1 := cell_below hc5 hb
          simp only [iv] at e1
          have e2 := row_at hd x _ (wsL_at _ _ x hxn)
          have hx0 : (0 : Int) ≤ (x : Int) := by omega
          have hx1 : (x : Int) < (n : Int) := by omega
          have hzr := (Array.getElem?_eq_some_iff.1 hd).1
          have hob : ∀ q, (Value.slice qa t qc).ownBlock = some q → w2.heap.size + 1 ≤ q := fun q hq => (ho.lt q hq).1
          have HDr := Lib.hid hd
          have HBr := Lib.hid hb
          have HOr := Lib.hid ho
          have HXR := Lib.hid hx
          clear hd hb ho hc5 hx
          go_wp2_with (at_builtin; refine wpList_append_own _ rfl (.tmp 39) (.tmp 44) 36 rfl (w2.heap.size + 1) 3 i0 (.int .i64 0) 1 8 Tryd.underlying36 H12.out H9.out H10.out H11.out rfl (by decide) (.slice qa t qc) t _ rfl (own_gb HOr.out (gb_alloc _ none _) (fun q e => by cases e)) ⟨_, 0, none⟩ 1 1 [jv (D x)] rfl rfl (new_one _ _ _ _ rfl) (by simp [Value.oneCell']) (by simp only [maxLen]; omega) (by omega) (by simp; omega) ?_; intro v6 w6 hown6 hg6 _; obtain ⟨g6, cap6, rfl⟩ := ownsRow_succ hown6; have O6 := Lib.hid hown6; have G6 := Lib.hid hg6; clear hown6 hg6)
          go_roundw
          case rel => exact ⟨t + 1, by omega, by go_num, (G6.out.block _ (by simp; omega) (fun e => by have := hob _ e.symm; omega)).trans ((Go.heap_alloc_old _ _ (by omega)).trans HDr.out), below_gb (HBr.out.alloc (by omega) _) G6.out (by simp; omega) (fun q hq => by have := hob q hq; omega), by rw [take_snoc _ _ _ HXR.out, List.map_append]; exact O6.out⟩
          case measure =>
            simp [intOf]
            omega
        · obtain rfl : t = row.length := by omega
          rw [List.take_length] at ho
          have hi : IntsIs wr (.slice qa row.length qc) (row.map D) := by
            have := intsIs_own (l := row.map D) (by simpa [List.map_map, Function.comp_def] using ho)
            simpa using this
          have htold := toldI_le sz f HSZ.out
          have HTO := Lib.hid (told_any sz sv f wr (HS2.out.below hb) HSZ.out.1)
          have HGR := Lib.hid (greatest_any (row.map D) _ wr hi (by simp; omega))
          have e2 := row_at hd f _ (wsL_at _ _ f hfn)
          have e3 : wr.frozen? ⟨w2.heap.size, f, none⟩ = false := row_free hd
          have HDr := Lib.hid hd
          have HBr := Lib.hid hb
          clear hd hb ho hi
          generalize greatL (row.map D) = gl at *
          generalize toldI sz f = tl at *
          have hsum : IntKind.i64.wrap ((if tl < 0 then 0 else tl) + gl) = max tl 0 + gl := by
            have h1 : (if tl < 0 then 0 else tl) = max tl 0 := by split <;> omega
            rw [h1, IntKind.wrap_i64]
            omega
          go_wp2_with (first | (go_at_call 37; refine HTO.out.mono ?_; rintro e w' ⟨rfl, rfl⟩) | (go_at_call 38; refine HGR.out.mono ?_; rintro e w' ⟨rfl, rfl⟩))
          go_roundw
          case rel => exact ⟨j + 1, by omega, by go_num, by rw [HDD.out, ← wsL_set]; exact row_setCell HDr.out, HBr.out.setCell (p := ⟨w2.heap.size, f, none⟩) (Nat.le_refl _) _⟩
          case measure =>
            simp [intOf]
            omega
    · obtain rfl : j = n := by omega
      rw [List.take_of_length_le (by omega)] at hd
      have HD := Lib.hid hd
      have HB := Lib.hid hb
      clear hd hb
      go_wp2
      go_ret
      exact ⟨_, _, rfl, rfl, by omega, HD.out, HBW.out.trans (HB.out.mono (by omega))⟩
set_option maxRecDepth 100000 in
theorem deep_short (n : Nat) (G : Nat → List Nat) (v sv : Value) (w : World) (hF : Fine n G) (hs : (orderL n (cnt G)).length < n) (h : GraphIs w v n G) (hT : Tab w) :
    Calls Tryd.prog 16 #[v, sv] w fun e w' => e = .returned (.slice none 0 0) ∧ Below w.heap.size w w' := by
  have HC := Lib.hid (counted_any n G v w hF.n64 hF.lt hF.len h hT)
  have HO : Hid (∀ u W, GraphIs W u n (cnt G) → Tab W → Calls Tryd.prog 36 #[u] W fun e w' => ∃ v', e = .returned v' ∧ w'.ownsRow W.heap.size 3 1 v' (orderL n (cnt G)).length ((orderL n (cnt G)).map iv) ∧ Below W.heap.size W w') := fun u W hg ht => ordered_any n (cnt G) u W hF.isG (fun f _ => cnt_len G f) hg ht
  have HT := Lib.hid hT
  obtain ⟨A, c, rfl, -⟩ := h
  have h64 := hF.n64
  clear hT hF
  generalize (orderL n (cnt G)).map iv = xs at *
  generalize (orderL n (cnt G)).length = m at *
  go_enter Tryd.func16, Tryd.ntmps16
  go_wp2_with (first | (go_at_call 35; refine HC.out.mono ?_; rintro e w1 ⟨v1, rfl, hg1, hb1⟩; have HO1 := Lib.hid (HO.out v1 w1 hg1 (HT.out.below hb1 (Nat.le_refl _))); obtain ⟨A1, c1, rfl, -⟩ := hg1; have HB1 := Lib.hid hb1; clear hb1) | (go_at_call 36; refine HO1.out.mono ?_; rintro e w2 ⟨v2, rfl, ho2, hb2⟩; obtain ⟨A2, c2, rfl⟩ := own_form ho2; have HO2 := Lib.hid ho2; have HB2 := Lib.hid hb2; clear ho2 hb2))
  go_ret
  exact ⟨rfl, HB1.out.trans (HB2.out.mono HB1.out.size)⟩
end Go.Proofs.YtchhbhgbpimegaaDoor
