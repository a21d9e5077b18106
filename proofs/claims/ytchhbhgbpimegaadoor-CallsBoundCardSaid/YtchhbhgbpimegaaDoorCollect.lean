/-
  slices.Collect over a set's taken(): a row of the set's numbers, rising; the set is empty then; nothing else that lay before has changed.
-/
import Derived.Test.YtchhbhgbpimegaaDoorTaken
import Derived.Test.YtchhbhgbpimegaaDoorBits
import Derived.Test.YtchhbhgbpimegaaDoorRange
import Derived.OwnWalkIn
import Derived.RangeFuncBox
import Derived.Maps.AppendAt
namespace Go.Proofs.YtchhbhgbpimegaaDoor
open Go.RowKit Go.Shelf
set_option linter.unusedVariables false
attribute [local go_sem] Oper.semAt_some
/-- A number as a cell. -/
def iv (n : Nat) : Value := .int .i64 n
theorem intinfo : (Tryd.prog.info? 3).map (fun i => (i.zero, i.size, i.bytes)) = some (some (.int .i64 0), 1, 8) := by kernel_rfl
theorem gb_trans {w W W' : World} {b : Nat} {r : Option Nat} (h : w.grownBy W (some b)) (h2 : W.grownBy W' r) (hr : ∀ k, r = some k → k = b ∨ w.heap.size ≤ k) : w.grownBy W' (some b) := by
  refine ⟨h2.os.trans h.os, h2.tape.trans h.tape, h2.output.trans h.output, Nat.le_trans h.size h2.size, fun k hk hb => ?_⟩
  refine (h2.block k (Nat.lt_of_lt_of_le hk h.size) fun e => ?_).trans (h.block k hk hb)
  rcases hr k e.symm with h3 | h3
  · exact hb (by rw [h3])
  · omega
theorem gb_below {w w' : World} {r : Option Nat} (h : Below w.heap.size w w') : w.grownBy w' r := ⟨h.os, h.tape, h.output, h.size, fun k hk _ => h.block k hk⟩
theorem gb_touch {w w' : World} {b : Nat} (h : Touch b w w') : w.grownBy w' (some b) := ⟨h.os, h.tape, h.output, Nat.le_of_eq h.size.symm, fun k _ hb => h.block k fun e => hb (by rw [e])⟩
theorem gb_refl (w : World) (r : Option Nat) : w.grownBy w r := ⟨rfl, rfl, rfl, Nat.le_refl _, fun _ _ _ => rfl⟩
theorem gb_set (w : World) (b i : Nat) (v : Value) : w.grownBy (w.setCell ⟨b, i, none⟩ v) (some b) :=
  ⟨rfl, rfl, rfl, by simp [World.setCell], fun k _ hb => Below.heap_setCell _ _ _ _ fun e => hb (by rw [e])⟩
theorem gb_put (w : World) (b : Nat) (o : Obj) : w.grownBy (w.putObj b o) (some b) :=
  ⟨rfl, rfl, rfl, by simp, fun k _ hb => World.putObj_heap_other fun e => hb (by rw [e])⟩
theorem gb_alloc (w : World) (r : Option Nat) (o : Obj) : w.grownBy (w.alloc o) r := gb_below ((Below.refl _ _).alloc (Nat.le_refl _) _)
theorem own_base {w : World} {B B' : Nat} {e : TypeId} {s : Nat} {v : Value} {n : Nat} {xs : List Value} (h : w.ownsRow B e s v n xs) (hB : B' ≤ B) : w.ownsRow B' e s v n xs := by
  refine ⟨h.1, ?_⟩
  rcases h.2 with h2 | ⟨g, cap, cur, hv, hg, r⟩
  · exact .inl h2
  · exact .inr ⟨g, cap, cur, hv, by omega, r⟩
theorem own_gb {w w' : World} {B : Nat} {e : TypeId} {s : Nat} {v : Value} {n : Nat} {xs : List Value} {r : Option Nat} (h : w.ownsRow B e s v n xs) (hg : w.grownBy w' r) (hr : ∀ k, r = some k → k < B) : w'.ownsRow B e s v n xs := by
  refine ⟨h.1, ?_⟩
  rcases h.2 with h2 | ⟨g, cap, cur, hv, hb, hrow, rest⟩
  · exact .inl h2
  · exact .inr ⟨g, cap, cur, hv, hb, (hg.block g (Array.getElem?_eq_some_iff.1 hrow).1 (fun e => by have := hr g e.symm; omega)).trans hrow, rest⟩
theorem new_one (X : World) (k : Nat) (v : Value) (t : TypeId) (hk : X.heap.size = k) : ∀ j u, [v][j]? = some u → (X.alloc (.cells #[v] t)).cell? ((⟨k, 0, none⟩ : Addr).add j) = some u := by
  subst hk
  exact fun j u hj => new_cells X [v] t j u hj
/-- What stands in a set's word. -/
def wordOf (W : World) (wb : Nat) : Nat := match W.cell? ⟨wb, 0, none⟩ with
  | some (.int _ x) => x.toNat
  | _ => 0
theorem wordOf_set {W : World} {p lv wb x : Nat} (h : IsSet W p lv wb x) : wordOf W wb = x := by
  have := row_at h.word 0 _ rfl
  simp [wordOf, this]
theorem isSet_gb {W W' : World} {p lv wb x : Nat} {r : Option Nat} (h : IsSet W p lv wb x) (hg : W.grownBy W' r) (hr : ∀ k, r = some k → k ≠ p ∧ k ≠ lv ∧ k ≠ wb) : IsSet W' p lv wb x := by
  obtain ⟨c, h1⟩ := h.row
  obtain ⟨rr, h2⟩ := h.lev
  refine ⟨h.lt, h.ne, ⟨c, ?_⟩, ⟨rr, ?_⟩, ?_⟩
  · exact (hg.block _ (Array.getElem?_eq_some_iff.1 h1).1 (fun e => (hr p e.symm).1 rfl)).trans h1
  · exact (hg.block _ (Array.getElem?_eq_some_iff.1 h2).1 (fun e => (hr lv e.symm).2.1 rfl)).trans h2
  · exact (hg.block _ (Array.getElem?_eq_some_iff.1 h.word).1 (fun e => (hr wb e.symm).2.2 rfl)).trans h.word
theorem isSet_lt {W : World} {p lv wb x : Nat} (h : IsSet W p lv wb x) : p < W.heap.size ∧ lv < W.heap.size ∧ wb < W.heap.size := by
  obtain ⟨c, h1⟩ := h.row
  obtain ⟨rr, h2⟩ := h.lev
  exact ⟨(Array.getElem?_eq_some_iff.1 h1).1, (Array.getElem?_eq_some_iff.1 h2).1, (Array.getElem?_eq_some_iff.1 h.word).1⟩
/-- Between two rounds of AppendSeq over taken(). -/
structure CJ (w : World) (D p lv wb x0 : Nat) (rc : Loop) (W : World) : Prop where
  d : W.heap[D]? = some (.deferred (some []))
  l : W.heap[D + 1]? = some (.loop rc)
  s : ∃ x pre v, IsSet W p lv wb x ∧ pre ++ bitsL x = bitsL x0 ∧ W.heap[w.heap.size]? = some (.cells [v].toArray 36 (0, 0)) ∧ W.ownsRow (w.heap.size + 3) 3 1 v pre.length (pre.map iv)
  g : w.grownBy W (some wb)
theorem bitsL_len (x : Nat) : (bitsL x).length ≤ 64 := by
  have := List.length_filter_le x.testBit (List.range 64)
  simpa [bitsL] using this
theorem pre_len {pre q : List Nat} {x0 : Nat} (h : pre ++ q = bitsL x0) : pre.length ≤ 64 := by
  have h1 := congrArg List.length h
  have h2 := bitsL_len x0
  simp at h1
  omega
theorem CJ.keeps {w : World} {D p lv wb x0 Bn : Nat} {rc : Loop} (hBn : w.cell? ⟨Bn, 0, none⟩ = some (.pointer (some ⟨p, 0, none⟩))) (hne : wb < Bn) (hT : TabAt 1 Lib.deBruijn64tab w) (hg : 1 < wb) :
    TakenKeeps Bn p lv wb (CJ w D p lv wb x0 rc) := by
  intro W hJ
  obtain ⟨x, pre, v, hs, _⟩ := hJ.s
  have hBlt : Bn < w.heap.size := World.block_lt_of_cell? w _ hBn
  have hsz := hJ.g.size
  refine ⟨?_, ⟨x, hs⟩, ?_, by omega⟩
  · rw [World.cell?_of_block (a := ⟨Bn, 0, none⟩) (hJ.g.block Bn hBlt (fun e => by simp at e; omega))]
    exact hBn
  · intro j hj
    rw [World.cell?_of_block (a := ⟨1, j, none⟩) (hJ.g.block 1 (by omega) (fun e => by simp at e; omega))]
    exact hT j hj
theorem append_main (w W0 : World) (p lv wb x0 Bn : Nat) (hs : IsSet w p lv wb x0) (hBn : w.cell? ⟨Bn, 0, none⟩ = some (.pointer (some ⟨p, 0, none⟩))) (hne : wb < Bn) (hT : TabAt 1 Lib.deBruijn64tab w) (hg : 1 < wb)
    (hsz : W0.heap.size = w.heap.size + 1) (hB : Below w.heap.size w W0) (h1 : W0.heap[w.heap.size]? = some (.cells [.slice none 0 0].toArray 36 (0, 0)))
    (rc : Loop) (hst : rc.state = .ready) (hpe : rc.pending = none) {Q : Exit → Act → World → Prop} {a : Act}
    (round : TakenRound 1 (W0.heap.size + 1) p lv wb (CJ w W0.heap.size p lv wb x0 rc) (fun W => (bitsL (wordOf W wb)).length))
    (after : ∀ W' v, w.grownBy W' (some wb) → IsSet W' p lv wb 0 → W'.heap[W0.heap.size]? = some (.deferred (some [])) → W'.heap[w.heap.size]? = some (.cells [v].toArray 36 (0, 0)) → W'.ownsRow (w.heap.size + 3) 3 1 v (bitsL x0).length ((bitsL x0).map iv) →
      Q .normal { a with defers := { target := .collected W0.heap.size, args := #[] } :: a.defers } (W'.putObj (W0.heap.size + 1) (.loop { rc with state := .exhausted }))) :
    CallsIn Fence.wide 2 Tryd.prog 43 (#[.func (.yield (W0.heap.size + 1)) #[] #[]] ++ #[.pointer (some ⟨Bn, 0, none⟩)]) ((W0.alloc (.deferred (some []))).alloc (.loop rc)) (AfterLoop Tryd.prog 2 Q a W0.heap.size) := by
  have hbw : Below W0.heap.size W0 ((W0.alloc (.deferred (some []))).alloc (.loop rc)) := ((Below.refl _ _).alloc (Nat.le_refl _) _).alloc (by simp) _
  have g : ∀ k o, W0.heap[k]? = some o → ((W0.alloc (.deferred (some []))).alloc (.loop rc)).heap[k]? = some o := fun k o hk => (hbw.block k (Array.getElem?_eq_some_iff.1 hk).1).trans hk
  have hb : Below w.heap.size w ((W0.alloc (.deferred (some []))).alloc (.loop rc)) := hB.trans (hbw.mono (by omega))
  have hJ0 : CJ w W0.heap.size p lv wb x0 rc ((W0.alloc (.deferred (some []))).alloc (.loop rc)) := by
    refine ⟨two_at0 _ _ _, two_at _ _ _, ⟨x0, [], _, hs.below hb, rfl, g _ _ h1, World.ownsRow_nil _ _ _ _⟩, gb_below hb⟩
  refine (taken_iter 1 (W0.heap.size + 1) Bn p lv wb _ _ (CJ.keeps hBn hne hT hg) round _ hJ0).mono ?_
  rintro e W' ⟨hv, W1, hJ, hs0, m, rfl⟩
  obtain ⟨x, pre, v, hsx, hpre, hbox, hown⟩ := hJ.s
  have hx : x = 0 := by rw [← wordOf_set hsx, wordOf_set hs0]
  subst hx
  rw [bitsL_zero, List.append_nil] at hpre
  subst hpre
  refine ⟨hv, rc, hJ.l, by rw [hst]; exact fun hc => (by cases hc), ?_⟩
  split
  · exact after _ v ⟨hJ.g.os, hJ.g.tape, hJ.g.output, hJ.g.size, hJ.g.block⟩ (hs0.below (Below.drewN' (Below.refl _ _) m)) hJ.d hbox (own_gb hown (gb_below (Below.drewN' (Below.refl _ _) m)) (r := none) (fun k e => by cases e))
  · rename_i c hc
    rw [hpe] at hc
    cases hc
theorem append_fin {w W2 w3 : World} {D p lv wb x0 y m : Nat} {rc : Loop} {pre : List Nat} {v v3 : Value} {o : Obj} (hD : D = w.heap.size + 1) (hlt : p < w.heap.size ∧ lv < w.heap.size ∧ wb < w.heap.size)
    (hst : rc.state = .ready) (hpe : rc.pending = none) (hg : w.grownBy W2 (some wb)) (hd : W2.heap[D]? = some (.deferred (some []))) (hl : W2.heap[D + 1]? = some (.loop rc)) (hs : IsSet W2 p lv wb y)
    (hbox : W2.heap[w.heap.size]? = some (.cells [v].toArray 36 (0, 0))) (hown : W2.ownsRow (w.heap.size + 3) 3 1 v pre.length (pre.map iv))
    (hg3 : ((W2.putObj (D + 1) (.loop { rc with state := .busy })).alloc o).grownBy w3 v.ownBlock) (hown3 : w3.ownsRow (w.heap.size + 3) 3 1 v3 (pre.length + 1) (pre.map iv ++ [iv m])) (hpre : pre ++ m :: bitsL y = bitsL x0) :
    (w3.setCell ⟨w.heap.size, 0, none⟩ v3).heap[D + 1]? = some (.loop { rc with state := .busy }) ∧ CJ w D p lv wb x0 rc ((w3.setCell ⟨w.heap.size, 0, none⟩ v3).putObj (D + 1) (.loop { rc with state := .ready, pending := none })) ∧
      wordOf ((w3.setCell ⟨w.heap.size, 0, none⟩ v3).putObj (D + 1) (.loop { rc with state := .ready, pending := none })) wb = y := by
  have hrc : ({ rc with state := .ready, pending := none } : Loop) = rc := by
    cases rc
    simp only at hst hpe
    subst hst hpe
    rfl
  rw [hrc]
  have hl2 : D + 1 < W2.heap.size := (Array.getElem?_eq_some_iff.1 hl).1
  have hob : ∀ k, v.ownBlock = some k → w.heap.size + 3 ≤ k := fun k hk => (hown.lt k hk).1
  have h3 : ∀ k, k < w.heap.size + 3 → k ≠ D + 1 → w3.heap[k]? = W2.heap[k]? := fun k hk hk2 => by
    refine (hg3.block k (by simp; omega) (fun e => by have := hob k e.symm; omega)).trans ?_
    rw [Go.heap_alloc_old _ _ (by simp; omega)]
    exact World.putObj_heap_other hk2
  have hl3 : w3.heap[D + 1]? = some (.loop { rc with state := .busy }) := by
    refine (hg3.block (D + 1) (by simp; omega) (fun e => by have := hob _ e.symm; omega)).trans ?_
    rw [Go.heap_alloc_old _ _ (by simp; omega)]
    exact World.putObj_heap_same hl2
  have hz3 : W2.heap.size ≤ w3.heap.size := by
    have := hg3.size
    simp at this
    omega
  have h4 : ∀ k, k < w.heap.size + 3 → k ≠ D + 1 → k ≠ w.heap.size → ((w3.setCell ⟨w.heap.size, 0, none⟩ v3).putObj (D + 1) (.loop rc)).heap[k]? = W2.heap[k]? := fun k hk hk2 hk3 =>
    (World.putObj_heap_other hk2).trans ((Below.heap_setCell _ _ _ _ hk3).trans (h3 k hk hk2))
  have hs4 : IsSet ((w3.setCell ⟨w.heap.size, 0, none⟩ v3).putObj (D + 1) (.loop rc)) p lv wb y := by
    obtain ⟨c, r1⟩ := hs.row
    obtain ⟨rr, r2⟩ := hs.lev
    exact ⟨hs.lt, hs.ne, ⟨c, (h4 p (by omega) (by omega) (by omega)).trans r1⟩, ⟨rr, (h4 lv (by omega) (by omega) (by omega)).trans r2⟩, (h4 wb (by omega) (by omega) (by omega)).trans hs.word⟩
  refine ⟨(Below.heap_setCell _ _ _ _ (by show _ ≠ w.heap.size; omega)).trans hl3, ⟨?_, World.putObj_heap_same (by simp [World.setCell]; omega), ⟨y, pre ++ [m], v3, hs4, by simpa using hpre, ?_, ?_⟩, ?_⟩, wordOf_set hs4⟩
  · exact (h4 D (by omega) (by omega) (by omega)).trans hd
  · refine (World.putObj_heap_other (by omega)).trans ?_
    exact row_setCell (l := [v]) ((h3 _ (by omega) (by omega)).trans hbox)
  · have h5 := own_gb (own_gb hown3 (gb_set w3 w.heap.size 0 v3) (fun k e => by cases e; omega)) (gb_put _ (D + 1) (.loop rc)) (fun k e => by cases e; omega)
    simpa using h5
  · refine ⟨?_, ?_, ?_, ?_, fun k hk hkb => ?_⟩
    · exact hg3.os.trans hg.os
    · exact hg3.tape.trans hg.tape
    · exact hg3.output.trans hg.output
    · have := hg.size
      simp [World.setCell]
      omega
    · exact (h4 k (by omega) (by omega) (by omega)).trans (hg.block k hk hkb)
set_option maxRecDepth 100000 in
set_option maxHeartbeats 1000000 in
theorem appendSeq_any (p lv wb x0 Bn : Nat) (w : World) (hs : IsSet w p lv wb x0) (hBn : w.cell? ⟨Bn, 0, none⟩ = some (.pointer (some ⟨p, 0, none⟩))) (hne : wb < Bn) (hT : TabAt 1 Lib.deBruijn64tab w) (hg : 1 < wb) :
    Calls Tryd.prog 42 #[.slice none 0 0, .func (.func 43) #[] #[.pointer (some ⟨Bn, 0, none⟩)]] w fun e w' => ∃ v, e = .returned v ∧ w'.ownsRow w.heap.size 3 1 v (bitsL x0).length ((bitsL x0).map iv) ∧ IsSet w' p lv wb 0 ∧ w.grownBy w' (some wb) := by
  have hlt := isSet_lt hs
  have HS := Lib.hid hs
  have HT := Lib.hid hT
  have HB := Lib.hid hBn
  clear hs hT hBn
  refine (callsIn_wide (n := 3)).1 ?_
  refine callsIn_of_wp_marks Tryd.func42 rfl trivial ?_ rfl
  simp only [Tryd.ntmps42, List.size_toArray, List.length_cons, List.length_nil, Nat.reduceAdd, Nat.reduceSub, Array.replicate_succ, Array.replicate_zero, List.push_toArray, List.append_toArray, List.nil_append, List.cons_append]
  gi_wp2
  have hB0 : Below w.heap.size w (w.alloc (.cells #[.slice none 0 0] 36)) := (Below.refl _ w).alloc (Nat.le_refl _) _
  have hsz : (w.alloc (.cells #[.slice none 0 0] 36)).heap.size = w.heap.size + 1 := by simp
  have h1 : (w.alloc (.cells #[.slice none 0 0] 36)).heap[w.heap.size]? = some (.cells [.slice none 0 0].toArray 36 (0, 0)) := alloc_at _ _
  obtain ⟨W0, hW0⟩ : ∃ W0, (w.alloc (.cells #[.slice none 0 0] 36)) = W0 := ⟨_, rfl⟩
  rw [hW0] at hB0 hsz h1 ⊢
  clear hW0
  refine range_wide (n := 2) (gf := 43) (lb := #[.pointer (some ⟨Bn, 0, none⟩)]) rfl (enters_of Tryd.func43 (by kernel_rfl) rfl) (fun fn => ?_)
  refine append_main w W0 p lv wb x0 Bn HS.out HB.out hne HT.out hg hsz hB0 h1 _ rfl rfl ?round ?after
  case round =>
    intro W W1 W2 x hJ hsx hx0 hb1 ht2 hs2
    obtain ⟨x', pre, v, hsx', hpre, hbox, hown⟩ := hJ.s
    have hxx : x' = x := by rw [← wordOf_set hsx', wordOf_set hsx]
    subst hxx
    dsimp only
    rw [wordOf_set hsx]
    have hbl := bitsL_least x' hsx.lt hx0
    rw [hbl] at hpre ⊢
    generalize Lib.ctz 64 x' = m at *
    generalize without x' m = y at *
    have hg2 : W.grownBy W2 (some wb) := gb_trans (gb_below hb1) (gb_touch ht2) (fun k e => .inl (by cases e; rfl))
    have hgw : w.grownBy W2 (some wb) := gb_trans hJ.g hg2 (fun k e => .inl (by cases e; rfl))
    have hll := (Array.getElem?_eq_some_iff.1 hJ.l).1
    have hl2 := (hg2.block _ hll (fun e => by simp at e; omega)).trans hJ.l
    have hd2 := (hg2.block _ (by omega) (fun e => by simp at e; omega)).trans hJ.d
    have hbox2 := (hg2.block w.heap.size (by omega) (fun e => by simp at e; omega)).trans hbox
    have hown2 := own_gb hown hg2 (fun k e => by cases e; omega)
    obtain ⟨va, vc, rfl⟩ := own_form hown2
    have hlen := pre_len hpre
    refine yield_wide hl2 rfl rfl ?_
    obtain ⟨i0, hi0, hz0, hz1, hz2⟩ := info_parts intinfo
    have H9 := Lib.hid hz0
    have H10 := Lib.hid hz1
    have H11 := Lib.hid hz2
    have H12 := Lib.hid hi0
    have c3 : ∀ o, (W2.putObj (W0.heap.size + 1) o).cell? ⟨w.heap.size, 0, none⟩ = some (.slice va pre.length vc) := fun o => by rw [cell_of_row _ _ 0 _ _ _ ((World.putObj_heap_other (by omega)).trans hbox2)]; rfl
    have hlz : w.heap.size + 3 ≤ W2.heap.size := by have := (Array.getElem?_eq_some_iff.1 hl2).1; omega
    have hob : ∀ k, (Value.slice va pre.length vc).ownBlock = some k → w.heap.size + 3 ≤ k := fun k hk => (hown2.lt k hk).1
    have HO := Lib.hid (fun o => own_gb hown2 (gb_put W2 (W0.heap.size + 1) o) (fun k e => by cases e; omega))
    have hL2 := hl2
    simp only [rec0] at hL2 ⊢
    have HL2 := Lib.hid hL2
    have HF := Lib.hid (fun w3 v3 o hg3 hown3 => append_fin (w := w) (W2 := W2) (w3 := w3) (v3 := v3) (o := o) hsz hlt (p := p) (lv := lv) (wb := wb) rfl rfl hgw hd2 hl2 hs2 hbox2 hown2 hg3 hown3 hpre)
    have HBX := Lib.hid hbox2
    clear hJ hsx' hpre hbox hown hsx hbl hg2 hgw hl2 hd2 hown2 hs2 ht2 hb1 hz0 hz1 hz2 hi0 hL2 hx0 hbox2
    have HSZ := Lib.hid hsz
    clear hsz
    gi_wp2
    refine ⟨HL2.out, ?_⟩
    gi_wp2_with (gi_at_builtin; go_must (refine wpListIn_append_own _ rfl (.tmp 8) (.tmp 10) 36 rfl (w.heap.size + 3) 3 i0 (.int .i64 0) 1 8 Tryd.underlying36 H12.out H9.out H10.out H11.out rfl (by decide) (.slice va pre.length vc) pre.length (pre.map iv) rfl (own_gb (HO.out _) (gb_alloc _ none _) (fun k e => by cases e)) ⟨W2.heap.size, 0, none⟩ 1 1 [iv m] rfl rfl (new_one _ _ _ _ (by simp)) (by simp [Value.oneCell', iv]) (by simp only [maxLen]; omega) (by omega) (by simp; omega) ?_; intro v3 w3 hown3 hg3 _; obtain ⟨g3, cap3, rfl⟩ := ownsRow_succ hown3; have O3 := Lib.hid hown3; have G3 := Lib.hid hg3; clear hown3 hg3; have e3 : w3.heap[w.heap.size]? = some (.cells [.slice va pre.length vc].toArray 36 (0, 0)) := (G3.out.block _ (by simp; omega) (fun e => by have := hob _ e.symm; omega)).trans ((Go.heap_alloc_old _ _ (by simp; omega)).trans ((World.putObj_heap_other (by have := HSZ.out; omega)).trans HBX.out)); have e4 := row_at e3 0 _ rfl; have e5 : w3.frozen? ⟨w.heap.size, 0, none⟩ = false := row_free e3))
    obtain ⟨f1, f2, f3⟩ := HF.out _ _ _ G3.out O3.out
    refine ⟨f1, rfl, f2, ?_⟩
    exact Nat.lt_of_le_of_lt (Nat.le_of_eq (congrArg (fun k => (bitsL k).length) f3)) (by simp)
  case after =>
    intro W' v hgw hs0 hd hbox hown
    have HG := Lib.hid hgw
    have HS0 := Lib.hid hs0
    have HO := Lib.hid hown
    have HD := Lib.hid hd
    have hdz := (Array.getElem?_eq_some_iff.1 hd).1
    have c3 : ∀ o, (W'.putObj (W0.heap.size + 1) o).cell? ⟨w.heap.size, 0, none⟩ = some v := fun o => by rw [cell_of_row _ _ 0 _ _ _ ((World.putObj_heap_other (by omega)).trans hbox)]; rfl
    have HSZ := Lib.hid hsz
    clear hgw hs0 hown hd hbox hsz
    gi_wp2
    refine ⟨by simp, .inl ⟨_, _, rfl, run_takeDeferred ((World.putObj_heap_other (by omega)).trans HD.out), ?_⟩⟩
    have hsz := HSZ.out
    refine ⟨_, results_tmp rfl _ _ _, v, rfl, own_base (own_gb (own_gb HO.out (gb_put _ _ _) (fun k e => by cases e; omega)) (gb_put _ _ _) (fun k e => by cases e; omega)) (by omega), isSet_gb (isSet_gb HS0.out (gb_put _ _ _) (fun k e => by cases e; omega)) (gb_put _ _ _) (fun k e => by cases e; omega), gb_trans (gb_trans HG.out (gb_put _ _ _) (fun k e => by cases e; omega)) (gb_put _ _ _) (fun k e => by cases e; omega)⟩
theorem collect_any (p lv wb x0 Bn : Nat) (w : World) (hs : IsSet w p lv wb x0) (hBn : w.cell? ⟨Bn, 0, none⟩ = some (.pointer (some ⟨p, 0, none⟩))) (hne : wb < Bn) (hT : TabAt 1 Lib.deBruijn64tab w) (hg : 1 < wb) :
    Calls Tryd.prog 25 #[.func (.func 43) #[] #[.pointer (some ⟨Bn, 0, none⟩)]] w fun e w' => ∃ v, e = .returned v ∧ w'.ownsRow w.heap.size 3 1 v (bitsL x0).length ((bitsL x0).map iv) ∧ IsSet w' p lv wb 0 ∧ w.grownBy w' (some wb) := by
  have HA := Lib.hid (appendSeq_any p lv wb x0 Bn w hs hBn hne hT hg)
  clear hs hBn hT
  go_enter Tryd.func25, Tryd.ntmps25
  go_wp2_with (go_at_call 42; refine HA.out.mono ?_; rintro e w' ⟨v, rfl, h1, h2, h3⟩; have H1 := Lib.hid h1; have H2 := Lib.hid h2; have H3 := Lib.hid h3; clear h1 h2 h3)
  go_ret
  exact ⟨v, rfl, H1.out, H2.out, H3.out⟩
end Go.Proofs.YtchhbhgbpimegaaDoor
