/-
  The law's works(): the chapter's examples.
-/
import Derived.Test.YtchhbhgbpimegaaDoorExample
namespace Go.Proofs.YtchhbhgbpimegaaDoor
open Go.RowKit
set_option linter.unusedVariables false
theorem ex_orderOf (u : Value) (W : World) (h : GraphIs W u 5 exG) (hT : Tab W) : Calls Tryd.prog 15 #[u] W fun e w' => ∃ v', e = .returned (.tuple #[v', .bool true]) ∧ IntsIs w' v' [2, 1, 0, 3, 4] ∧ Below W.heap.size W w' := by
  refine (order_full 5 exG u W ex_fine (by rw [ex_order]; rfl) h hT).mono ?_
  rintro e w' ⟨v', rfl, ho, hb⟩
  rw [ex_order] at ho
  exact ⟨v', rfl, intsIs_own (l := [2, 1, 0, 3, 4]) ho, hb⟩
theorem ring_orderOf (u : Value) (W : World) (h : GraphIs W u 5 ringG) (hT : Tab W) : Calls Tryd.prog 15 #[u] W fun e w' => e = .returned (.tuple #[.slice none 0 0, .bool false]) ∧ Below W.heap.size W w' :=
  order_short 5 ringG u W ring_fine (by rw [ring_order]; decide) h hT
theorem ex_deepOf (u s : Value) (W : World) (h : GraphIs W u 5 exG) (hs : IntsIs W s exS) (hT : Tab W) : Calls Tryd.prog 16 #[u, s] W fun e w' => ∃ v', e = .returned v' ∧ IntsIs w' v' [10, 5, 2, 6, 9] ∧ Below W.heap.size W w' := by
  refine (deep_full 5 exG u exS s W ex_fine (by rw [ex_order]; rfl) h hs ex_sizes hT).mono ?_
  rintro e w' ⟨v', db, rfl, rfl, _, hrow, hb⟩
  rw [ex_order] at hrow
  have := wsL_ints (c := 5) hrow
  rw [ex_deep] at this
  exact ⟨_, rfl, this, hb⟩
theorem ex_boundOf (u s p : Value) (W : World) (h : GraphIs W u 5 exG) (hs : IntsIs W s exS) (hp : IntsIs W p [0, 0, 0, 1, 1]) (hT : Tab W) : Calls Tryd.prog 18 #[u, s, .int .i64 0, p] W fun e w' => e = .returned (.int .i64 19) ∧ Below W.heap.size W w' := by
  have := bound_full 5 exG u exS s 0 [0, 0, 0, 1, 1] p W ex_fine (by rw [ex_order]; rfl) h hs ex_sizes hp (by decide) hT
  rw [ex_order, ex_bound] at this
  exact this
theorem ints_new (W : World) (l : List Int) : Below W.heap.size W (W.alloc (.cells (l.map jv).toArray 3)) ∧ IntsIs (W.alloc (.cells (l.map jv).toArray 3)) (.slice (some ⟨W.heap.size, 0, none⟩) l.length l.length) l :=
  ⟨(Below.refl _ _).alloc (Nat.le_refl _) _, intsIs_at (alloc_at _ _)⟩
/-- The ring: [0] in the third row. -/
theorem ring_world {w w1 : World} {e : Ending} (h : ExAns w e w1) : GraphIs ((w1.alloc (.cells #[.int .i64 0] 3)).setCell ⟨w.heap.size + 1 + 1 + 1, 2, none⟩ (.slice (some ⟨w1.heap.size, 0, none⟩) 1 1)) (.slice (some ⟨w.heap.size + 1 + 1 + 1, 0, none⟩) 5 5) 5 ringG ∧
    Below w.heap.size w ((w1.alloc (.cells #[.int .i64 0] 3)).setCell ⟨w.heap.size + 1 + 1 + 1, 2, none⟩ (.slice (some ⟨w1.heap.size, 0, none⟩) 1 1)) := by
  obtain ⟨_, hb, hr, r0, r1, r3, hz⟩ := h
  have ha : Below w1.heap.size w1 (w1.alloc (.cells #[.int .i64 0] 3)) := (Below.refl _ _).alloc (Nat.le_refl _) _
  have hr2 := (ha.block _ (Array.getElem?_eq_some_iff.1 hr).1).trans hr
  have hk : ∀ k, k ≠ w.heap.size + 1 + 1 + 1 → ((w1.alloc (.cells #[.int .i64 0] 3)).setCell ⟨w.heap.size + 1 + 1 + 1, 2, none⟩ (.slice (some ⟨w1.heap.size, 0, none⟩) 1 1)).heap[k]? = (w1.alloc (.cells #[.int .i64 0] 3)).heap[k]? := fun k hk => Below.heap_setCell _ _ _ _ hk
  have keep : ∀ (b : Nat) (n c : Nat) (l : List Nat), b ≠ w.heap.size + 1 + 1 + 1 → RowIs w1 (.slice (some ⟨b, 0, none⟩) n c) l → RowIs ((w1.alloc (.cells #[.int .i64 0] 3)).setCell ⟨w.heap.size + 1 + 1 + 1, 2, none⟩ (.slice (some ⟨w1.heap.size, 0, none⟩) 1 1)) (.slice (some ⟨b, 0, none⟩) n c) l := by
    rintro b n c l hbn h
    obtain ⟨A, c', hv, h2⟩ := h.below ha
    obtain ⟨rfl, rfl, rfl⟩ := Value.slice.inj hv
    refine ⟨_, c, rfl, fun j x hj => ?_⟩
    obtain ⟨b', hb', hc⟩ := h2 j x hj
    cases hb'
    exact ⟨b, rfl, (World.cell?_of_block (a := ⟨b, j, none⟩) (hk b hbn)).trans hc⟩
  refine ⟨graph5 (row_setCell hr2) (keep _ _ _ _ (by omega) r0) (keep _ _ _ _ (by omega) r1) ?_ (keep _ _ _ _ (by omega) r3) (rowIs_nil _), ?_⟩
  · refine rowIs_at (l := [0]) (t := 3) ((hk _ (by omega)).trans (alloc_at _ _))
  · exact (hb.trans (ha.mono hb.size)).setCell (p := ⟨w.heap.size + 1 + 1 + 1, 2, none⟩) (by show w.heap.size ≤ w.heap.size + 1 + 1 + 1; omega) _
set_option maxRecDepth 100000 in
set_option maxHeartbeats 4000000 in
theorem works_any (w : World) (hT : Tab w) : Calls Tryd.prog 14 #[] w fun e w' => e = .returned (.bool true) ∧ Below w.heap.size w w' := by
  have HT := Lib.hid hT
  clear hT
  go_enter Tryd.func14, Tryd.ntmps14
  go_upto_region 2 with fail
  have h0 := ints_new w exS
  change Below w.heap.size w (w.alloc (.cells #[.int .i64 5, .int .i64 3, .int .i64 2, .int .i64 4, .int .i64 9] 3)) ∧ IntsIs (w.alloc (.cells #[.int .i64 5, .int .i64 3, .int .i64 2, .int .i64 4, .int .i64 9] 3)) (.slice (some ⟨w.heap.size, 0, none⟩) 5 5) exS at h0
  have HB := Lib.hid h0.1
  have HS := Lib.hid h0.2
  clear h0
  generalize (w.alloc (.cells #[.int .i64 5, .int .i64 3, .int .i64 2, .int .i64 4, .int .i64 9] 3)) = W0 at *
  go_upto_region 3 with (first | (go_at_call 34; refine (example_any _).mono ?_; rintro e w1 hex; obtain rfl := hex.1; have HEX := Lib.hid hex; clear hex; have HO := Lib.hid (ex_orderOf _ _ HEX.out.graph (HT.out.below (HB.out.trans (HEX.out.2.1.mono HB.out.size)) (Nat.le_refl _)))) | (go_at_call 15; refine HO.out.mono ?_; rintro e w2 ⟨av, rfl, ha, hb2⟩; obtain ⟨aA, ac, rfl, ha2⟩ := id ha; have HAI := Lib.hid ha; have HB2 := Lib.hid (HEX.out.2.1.trans (hb2.mono HEX.out.2.1.size)); clear ha ha2 hb2))
  have HS2 := Lib.hid (HS.out.below HB2.out)
  have HBB := Lib.hid (HB.out.trans (HB2.out.mono HB.out.size))
  clear HS HB2 HB HEX HO
  go_upto_region 5 with (go_at_call 34; refine (example_any _).mono ?_; rintro e w3 hex; obtain rfl := hex.1; have HEX := Lib.hid hex; clear hex; have hrA := ((Below.refl w3.heap.size w3).alloc (Nat.le_refl _) (.cells #[.int .i64 0] 3)).block _ (Array.getElem?_eq_some_iff.1 HEX.out.2.2.1).1 |>.trans HEX.out.2.2.1; have q1 := row_at hrA 2 _ rfl; have q2 : World.frozen? _ ⟨w2.heap.size + 1 + 1 + 1, 2, none⟩ = false := row_free hrA)
  have hring := ring_world HEX.out
  have HRG := Lib.hid hring.1
  have HRB := Lib.hid hring.2
  clear hring q1 q2 hrA HEX
  generalize ((w3.alloc (.cells #[.int .i64 0] 3)).setCell ⟨w2.heap.size + 1 + 1 + 1, 2, none⟩ (.slice (some ⟨w3.heap.size, 0, none⟩) 1 1)) = W5 at *
  have HO5 := Lib.hid (ring_orderOf _ _ HRG.out (HT.out.below (HBB.out.trans (HRB.out.mono HBB.out.size)) (Nat.le_refl _)))
  go_upto_region 6 with (go_at_call 15; refine HO5.out.mono ?_; rintro e w6 ⟨rfl, hb6⟩; have HB6 := Lib.hid (HRB.out.trans (hb6.mono HRB.out.size)); clear hb6)
  have HS6 := Lib.hid (HS2.out.below HB6.out)
  have HA6 := Lib.hid (HAI.out.below HB6.out)
  have HBW := Lib.hid (HBB.out.trans (HB6.out.mono HBB.out.size))
  clear HS2 HAI HBB HB6 HRG HRB HO5
  have hn6 : Below w6.heap.size w6 (w6.alloc (.cells #[.int .i64 2, .int .i64 1, .int .i64 0, .int .i64 3, .int .i64 4] 3)) ∧ IntsIs (w6.alloc (.cells #[.int .i64 2, .int .i64 1, .int .i64 0, .int .i64 3, .int .i64 4] 3)) (.slice (some ⟨w6.heap.size, 0, none⟩) 5 5) [2, 1, 0, 3, 4] := ints_new w6 [2, 1, 0, 3, 4]
  have HSA := Lib.hid (same_eq [2, 1, 0, 3, 4] (.slice aA 5 ac) _ _ (HA6.out.below hn6.1) hn6.2 (by decide))
  have HBN := Lib.hid (HBW.out.trans (hn6.1.mono HBW.out.size))
  have HSN := Lib.hid (HS6.out.below hn6.1)
  clear hn6 HBW HS6 HA6
  go_wp2_with (first
    | (go_at_call 10; (with_reducible refine HSA.out.mono ?_); rintro e w7 ⟨rfl, hb7⟩; have HB7 := Lib.hid (HBN.out.trans (hb7.mono HBN.out.size)); have HS7 := Lib.hid (HSN.out.below hb7); clear hb7 HSA HBN HSN)
    | (go_at_call 34; refine (example_any _).mono ?_; rintro e w8 hex; obtain rfl := hex.1; have HBx := Lib.hid (HB7.out.trans (hex.2.1.mono HB7.out.size)); have HSx := Lib.hid (HS7.out.below hex.2.1); have HTx := HT.out.below HBx.out (Nat.le_refl _); have HDE := Lib.hid (ex_deepOf _ _ _ hex.graph HSx.out HTx); have hnp : Below w8.heap.size w8 (w8.alloc (.cells #[.int .i64 0, .int .i64 0, .int .i64 0, .int .i64 1, .int .i64 1] 3)) ∧ IntsIs (w8.alloc (.cells #[.int .i64 0, .int .i64 0, .int .i64 0, .int .i64 1, .int .i64 1] 3)) (.slice (some ⟨w8.heap.size, 0, none⟩) 5 5) [0, 0, 0, 1, 1] := ints_new w8 [0, 0, 0, 1, 1]; have HBO := Lib.hid (ex_boundOf _ _ _ _ (hex.graph.below hnp.1) (HSx.out.below hnp.1) hnp.2 (HTx.below hnp.1 (Nat.le_refl _))); have HBP := Lib.hid (HBx.out.trans (hnp.1.mono HBx.out.size)); clear hex HTx hnp HB7 HS7)
    | (go_at_call 16; (with_reducible refine HDE.out.mono ?_); rintro e w9 ⟨v9, rfl, ha9, hb9⟩; obtain ⟨A9, c9, rfl, -⟩ := id ha9; have hn9 : Below w9.heap.size w9 (w9.alloc (.cells #[.int .i64 10, .int .i64 5, .int .i64 2, .int .i64 6, .int .i64 9] 3)) ∧ IntsIs (w9.alloc (.cells #[.int .i64 10, .int .i64 5, .int .i64 2, .int .i64 6, .int .i64 9] 3)) (.slice (some ⟨w9.heap.size, 0, none⟩) 5 5) [10, 5, 2, 6, 9] := ints_new w9 [10, 5, 2, 6, 9]; have HSA := Lib.hid (same_eq [10, 5, 2, 6, 9] (.slice A9 5 c9) _ _ (ha9.below hn9.1) hn9.2 (by decide)); have HB9 := HBx.out.trans (hb9.mono HBx.out.size); have HBN := Lib.hid (HB9.trans (hn9.1.mono HB9.size)); have HSN := Lib.hid ((HSx.out.below hb9).below hn9.1); clear ha9 hb9 hn9 HB9 HDE HBO HBP HBx HSx)
    | (go_at_call 18; (with_reducible refine HBO.out.mono ?_); rintro e w12 ⟨rfl, hb12⟩; have HBZ := Lib.hid (HBP.out.trans (hb12.mono HBP.out.size)); clear hb12))
  go_ret
  exact ⟨rfl, HBZ.out⟩
end Go.Proofs.YtchhbhgbpimegaaDoor
