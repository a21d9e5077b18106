/-
  Order: of a graph of valid numbers: all functions in order, or none where they are not all in it.
-/
import Derived.Test.YtchhbhgbpimegaaDoorTold
namespace Go.Proofs.YtchhbhgbpimegaaDoor
open Go.RowKit
set_option linter.unusedVariables false
/-- A graph of valid numbers. -/
structure Fine (n : Nat) (G : Nat → List Nat) : Prop where
  n64 : n ≤ 64
  lt : ∀ f, f < n → ∀ c ∈ G f, c < n
  len : ∀ f, f < n → (G f).length ≤ 1048576
theorem Fine.isG {n : Nat} {G : Nat → List Nat} (h : Fine n G) : IsG n (cnt G) := isG_cnt h.n64 h.lt
theorem cnt_len (G : Nat → List Nat) (f : Nat) : (cnt G f).length ≤ 1048576 := Nat.le_trans (bitsL_len _) (by decide)
set_option maxRecDepth 100000 in
theorem order_full (n : Nat) (G : Nat → List Nat) (v : Value) (w : World) (hF : Fine n G) (hfull : (orderL n (cnt G)).length = n) (h : GraphIs w v n G) (hT : Tab w) :
    Calls Tryd.prog 15 #[v] w fun e w' => ∃ v', e = .returned (.tuple #[v', .bool true]) ∧ w'.ownsRow w.heap.size 3 1 v' n ((orderL n (cnt G)).map iv) ∧ Below w.heap.size w w' := by
  have HC := Lib.hid (counted_any n G v w hF.n64 hF.lt hF.len h hT)
  have HO : Hid (∀ u W, GraphIs W u n (cnt G) → Tab W → Calls Tryd.prog 36 #[u] W fun e w' => ∃ v', e = .returned v' ∧ w'.ownsRow W.heap.size 3 1 v' n ((orderL n (cnt G)).map iv) ∧ Below W.heap.size W w') := fun u W hg ht => by
    have := ordered_any n (cnt G) u W hF.isG (fun f _ => cnt_len G f) hg ht
    rwa [hfull] at this
  have HT := Lib.hid hT
  obtain ⟨A, c, rfl, -⟩ := h
  have h64 := hF.n64
  clear hfull hT hF
  generalize (orderL n (cnt G)).map iv = xs at *
  go_enter Tryd.func15, Tryd.ntmps15
  go_wp2_with (first | (go_at_call 35; refine HC.out.mono ?_; rintro e w1 ⟨v1, rfl, hg1, hb1⟩; have HO1 := Lib.hid (HO.out v1 w1 hg1 (HT.out.below hb1 (Nat.le_refl _))); obtain ⟨A1, c1, rfl, -⟩ := hg1; have HB1 := Lib.hid hb1; clear hb1) | (go_at_call 36; refine HO1.out.mono ?_; rintro e w2 ⟨v2, rfl, ho2, hb2⟩; obtain ⟨A2, c2, rfl⟩ := own_form ho2; have HO2 := Lib.hid ho2; have HB2 := Lib.hid hb2; clear ho2 hb2))
  go_ret2
  exact ⟨_, rfl, own_base HO2.out HB1.out.size, HB1.out.trans (HB2.out.mono HB1.out.size)⟩
set_option maxRecDepth 100000 in
theorem order_short (n : Nat) (G : Nat → List Nat) (v : Value) (w : World) (hF : Fine n G) (hs : (orderL n (cnt G)).length < n) (h : GraphIs w v n G) (hT : Tab w) :
    Calls Tryd.prog 15 #[v] w fun e w' => e = .returned (.tuple #[.slice none 0 0, .bool false]) ∧ Below w.heap.size w w' := by
  have HC := Lib.hid (counted_any n G v w hF.n64 hF.lt hF.len h hT)
  have HO : Hid (∀ u W, GraphIs W u n (cnt G) → Tab W → Calls Tryd.prog 36 #[u] W fun e w' => ∃ v', e = .returned v' ∧ w'.ownsRow W.heap.size 3 1 v' (orderL n (cnt G)).length ((orderL n (cnt G)).map iv) ∧ Below W.heap.size W w') := fun u W hg ht => ordered_any n (cnt G) u W hF.isG (fun f _ => cnt_len G f) hg ht
  have HT := Lib.hid hT
  obtain ⟨A, c, rfl, -⟩ := h
  have h64 := hF.n64
  clear hT hF
  generalize (orderL n (cnt G)).map iv = xs at *
  generalize (orderL n (cnt G)).length = m at *
  go_enter Tryd.func15, Tryd.ntmps15
  go_wp2_with (first | (go_at_call 35; refine HC.out.mono ?_; rintro e w1 ⟨v1, rfl, hg1, hb1⟩; have HO1 := Lib.hid (HO.out v1 w1 hg1 (HT.out.below hb1 (Nat.le_refl _))); obtain ⟨A1, c1, rfl, -⟩ := hg1; have HB1 := Lib.hid hb1; clear hb1) | (go_at_call 36; refine HO1.out.mono ?_; rintro e w2 ⟨v2, rfl, ho2, hb2⟩; obtain ⟨A2, c2, rfl⟩ := own_form ho2; have HO2 := Lib.hid ho2; have HB2 := Lib.hid hb2; clear ho2 hb2))
  go_ret2
  exact ⟨rfl, HB1.out.trans (HB2.out.mono HB1.out.size)⟩
end Go.Proofs.YtchhbhgbpimegaaDoor
