/-
  counted: a graph of valid numbers, each once, rising (of 1 to 64 functions; and of none).
-/
import Derived.Test.YtchhbhgbpimegaaDoorMake
namespace Go.Proofs.YtchhbhgbpimegaaDoor
open Go.RowKit
set_option linter.unusedVariables false
/-- The table of math/bits, where it must lie. -/
structure Tab (w : World) : Prop where
  at_ : TabAt 1 Lib.deBruijn64tab w
  lt : 1 < w.heap.size
theorem Tab.below {B : Nat} {w w' : World} (h : Tab w) (hb : Below B w w') (hB : w.heap.size ≤ B) : Tab w' := ⟨tabAt_below h.at_ hb (Nat.lt_of_lt_of_le h.lt hB), Nat.lt_of_lt_of_le h.lt hb.size⟩
/-- Rows that are done: those of functions below k. -/
def DoneUpto (wr : World) (ab B n : Nat) (G : Nat → List Nat) (k : Nat) : Prop :=
  ∃ vs : List Value, vs.length = n ∧ wr.heap[ab]? = some (.cells vs.toArray 36 (0, 0)) ∧ ∀ f, f < k → ∃ u, vs[f]? = some u ∧ wr.ownsRow B 3 1 u (cnt G f).length ((cnt G f).map iv)
theorem DoneUpto.gb {w w' : World} {ab B n k : Nat} {G : Nat → List Nat} {r : Option Nat} (h : DoneUpto w ab B n G k) (hg : w.grownBy w' r) (hr : ∀ b, r = some b → b < B ∧ b ≠ ab) : DoneUpto w' ab B n G k := by
  obtain ⟨vs, h1, h2, h3⟩ := h
  refine ⟨vs, h1, (hg.block ab (Array.getElem?_eq_some_iff.1 h2).1 (fun e => (hr ab e.symm).2 rfl)).trans h2, fun f hf => ?_⟩
  obtain ⟨u, hu, ho⟩ := h3 f hf
  exact ⟨u, hu, own_gb ho hg fun k e => (hr k e).1⟩
theorem DoneUpto.put {w : World} {ab B n k : Nat} {G : Nat → List Nat} {v : Value} (h : DoneUpto w ab B n G k) (hk : k < n) (hab : ab < B) (ho : w.ownsRow B 3 1 v (cnt G k).length ((cnt G k).map iv)) : DoneUpto (w.setCell ⟨ab, k, none⟩ v) ab B n G (k + 1) := by
  obtain ⟨vs, h1, h2, h3⟩ := h
  refine ⟨vs.set k v, by simpa using h1, row_setCell h2, fun f hf => ?_⟩
  by_cases hfk : f = k
  · subst hfk
    refine ⟨v, ?_, own_gb ho (gb_set w ab f v) (fun b e => by cases e; exact hab)⟩
    rw [List.getElem?_set_self (by omega)]
  · obtain ⟨u, hu, ho2⟩ := h3 f (by omega)
    refine ⟨u, ?_, own_gb ho2 (gb_set w ab k v) (fun b e => by cases e; exact hab)⟩
    rw [List.getElem?_set_ne (fun e => hfk e.symm)]
    exact hu
theorem DoneUpto.graph {w : World} {ab B n c : Nat} {G : Nat → List Nat} (h : DoneUpto w ab B n G n) : GraphIs w (.slice (some ⟨ab, 0, none⟩) n c) n (cnt G) := by
  obtain ⟨vs, h1, h2, h3⟩ := h
  refine ⟨_, c, rfl, fun f hf => ?_⟩
  obtain ⟨u, hu, ho⟩ := h3 f hf
  exact ⟨ab, u, rfl, row_at h2 f u hu, rowIs_own ho⟩
theorem pt_alloc (w : World) (o : Obj) (p : Addr) (hp : p = ⟨w.heap.size, 0, none⟩) (v : Value) (t : TypeId) (ho : o = .cells #[v] t (0, 0)) : (w.alloc o).cell? p = some v := by
  subst hp ho
  rw [cell_of_row _ _ 0 _ _ _ (alloc_at _ _)]
  rfl
set_option maxRecDepth 100000 in
set_option maxHeartbeats 4000000 in
theorem counted_some (n : Nat) (G : Nat → List Nat) (v : Value) (w : World) (hn : 1 ≤ n) (h64 : n ≤ 64) (hG : ∀ f, f < n → ∀ c ∈ G f, c < n) (hL : ∀ f, f < n → (G f).length ≤ 1048576) (h : GraphIs w v n G) (hT : Tab w) :
    Calls Tryd.prog 35 #[v] w fun e w' => ∃ v', e = .returned v' ∧ GraphIs w' v' n (cnt G) ∧ Below w.heap.size w w' := by
  obtain ⟨A, c, rfl, hrows⟩ := h
  obtain ⟨gb, u0, rfl, _, _⟩ := hrows 0 (by omega)
  have HR : Hid (∀ f, f < n → ∃ u, w.cell? ⟨gb, f, none⟩ = some u ∧ RowIs w u (G f)) := fun f hf => by
    obtain ⟨b, u, hA, hc, hr⟩ := hrows f hf
    cases hA
    exact ⟨u, hc, hr⟩
  have HT := Lib.hid hT
  have HG := Lib.hid hG
  clear hrows hT hG
  go_enter Tryd.func35, Tryd.ntmps35
  go_wp2_with (go_at_call 22; refine (newSet_any n _ hn h64).mono ?_; rintro e w1 ⟨rfl, hb1, lv, wb, hlv, hwb, hs1⟩; have HB1 := Lib.hid hb1; have HS1 := Lib.hid hs1; clear hb1 hs1)
  rw [mk_rows n h64]
  go_wp2
  have hzw := HB1.out.size
  have hslt := isSet_lt HS1.out
  have hB2 : Below w.heap.size w (w1.alloc (.cells (Array.replicate n (.slice none 0 0)) 36)) := HB1.out.alloc hzw _
  have hS2 : IsSet (w1.alloc (.cells (Array.replicate n (.slice none 0 0)) 36)) w.heap.size lv wb (bitsOr []) := HS1.out.below ((Below.refl _ _).alloc (Nat.le_refl _) _)
  have hD2 : DoneUpto (w1.alloc (.cells (Array.replicate n (.slice none 0 0)) 36)) w1.heap.size (w1.heap.size + 1) n G 0 := ⟨List.replicate n (.slice none 0 0), by simp, by rw [List.toArray_replicate]; exact alloc_at _ _, fun f hf => by omega⟩
  have hz2 : (w1.alloc (.cells (Array.replicate n (.slice none 0 0)) 36)).heap.size = w1.heap.size + 1 := by simp
  generalize (w1.alloc (.cells (Array.replicate n (.slice none 0 0)) 36)) = w2 at *
  have HB2 := Lib.hid hB2
  have HS2 := Lib.hid hS2
  have HD2 := Lib.hid hD2
  clear hB2 hS2 hD2
  go_loopw [16] (fun i wr => ∃ k : Nat, k ≤ n ∧ i = .int .i64 k ∧ Below w.heap.size w wr ∧ IsSet wr w.heap.size lv wb 0 ∧ DoneUpto wr w1.heap.size (w1.heap.size + 1) n G k ∧ w1.heap.size + 1 ≤ wr.heap.size) (fun i _ => n - (intOf i).toNat)
  case atStart => exact ⟨0, by omega, rfl, HB2.out, HS2.out, HD2.out, by omega⟩
  case round =>
    obtain ⟨k, hk, rfl, hb, hs, hd, hz⟩ := hrel
    have HB := Lib.hid hb
    have HS := Lib.hid hs
    have HD := Lib.hid hd
    have hzb := hb.size
    clear hb hs hd
    by_cases hlt : k < n
    · have hlen := hL k hlt
      obtain ⟨u, hu, hr⟩ := HR.out k hlt
      obtain ⟨A', c', rfl, hrow⟩ := hr
      have hu2 := cell_below hu HB.out
      have HRW : Hid (∀ j x, (G k)[j]? = some x → ∃ b, A' = some ⟨b, 0, none⟩ ∧ w.cell? ⟨b, j, none⟩ = some (iv x)) := hrow
      clear hu hrow
      go_wp2
      go_loopw [24] (fun i wq => ∃ j : Nat, j ≤ (G k).length ∧ i = .int .i64 j ∧ Touch wb wr wq ∧ IsSet wq w.heap.size lv wb (bitsOr ((G k).take j))) (fun i _ => (G k).length - (intOf i).toNat)
      case atStart => exact ⟨0, by omega, rfl, Touch.refl _ _, by simpa [bitsOr] using HS.out⟩
      case round =>
        obtain ⟨j, hj, rfl, ht, hsq⟩ := hrel
        have HTq := Lib.hid ht
        have HSq := Lib.hid hsq
        clear ht hsq
        by_cases hjl : j < (G k).length
        · obtain ⟨x, hx⟩ : ∃ x, (G k)[j]? = some x := ⟨_, List.getElem?_eq_getElem hjl⟩
          obtain ⟨b, rfl, hc⟩ := HRW.out j x hx
          have hxn := HG.out k hlt x (List.mem_of_getElem? hx)
          have hc2 := cell_below hc (below_touch HB.out HTq.out (by omega))
          have HX := Lib.hid hx
          have HADD := Lib.hid (add_any w.heap.size lv wb (bitsOr ((G k).take j)) x _ (by omega) HSq.out)
          simp only [iv] at hc2
          have h0 : (0 : Int) ≤ (x : Int) := by omega
          have h1 : (x : Int) < (n : Int) := by omega
          clear hc hx
          go_wp2_with (go_at_call 24; refine HADD.out.mono ?_; rintro e w3 ⟨rfl, hs3, ht3⟩; have HS3 := Lib.hid hs3; have HT3 := Lib.hid ht3; clear hs3 ht3)
          go_roundw
          case rel => exact ⟨j + 1, by omega, by go_num, HTq.out.trans HT3.out, by rw [take_snoc _ _ _ HX.out, bitsOr_snoc]; exact HS3.out⟩
          case measure =>
            simp [intOf]
            omega
        · obtain rfl : j = (G k).length := by omega
          rw [List.take_length] at HSq
          have hBr := below_touch HB.out HTq.out (show w.heap.size ≤ wb by omega)
          have hzr := HTq.out.size
          have hDr := HD.out.gb (gb_touch HTq.out) (fun b e => by cases e; omega)
          have hal : Below wr.heap.size wr (wr.alloc (.cells #[.pointer (some ⟨w.heap.size, 0, none⟩)] 66)) := (Below.refl _ _).alloc (Nat.le_refl _) _
          have HCol := Lib.hid (collect_any w.heap.size lv wb (bitsOr (G k)) wr.heap.size (wr.alloc (.cells #[.pointer (some ⟨w.heap.size, 0, none⟩)] 66)) (HSq.out.below hal) (pt_alloc _ _ _ rfl _ _ rfl) (by omega) ((HT.out.below hBr (Nat.le_refl _)).below hal (Nat.le_refl _)).at_ (by have := HT.out.lt; omega))
          have HBr := Lib.hid (below_gb (r := none) hBr (gb_below hal) hBr.size (fun k e => by cases e))
          have HDr := Lib.hid (hDr.gb (gb_below (r := none) hal) (fun b e => by cases e))
          have HZR := Lib.hid hzr
          clear hBr hDr hal hzr
          go_wp2_with (first | (go_at_call 26; refine (taken_any _ _).mono ?_; rintro e w' ⟨rfl, rfl⟩) | (go_at_call 25; refine HCol.out.mono ?_; rintro e w4 ⟨v4, rfl, ho4, hs4, hg4⟩; obtain ⟨a4, c4, rfl⟩ := own_form ho4; have HD4 : Hid (DoneUpto w4 w1.heap.size (w1.heap.size + 1) n G k) := HDr.out.gb hg4 (fun b e => by cases e; omega); have HB4 : Hid (Below w.heap.size w w4) := below_gb HBr.out hg4 (by have := HZR.out; simp; omega) (fun b e => by cases e; omega); have HZ4 := Lib.hid hg4.size; obtain ⟨vs4, hv1, hv2, hv3⟩ := HD4.out; obtain ⟨u4, hu4⟩ : ∃ u, vs4[k]? = some u := ⟨_, List.getElem?_eq_getElem (by omega)⟩; have c5 := row_at hv2 k u4 hu4; have c6 : w4.frozen? ⟨w1.heap.size, k, none⟩ = false := row_free hv2; have HO4 := Lib.hid ho4; have HS4 := Lib.hid hs4; clear ho4 hs4 hg4 hv1 hv2 hv3 hu4))
          have hz4 := HZ4.out
          have hzr := HZR.out
          simp only [World.size_alloc] at hz4
          go_roundw
          case rel => exact ⟨k + 1, by omega, by go_num, HB4.out.setCell (p := ⟨w1.heap.size, k, none⟩) (by show w.heap.size ≤ w1.heap.size; omega) _, isSet_gb HS4.out (gb_set _ _ _ _) (fun b e => by cases e; omega), HD4.out.put hlt (by omega) (own_base HO4.out (by simp; omega)), by simp [World.setCell]; omega⟩
          case measure =>
            simp [intOf]
            omega
    · obtain rfl : k = n := by omega
      go_wp2
      go_ret
      exact ⟨_, rfl, HD.out.graph, HB.out⟩
end Go.Proofs.YtchhbhgbpimegaaDoor
