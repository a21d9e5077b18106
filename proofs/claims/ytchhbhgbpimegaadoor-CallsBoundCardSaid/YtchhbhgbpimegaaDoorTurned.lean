/-
  turned: of each function those that call it, rising.
-/
import Derived.Test.YtchhbhgbpimegaaDoorZero
namespace Go.Proofs.YtchhbhgbpimegaaDoor
open Go.RowKit
set_option linter.unusedVariables false
theorem own_ne {w w' : World} {B : Nat} {e : TypeId} {s : Nat} {v : Value} {n : Nat} {xs : List Value} {r : Option Nat} (h : w.ownsRow B e s v n xs) (hg : w.grownBy w' r) (hr : ∀ k, v.ownBlock = some k → r ≠ some k) : w'.ownsRow B e s v n xs := by
  refine ⟨h.1, ?_⟩
  rcases h.2 with h2 | ⟨g, cap, cur, hv, hb, hrow, rest⟩
  · exact .inl h2
  · exact .inr ⟨g, cap, cur, hv, hb, (hg.block g (Array.getElem?_eq_some_iff.1 hrow).1 (fun e => hr g (by rw [hv]; rfl) e.symm)).trans hrow, rest⟩
/-- At cb lie n rows, each in a block of its own, beyond B. -/
def RowsOwn (ty : TypeId) (w : World) (cb B n : Nat) (R : Nat → List Nat) : Prop :=
  ∃ vs : List Value, vs.length = n ∧ w.heap[cb]? = some (.cells vs.toArray ty (0, 0)) ∧ (∀ (i : Nat) (u : Value), vs[i]? = some u → w.ownsRow B 3 1 u (R i).length ((R i).map iv)) ∧
    ∀ (i k : Nat) (u t : Value) (b : Nat), vs[i]? = some u → vs[k]? = some t → i ≠ k → u.ownBlock = some b → t.ownBlock ≠ some b
theorem RowsOwn.gb {ty : TypeId} {w w' : World} {cb B n : Nat} {R : Nat → List Nat} {r : Option Nat} (h : RowsOwn ty w cb B n R) (hg : w.grownBy w' r) (hr : ∀ b, r = some b → b < B ∧ b ≠ cb) : RowsOwn ty w' cb B n R := by
  obtain ⟨vs, h1, h2, h3, h4⟩ := h
  exact ⟨vs, h1, (hg.block cb (Array.getElem?_eq_some_iff.1 h2).1 (fun e => (hr cb e.symm).2 rfl)).trans h2, fun i u hu => own_gb (h3 i u hu) hg fun k e => (hr k e).1, h4⟩
theorem RowsOwn.graph {ty : TypeId} {w : World} {cb B n c : Nat} {R : Nat → List Nat} (h : RowsOwn ty w cb B n R) : GraphIs w (.slice (some ⟨cb, 0, none⟩) n c) n R := by
  obtain ⟨vs, h1, h2, h3, h4⟩ := h
  refine ⟨_, c, rfl, fun f hf => ?_⟩
  obtain ⟨u, hu⟩ : ∃ u, vs[f]? = some u := ⟨_, List.getElem?_eq_getElem (by omega)⟩
  exact ⟨cb, u, rfl, row_at h2 f u hu, rowIs_own (h3 f u hu)⟩
/-- A row has grown by f. -/
theorem RowsOwn.put {ty : TypeId} {w w1 w3 : World} {cb B n x f : Nat} {R R' : Nat → List Nat} {vs : List Value} {u v3 : Value} (h1 : vs.length = n) (h2 : w.heap[cb]? = some (.cells vs.toArray ty (0, 0))) (h3 : ∀ (i : Nat) (u : Value), vs[i]? = some u → w.ownsRow B 3 1 u (R i).length ((R i).map iv))
    (h4 : ∀ (i k : Nat) (u t : Value) (b : Nat), vs[i]? = some u → vs[k]? = some t → i ≠ k → u.ownBlock = some b → t.ownBlock ≠ some b) (hx : vs[x]? = some u) (hcb : cb < B) (hB : B ≤ w.heap.size) (hg1 : w.grownBy w1 none) (hg3 : w1.grownBy w3 u.ownBlock)
    (ho : w3.ownsRow B 3 1 v3 ((R x).length + 1) ((R x).map iv ++ [iv f])) (hb : ∀ b, v3.ownBlock = some b → u.ownBlock = some b ∨ w1.heap.size ≤ b) (hR : ∀ i, i ≠ x → R' i = R i) (hRx : R' x = R x ++ [f]) :
    RowsOwn ty (w3.setCell ⟨cb, x, none⟩ v3) cb B n R' := by
  have hub : ∀ b, u.ownBlock = some b → B ≤ b ∧ b < w.heap.size := fun b hb => (h3 x u hx).lt b hb
  have hcz := (Array.getElem?_eq_some_iff.1 h2).1
  have hr3 : w3.heap[cb]? = some (.cells vs.toArray ty (0, 0)) :=
    (hg3.block cb (Nat.lt_of_lt_of_le hcz hg1.size) (fun e => by have := (hub cb e.symm).1; omega)).trans ((hg1.block cb hcz (by simp)).trans h2)
  have hlt : ∀ (i : Nat) (t : Value) (b : Nat), vs[i]? = some t → t.ownBlock = some b → b < w.heap.size := fun i t b ht hb => ((h3 i t ht).lt b hb).2
  refine ⟨vs.set x v3, by simpa using h1, row_setCell hr3, fun i t ht => ?_, fun i k t s b ht hs hik hb1 hb2 => ?_⟩
  · by_cases hi : i = x
    · subst hi
      rw [List.getElem?_set_self (List.getElem?_eq_some_iff.1 hx).1] at ht
      cases ht
      rw [hRx]
      have := own_gb ho (gb_set w3 cb i v3) (fun b e => by cases e; exact hcb)
      simpa using this
    · rw [List.getElem?_set_ne (fun e => hi e.symm)] at ht
      rw [hR i hi]
      refine own_gb (own_ne (own_ne (h3 i t ht) hg1 (by simp)) hg3 fun b hb => ?_) (gb_set w3 cb x v3) (fun b e => by cases e; exact hcb)
      exact fun e => h4 i x t u b ht hx hi hb e
  · by_cases hi : i = x
    · subst hi
      rw [List.getElem?_set_self (List.getElem?_eq_some_iff.1 hx).1] at ht
      cases ht
      rw [List.getElem?_set_ne hik] at hs
      rcases hb b hb1 with h5 | h5
      · exact h4 i k u s b hx hs hik h5 hb2
      · have := hlt k s b hs hb2
        have := hg1.size
        omega
    · rw [List.getElem?_set_ne (fun e => hi e.symm)] at ht
      by_cases hk : k = x
      · subst hk
        rw [List.getElem?_set_self (List.getElem?_eq_some_iff.1 hx).1] at hs
        cases hs
        rcases hb b hb2 with h5 | h5
        · exact h4 i k t u b ht hx hi hb1 h5
        · have := hlt i t b ht hb1
          have := hg1.size
          omega
      · rw [List.getElem?_set_ne (fun e => hk e.symm)] at hs
        exact h4 i k t s b ht hs hik hb1 hb2
/-- Those of the functions below f, and f if it stands among these, that call i. -/
def turnT (G : Nat → List Nat) (f : Nat) (t : List Nat) (i : Nat) : List Nat := ((List.range f).filter fun c => (G c).contains i) ++ (if t.contains i then [f] else [])
theorem turnT_nil (G : Nat → List Nat) (f i : Nat) : turnT G f [] i = callersOf f G i := by simp [turnT, callersOf]
theorem turnT_all (G : Nat → List Nat) (f i : Nat) : turnT G f (G f) i = callersOf (f + 1) G i := by
  rw [turnT, callersOf, List.range_succ, List.filter_append]
  simp only [List.filter_cons, List.filter_nil]
theorem turnT_len (G : Nat → List Nat) (f : Nat) (t : List Nat) (i : Nat) : (turnT G f t i).length ≤ f + 1 := by
  have h := List.length_filter_le (fun c => (G c).contains i) (List.range f)
  rw [List.length_range] at h
  rw [turnT, List.length_append]
  split
  · simp only [List.length_singleton]; omega
  · simp only [List.length_nil]; omega
theorem turnT_other (G : Nat → List Nat) (f : Nat) (t : List Nat) (x i : Nat) (h : i ≠ x) : turnT G f (t ++ [x]) i = turnT G f t i := by simp [turnT, h]
theorem turnT_same (G : Nat → List Nat) (f : Nat) (t : List Nat) (x : Nat) (h : x ∉ t) : turnT G f (t ++ [x]) x = turnT G f t x ++ [f] := by simp [turnT, h]
set_option maxRecDepth 100000 in
set_option maxHeartbeats 4000000 in
theorem turned_any (n : Nat) (G : Nat → List Nat) (v : Value) (w : World) (hG : IsG n G) (hL : ∀ f, f < n → (G f).length ≤ 1048576) (h : GraphIs w v n G) :
    Calls Tryd.prog 55 #[v] w fun e w' => ∃ v', e = .returned v' ∧ GraphIs w' v' n (callersOf n G) ∧ Below w.heap.size w w' := by
  obtain ⟨A, c, rfl, hrows⟩ := h
  have h64 := hG.n64
  have HG := Lib.hid hG
  have HR := Lib.hid hrows
  obtain ⟨i0, hi0, hz0, hz1, hz2⟩ := info_parts intinfo
  have H9 := Lib.hid hz0
  have H10 := Lib.hid hz1
  have H11 := Lib.hid hz2
  have H12 := Lib.hid hi0
  clear hrows hG hz0 hz1 hz2 hi0
  go_enter Tryd.func55, Tryd.ntmps55
  go_wp2
  rw [mk_rows n h64]
  go_wp2
  have hB2 : Below w.heap.size w (w.alloc (.cells (Array.replicate n (.slice none 0 0)) 36)) := (Below.refl _ _).alloc (Nat.le_refl _) _
  have hD2 : RowsOwn 36 (w.alloc (.cells (Array.replicate n (.slice none 0 0)) 36)) w.heap.size (w.heap.size + 1) n (callersOf 0 G) := by
    refine ⟨List.replicate n (.slice none 0 0), by simp, by rw [List.toArray_replicate]; exact alloc_at _ _, fun i u hu => ?_, fun i k u t b hu ht hik hb => ?_⟩
    · have := List.eq_of_mem_replicate (List.mem_of_getElem? hu)
      subst this
      exact World.ownsRow_nil _ _ _ _
    · have := List.eq_of_mem_replicate (List.mem_of_getElem? hu)
      subst this
      cases hb
  have hz2 : (w.alloc (.cells (Array.replicate n (.slice none 0 0)) 36)).heap.size = w.heap.size + 1 := by simp
  generalize (w.alloc (.cells (Array.replicate n (.slice none 0 0)) 36)) = w2 at *
  have HB2 := Lib.hid hB2
  have HD2 := Lib.hid hD2
  clear hB2 hD2
  go_loopw [12] (fun i wr => ∃ k : Nat, k ≤ n ∧ i = .int .i64 k ∧ Below w.heap.size w wr ∧ RowsOwn 36 wr w.heap.size (w.heap.size + 1) n (callersOf k G) ∧ w.heap.size + 1 ≤ wr.heap.size) (fun i _ => n - (intOf i).toNat)
  case atStart => exact ⟨0, by omega, rfl, HB2.out, HD2.out, by omega⟩
  case round =>
    obtain ⟨k, hk, rfl, hb, hd, hz⟩ := hrel
    have HB := Lib.hid hb
    have HD := Lib.hid hd
    clear hb hd
    by_cases hlt : k < n
    · have hlen := hL k hlt
      obtain ⟨gb, u, rfl, hu, hr⟩ := HR.out k hlt
      obtain ⟨A', c', rfl, hrow⟩ := hr
      have hu2 := cell_below hu HB.out
      have HRW : Hid (∀ j x, (G k)[j]? = some x → ∃ b, A' = some ⟨b, 0, none⟩ ∧ w.cell? ⟨b, j, none⟩ = some (iv x)) := hrow
      clear hu hrow
      go_wp2
      go_loopw [20] (fun i wr => ∃ j : Nat, j ≤ (G k).length ∧ i = .int .i64 j ∧ Below w.heap.size w wr ∧ RowsOwn 36 wr w.heap.size (w.heap.size + 1) n (turnT G k ((G k).take j)) ∧ w.heap.size + 1 ≤ wr.heap.size) (fun i _ => (G k).length - (intOf i).toNat)
      case atStart => exact ⟨0, by omega, rfl, HB.out, by rw [List.take_zero, show turnT G k [] = callersOf k G from funext fun i => turnT_nil G k i]; exact HD.out, by omega⟩
      case round =>
        obtain ⟨j, hj, rfl, hb, hd, hzz⟩ := hrel
        have HBq := Lib.hid hb
        have HDq := Lib.hid hd
        clear hb hd
        by_cases hjl : j < (G k).length
        · obtain ⟨x, hx⟩ : ∃ x, (G k)[j]? = some x := ⟨_, List.getElem?_eq_getElem hjl⟩
          obtain ⟨b, rfl, hc⟩ := HRW.out j x hx
          have hxn := HG.out.lt k hlt x (List.mem_of_getElem? hx)
          have hc2 := cell_below hc HBq.out
          have HX := Lib.hid hx
          simp only [iv] at hc2
          have h0 : (0 : Int) ≤ (x : Int) := by omega
          have h1 : (x : Int) < (n : Int) := by omega
          have hxt : x ∉ (G k).take j := by
            intro hm
            obtain ⟨m, hm1, hm2⟩ := List.mem_iff_getElem.1 hm
            have hmj : m < j := by simp at hm1; omega
            rw [List.getElem_take] at hm2
            have hnd := HG.out.once k hlt
            have := (List.getElem?_eq_some_iff.1 hx).2
            exact List.pairwise_iff_getElem.1 hnd m j (by omega) hjl hmj (hm2.trans this.symm)
          obtain ⟨vs, p1, p2, p3, p4⟩ := HDq.out
          obtain ⟨u, hu⟩ : ∃ u, vs[x]? = some u := ⟨_, List.getElem?_eq_getElem (by omega)⟩
          have hown := p3 x u hu
          obtain ⟨ua, uc, rfl⟩ := own_form hown
          have c5 := row_at p2 x _ hu
          have hlr := turnT_len G k ((G k).take j) x
          have hub : ∀ b, (Value.slice ua (turnT G k ((G k).take j) x).length uc).ownBlock = some b → w.heap.size + 1 ≤ b := fun b hb => (hown.lt b hb).1
          have P2 := Lib.hid p2
          have HF := Lib.hid (fun w1 w3 v3 hg1 hg3 ho hb => RowsOwn.put (w1 := w1) (w3 := w3) (v3 := v3) (f := k) (R' := turnT G k ((G k).take (j + 1))) p1 p2 p3 p4 hu (show w.heap.size < w.heap.size + 1 by omega) hzz hg1 hg3 ho hb (fun i hi => by rw [take_snoc _ _ _ HX.out]; exact turnT_other G k _ x i hi) (by rw [take_snoc _ _ _ HX.out]; exact turnT_same G k _ x hxt))
          have HO := Lib.hid hown
          have HU := Lib.hid hu
          clear hc hx p1 p2 p3 p4 hu hown hxt
          generalize hRx : turnT G k ((G k).take j) x = rx at *
          go_wp2_with (at_builtin; refine wpList_append_blk _ rfl (.tmp 29) (.tmp 31) 36 rfl (w.heap.size + 1) 3 i0 (.int .i64 0) 1 8 Tryd.underlying36 H12.out H9.out H10.out H11.out rfl (by decide) (.slice ua rx.length uc) rx.length (rx.map iv) rfl (own_ne HO.out (gb_alloc _ none _) (by simp)) ⟨_, 0, none⟩ 1 1 [iv k] rfl rfl (new_one _ _ _ _ rfl) (by simp [Value.oneCell', iv]) (by simp only [maxLen]; omega) (by omega) (by simp; omega) ?_; intro v3 w3 hown3 hg3 hb3; obtain ⟨g3, cap3, rfl⟩ := ownsRow_succ hown3; have O3 := Lib.hid hown3; have G3 := Lib.hid hg3; have B3 := Lib.hid hb3; have e3 : w3.heap[w.heap.size]? = some (.cells vs.toArray 36 (0, 0)) := (hg3.block _ (by simp; omega) (fun e => by have := hub _ e.symm; omega)).trans ((Go.heap_alloc_old _ _ (by omega)).trans P2.out); have e4 : w3.frozen? ⟨w.heap.size, x, none⟩ = false := row_free e3; have e5 := row_at e3 x _ HU.out; clear hown3 hg3 hb3)
          have hz3 := G3.out.size
          simp only [World.size_alloc] at hz3
          go_roundw
          case rel => exact ⟨j + 1, by omega, by go_num, (below_gb (HBq.out.alloc (by omega) (.cells #[iv k] 3)) G3.out (by simp; omega) (fun b hb => by have := hub b hb; omega)).setCell (p := ⟨w.heap.size, x, none⟩) (Nat.le_refl _) _, HF.out _ _ _ (gb_alloc _ none _) G3.out O3.out (fun b hb => by have := B3.out b hb; simpa using this), by simp [World.setCell]; omega⟩
          case measure =>
            simp [intOf]
            omega
        · obtain rfl : j = (G k).length := by omega
          rw [List.take_length, show turnT G k (G k) = callersOf (k + 1) G from funext fun i => turnT_all G k i] at HDq
          go_wp2
          go_roundw
          case rel => exact ⟨k + 1, by omega, by go_num, HBq.out, HDq.out, by omega⟩
          case measure =>
            simp [intOf]
            omega
    · obtain rfl : k = n := by omega
      go_wp2
      go_ret
      exact ⟨_, rfl, HD.out.graph, HB.out⟩
end Go.Proofs.YtchhbhgbpimegaaDoor
