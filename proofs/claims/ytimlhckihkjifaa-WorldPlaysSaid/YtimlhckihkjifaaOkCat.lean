/-
  slices.Grow, Concat and Clone of inputs by their contracts. Made by wip/genworldok4.py.
-/
import Derived.Test.YtimlhckihkjifaaTw
import Derived.Test.YtimlhckihkjifaaOkFind
import Derived.Shelf.Spec.SlicesGrow
namespace Go.Proofs
open Go.Shelf
shelf_lay_g Lays8.n4 Nm8 4 at Try 37 as Ytimlhckihkjifaa.laysGrow
end Go.Proofs
namespace Go.Proofs.Ytimlhckihkjifaa
open Go.RowKit
set_option linter.unusedVariables false
set_option linter.unusedSimpArgs false
/-- As many inputs as there are read are put behind what is one's own. -/
theorem append_own (w : World) (base : Nat) (v : Value) (out : List In) (hown : OwnI w base v out) (A : Option Addr) (cap B : Nat) (l : List In) (hr : Rd w B A l) (hB : B ≤ w.heap.size) (hbase : base ≤ w.heap.size) (hl : out.length + l.length ≤ 10000) :
    ∃ v' w', (Builtin.append_ #[22, 22] 22 #[v, .slice A l.length cap]).run Try.prog w = .ok v' w' ∧ OwnI w' base v' (out ++ l) ∧ ∀ w0, Below base w0 w → Below base w0 w' := by
  obtain ⟨i0, hi0, hz0, hz1, hz2⟩ := info_parts ininfo
  cases l with
  | nil =>
    have hs : Src Try.prog i0.size 22 (.slice A 0 cap) 0 [] w := by
      cases A with
      | none => exact Src.ofNil _ Try.underlying22 cap
      | some a => exact Src.ofSlice _ Try.underlying22 a 0 cap [] (by simp) (fun j u h => by simp at h) (fun u h => by cases h)
    obtain ⟨A', cap', rfl⟩ := hown.form
    have hle : out.length ≤ cap' := by
      rcases hown.2 with ⟨h1, h0⟩ | ⟨g, c, cur, h1, _, _, hn, _⟩
      · omega
      · simp only [Value.slice.injEq] at h1
        omega
    exact ⟨_, _, run_append_nothing _ _ _ _ _ i0 Try.underlying22 hi0 _ _ _ hle _ hs, by rw [List.append_nil]; exact hown, fun _ h => h⟩
  | cons y t =>
    obtain ⟨a, rfl, ha, _⟩ := hr.at_ 0 y rfl
    obtain ⟨v', w', hrun, h2, h3, h4⟩ := run_append_blk (P := Try.prog) w base 22 22 25 i0 _ 3 24 Try.underlying22 hi0 hz0 hz1 hz2 rfl (by omega) v out.length (out.flatMap ic) hown a (y :: t).length cap ((y :: t).flatMap ic) (flat_len _) (fun j u h => by
        obtain ⟨x, e1, e2⟩ := flat_get _ _ _ h
        obtain ⟨a', e, hlt, hc⟩ := hr.at_ _ _ e1
        obtain rfl : a = a' := by simpa using e
        have := hc _ _ e2
        rw [Addr.add_add, show j / 3 * 3 + j % 3 = j by omega] at this
        exact this) (fun u hu => by
        obtain ⟨x, _, h⟩ := List.mem_flatMap.1 hu
        exact ic_one x u h) (by simp only [maxLen]; omega) (by omega) hbase
    have hO : OwnI w' base v' (out ++ (y :: t)) := by
      unfold OwnI
      rw [List.length_append, List.flatMap_append]
      exact h2
    exact ⟨v', w', hrun, hO, fun w0 hb => below_gb hb h3 hbase (fun b hb' => (World.ownsRow.lt hown b hb').1)⟩
theorem own_zero (w : World) (cur : Array Value) (G : Nat) (hG : G ≤ maxLen) (hc : cur.size = G * 3) : OwnI (w.drew.alloc (.cells cur 25)) w.heap.size (.slice (some ⟨w.heap.size, 0, none⟩) 0 G) [] :=
  ⟨rfl, .inr ⟨w.heap.size, G, cur, rfl, Nat.le_refl _, alloc_at w.drew _, Nat.zero_le _, hG, hc, rfl⟩⟩
theorem grow_any (n : Nat) (w : World) (h1 : 1 ≤ n) (h2 : n ≤ 10000) : Calls Try.prog 37 #[.slice none 0 0, .int .i64 (n : Int)] w fun e w' => (∃ v, e = .returned v ∧ OwnI w' w.heap.size v []) ∧ Below w.heap.size w w' := by
  obtain ⟨i0, hi0, hz0, hz1, hz2⟩ := info_parts ininfo
  refine (Any8.slices_Grow_grow laysGrow i0 _ hi0 hz0 (by omega) none 0 0 n [] w (Nat.le_refl _) (by omega) (by rw [hz2]; omega) (by omega) (by simp) (fun _ => rfl) (fun a h => by cases h)).mono ?_
  rintro e w' ⟨rfl, rfl⟩
  have hG := grownCap_ge w (0 + n) 0 25
  have hGm := grownCap_le_maxLen w (0 + n) 0 25 (by unfold maxLen; omega)
  have e25 : laysGrow_ren.t 25 = 25 := by kernel_rfl
  rw [e25]
  refine ⟨⟨_, rfl, own_zero w _ _ hGm ?_⟩, (Below.refl _ _).drew.alloc (by simp) _⟩
  simp only [Array.size_append, size_zeroCells, List.size_toArray, List.length_nil]
  show 0 + (0 + n - 0) * 3 + (_ - (0 + n)) * 3 = _ * 3
  omega
/-- A slice of inputs, as it is handed over. -/
structure Sl where
  A : Option Addr
  cap : Nat
  l : List In
def Sl.v (s : Sl) : Value := .slice s.A s.l.length s.cap
def tot (L : List Sl) : List In := L.flatMap (·.l)
theorem tot_on {L : List Sl} {k : Nat} {s : Sl} (h : L[k]? = some s) : tot (L.take (k + 1)) = tot (L.take k) ++ s.l := by
  rw [List.take_add_one, h]
  simp [tot]
theorem tot_le (L : List Sl) (k : Nat) : (tot (L.take k)).length ≤ (tot L).length := by
  have h : tot L = tot (L.take k) ++ tot (L.drop k) := by
    unfold tot
    rw [← List.flatMap_append, List.take_append_drop]
  rw [h, List.length_append]
  omega
set_option maxHeartbeats 4000000 in
set_option maxRecDepth 100000 in
theorem concat_any (g B cap : Nat) (L : List Sl) (w : World) (hr : VRow w g 22 (L.map Sl.v)) (hs : ∀ s ∈ L, Rd w B s.A s.l) (hB : B ≤ w.heap.size) (hn : L.length ≤ 10) (h1 : 1 ≤ (tot L).length) (h2 : (tot L).length ≤ 10000) :
    Calls Try.prog 31 #[.slice (some ⟨g, 0, none⟩) L.length cap] w fun e w' => (∃ v, e = .returned v ∧ OwnI w' w.heap.size v (tot L)) ∧ Below w.heap.size w w' := by
  have HR := Lib.hid hr
  have HS := Lib.hid hs
  have HBW := Lib.hid hB
  have HTL := Lib.hid h2
  have HGR := Lib.hid (fun W => grow_any (tot L).length W h1 h2)
  have hle := fun k => tot_le L k
  clear hr hs hB
  go_enter Try.func31, Try.ntmps31
  go_wp2_with fail
  go_loopw [3, 11] (fun sv iv wr => ∃ k : Nat, k ≤ L.length ∧ iv = .int .i64 (k : Int) ∧ sv = .int .i64 ((tot (L.take k)).length : Int) ∧ w = wr) (fun _ iv _ => L.length - (intOf iv).toNat)
  case atStart => exact ⟨0, by omega, rfl, rfl, rfl⟩
  case round =>
    obtain ⟨k, hk, rfl, rfl, rfl⟩ := hrel
    by_cases hlt : k < L.length
    · obtain ⟨s, hsk⟩ : ∃ s, L[k]? = some s := ⟨L[k], List.getElem?_eq_getElem hlt⟩
      have c0 : w.cell? ⟨g, k, none⟩ = some (.slice s.A s.l.length s.cap) := HR.out.cell k _ (by rw [List.getElem?_map, hsk]; rfl)
      have d1 : (k : Int) < (L.length : Int) := by omega
      have HTO := Lib.hid (tot_on hsk)
      have e1 : (((tot (L.take k)).length : Int) + (s.l.length : Int)) = ((tot (L.take (k + 1))).length : Int) := by rw [HTO.out, List.length_append]; omega
      have hb1 := hle (k + 1)
      obtain ⟨a, ha⟩ : ∃ a, (tot (L.take k)).length = a := ⟨_, rfl⟩
      obtain ⟨b, hb⟩ : ∃ b, (tot (L.take (k + 1))).length = b := ⟨_, rfl⟩
      have hsl : a + s.l.length = b := by omega
      have HBB := Lib.hid hb
      rw [ha, hb] at e1
      rw [hb] at hb1
      rw [ha]
      have d2 : ¬ ((b : Int) < 0) := by omega
      clear hsk hle ha hb
      go_wp2_with fail
      go_roundw
      case rel => exact ⟨k + 1, by omega, by go_num, by rw [HBB.out], trivial⟩
      case measure =>
        simp [intOf]
        (try omega)
    · obtain rfl : k = L.length := by omega
      have d1 : ¬ (L.length : Int) < (L.length : Int) := by omega
      rw [List.take_length]
      clear hlt hk hle
      obtain ⟨n, hN⟩ : ∃ n, (tot L).length = n := ⟨_, rfl⟩
      rw [hN] at HGR h1 h2 ⊢
      have HN := Lib.hid hN
      clear hN
      have d3 : ¬ ((n : Int) < 0) := by omega
      go_wp2_with (go_at_call 37; (with_reducible refine (HGR.out _).mono ?_); rintro e W1 ⟨⟨v1, rfl, ho⟩, hb⟩; have O1 := Lib.hid ho; have B1 := Lib.hid hb; clear ho hb)
      go_loopw [6, 27] (fun v iv wr => ∃ k : Nat, k ≤ L.length ∧ iv = .int .i64 (k : Int) ∧ OwnI wr w.heap.size v (tot (L.take k)) ∧ Below w.heap.size w wr) (fun _ iv _ => L.length - (intOf iv).toNat)
      case atStart => exact ⟨0, by omega, rfl, O1.out, B1.out⟩
      case round =>
        obtain ⟨k, hk, rfl, ho, hb⟩ := hrel
        obtain ⟨u, hu⟩ : ∃ W, wr = W := ⟨_, rfl⟩
        rw [hu] at ho hb ⊢
        have O2 := Lib.hid ho
        have B2 := Lib.hid hb
        obtain ⟨oA, ocap, rfl⟩ := ho.form
        clear O1 B1 ho hb hu
        by_cases hlt : k < L.length
        · obtain ⟨s, hsk⟩ : ∃ s, L[k]? = some s := ⟨L[k], List.getElem?_eq_getElem hlt⟩
          have HRU : VRow u g 22 (L.map Sl.v) := VRow.below HR.out B2.out (VRow.lt HR.out)
          have c0 : u.cell? ⟨g, k, none⟩ = some (.slice s.A s.l.length s.cap) := HRU.cell k _ (by rw [List.getElem?_map, hsk]; rfl)
          have d1 : (k : Int) < (L.length : Int) := by omega
          have HTO := Lib.hid (tot_on hsk)
          have hrd : Rd u B s.A s.l := (HS.out s (List.mem_of_getElem? hsk)).below B2.out HBW.out
          obtain ⟨v3, w3, hrun, ho3, hb3⟩ := append_own u w.heap.size _ (tot (L.take k)) O2.out s.A s.cap B s.l hrd (Nat.le_trans HBW.out B2.out.size) B2.out.size (by have h1 := tot_le L (k + 1); have h2 := HTL.out; rw [HTO.out, List.length_append] at h1; omega)
          have HRUN := Lib.hid hrun
          have O3 : Hid (OwnI w3 w.heap.size v3 (tot (L.take (k + 1)))) := Lib.hid (by rw [HTO.out]; exact ho3)
          have B3 : Hid (Below w.heap.size w w3) := Lib.hid (hb3 w B2.out)
          obtain ⟨tl, htl⟩ : ∃ m, (tot (L.take k)).length = m := ⟨_, rfl⟩
          rw [htl] at HRUN ⊢
          clear hsk HRU hrd hrun ho3 hb3 O2 B2 htl
          go_wp2_with (at_builtin; refine wpList_append_run rfl _ _ _ rfl _ _ rfl rfl _ _ HRUN.out ?_)
          go_roundw
          case rel => exact ⟨k + 1, by omega, by go_num, O3.out, B3.out⟩
          case measure =>
            simp [intOf]
            (try omega)
        · obtain rfl : k = L.length := by omega
          have d1 : ¬ (L.length : Int) < (L.length : Int) := by omega
          have O3 : Hid (OwnI u w.heap.size (.slice oA (tot L).length ocap) (tot L)) := Lib.hid (by have := O2.out; rw [List.take_length] at this; exact this)
          clear hlt hk O2
          go_wp2_with fail
          exact bodyPost_ret (v := .slice oA (tot L).length ocap) (results_tmp Try.results31 _ _ _) rfl ⟨⟨_, rfl, O3.out⟩, B2.out⟩
theorem eql_nil (A : Option Addr) (n cap : Nat) (w : World) : (binOp .eql 22 (.slice A n cap) (.slice none 0 0)).run Try.prog w = .ok (.bool A.isNone) w := by
  have h := Lib.run_eql_slice_nil (P := Try.prog) w 22 _ A n cap 0 0 Try.underlying22
  rw [h]
set_option maxRecDepth 100000 in
theorem clone_any (A : Option Addr) (cap B : Nat) (l : List In) (w : World) (hr : Rd w B A l) (hB : B ≤ w.heap.size) (hl : l.length ≤ 1000) :
    Calls Try.prog 26 #[.slice A l.length cap] w fun e w' => (∃ v, e = .returned v ∧ OwnI w' w.heap.size v l) ∧ Below w.heap.size w w' := by
  have hq := eql_nil A l.length cap w
  cases A with
  | none =>
    obtain rfl : l = [] := by
      cases l with
      | nil => rfl
      | cons y t =>
        obtain ⟨a, h, _⟩ := hr.at_ 0 y rfl
        cases h
    clear hr hq
    have hq : (binOp .eql 22 (.slice none 0 cap) (.slice none 0 0)).run Try.prog w = .ok (.bool true) w := eql_nil none 0 cap w
    simp only [List.length_nil]
    go_enter Try.func26, Try.ntmps26
    go_wp2
    go_ret
    exact ⟨⟨_, rfl, OwnI.nil _ _⟩, Below.refl _ _⟩
  | some a =>
    replace hq : (binOp .eql 22 (.slice (some a) l.length cap) (.slice none 0 0)).run Try.prog w = .ok (.bool false) w := eql_nil (some a) l.length cap w
    have hb0 : Below w.heap.size w (w.alloc (.cells #[] 25)) := (Below.refl _ _).alloc (Nat.le_refl _) _
    have hown : OwnI (w.alloc (.cells #[] 25)) w.heap.size (.slice (some ⟨w.heap.size, 0, none⟩) 0 0) [] := ⟨rfl, .inr ⟨w.heap.size, 0, #[], rfl, Nat.le_refl _, alloc_at _ _, Nat.le_refl _, by simp [maxLen], rfl, rfl⟩⟩
    obtain ⟨v3, w3, hrun, ho3, hb3⟩ := append_own (w.alloc (.cells #[] 25)) w.heap.size _ [] hown (some a) cap B l (hr.below hb0 hB) (by simp; omega) (by simp) (by simp; omega)
    have HRUN := Lib.hid hrun
    have O3 := Lib.hid ho3
    have B3 := Lib.hid (hb3 w hb0)
    obtain ⟨n, hn⟩ : ∃ m, l.length = m := ⟨_, rfl⟩
    rw [hn] at HRUN hq ⊢
    clear hr hb0 hown hrun ho3 hb3 hn
    go_enter Try.func26, Try.ntmps26
    go_wp2_with (at_builtin; refine wpList_append_run rfl _ _ _ rfl _ _ rfl rfl _ _ HRUN.out ?_)
    go_ret
    exact ⟨⟨_, rfl, O3.out⟩, B3.out⟩
end Go.Proofs.Ytimlhckihkjifaa
