/-
  worked by its contract: an operator of numbers alone. Made by wip/genfoldworked.py.
-/
import Derived.Test.YthmphmndpfkbcaaIsNum
import Derived.Deep.RegionHeld3
namespace Go.Proofs.Ythmphmndpfkbcaa
open Go.RowKit
set_option maxRecDepth 100000 in
theorem worked_1 (op at_ : Int) (name field : ByteArray) (n ty ref : Int) (b c : Nat) (x : Ex) (S : Nat → Prop) (w : World) (h4 : 4 ≤ op) (h8 : op ≤ 8) (hsl : SlIn S w (some b) [x]) (hlow : ∀ b, S b → b < w.heap.size) (hn : -2147483648 ≤ x.n) (hn2 : x.n ≤ 2147483647) :
    Calls Try.prog 34 #[.agg (exL op at_ name field n ty ref (some b) 1 c).toArray] w fun e w' => (∃ v : Int, e = .returned (.tuple #[.int .i32 v, .bool true]) ∧ wrapT ty v = wrapT ty (unV op ty x.n) ∧ -2147483648 ≤ v ∧ v ≤ 2147483647) ∧ Below w.heap.size w w' := by
  obtain ⟨hS, xop, xat, xname, xfield, xn, xty, xref, xA, xc, xl, rfl, hs, hc⟩ := hsl.at 0 _ rfl
  have hn : -2147483648 ≤ xn := hn
  have hn2 : xn ≤ 2147483647 := hn2
  have HC : Hid (CellsAt (w.alloc (.cells #[.int .i64 op, .int .i64 at_, .string name, .string field, .int .i64 n, .int .i64 ty, .int .i64 ref, .slice (some ⟨b, 0, none⟩) 1 c] 27)) b 0 (exL xop xat xname xfield xn xty xref xA xl.length xc)) := hc.below ((Below.refl w.heap.size _).alloc (Nat.le_refl _) _) (hlow _ hS)
  have kw : IntKind.i32.wrap xn = xn := IntWalk.i32_in _ (by omega)
  clear hc
  change Calls _ _ #[.agg #[.int .i64 op, .int .i64 at_, .string name, .string field, .int .i64 n, .int .i64 ty, .int .i64 ref, .slice (some ⟨b, 0, none⟩) 1 c]] w _
  go_enter Try.func34, Try.ntmps34
  go_wp2_with (first | (refine wpList_load_at rfl 27 _ rfl b _ rfl _ _ HC.out Try.underlying27 rfl (by kernel_rfl) ?_) | (go_at_call 16; refine (un_any _ _ _ _ h4 h8 hn hn2).mono ?_; rintro e w1 ⟨⟨v, rfl, _, hv, hv2⟩, hb1⟩))
  go_ret2
  exact ⟨⟨v, rfl, hv, hv2⟩, (((Below.refl _ _).alloc (Nat.le_refl _) _).alloc (by simp) _).trans (hb1.mono (by simp; omega))⟩
/-- What the last region of worked loads. -/
structure TwoIn (op xty xn yn : Int) (b c h : Nat) (W : World) : Prop where
  s1 : W.cell? ⟨h, 0, none⟩ = some (.int .i64 op)
  s2 : W.cell? ⟨h, 7, none⟩ = some (.slice (some ⟨b, 0, none⟩) 2 c)
  s3 : W.cell? ⟨h + 1, 5, none⟩ = some (.int .i64 xty)
  s4 : W.cell? ⟨h + 1, 4, none⟩ = some (.int .i64 xn)
  s5 : W.cell? ⟨b, 12, none⟩ = some (.int .i64 yn)
  lt : b < W.heap.size
  lt2 : h + 1 < W.heap.size
theorem TwoIn.below {op xty xn yn : Int} {b c h : Nat} {W W2 : World} (hI : TwoIn op xty xn yn b c h W) (hb : Below W.heap.size W W2) : TwoIn op xty xn yn b c h W2 := by
  obtain ⟨s1, s2, s3, s4, s5, l1, l2⟩ := hI
  have hs := hb.size
  refine ⟨?_, ?_, ?_, ?_, ?_, by omega, by omega⟩
  · rw [hb.cell (by show h < _; omega)]
    exact s1
  · rw [hb.cell (by show h < _; omega)]
    exact s2
  · rw [hb.cell (by show h + 1 < _; omega)]
    exact s3
  · rw [hb.cell (by show h + 1 < _; omega)]
    exact s4
  · rw [hb.cell (by show b < _; omega)]
    exact s5
theorem TwoIn.drew {op xty xn yn : Int} {b c h : Nat} {W : World} (hI : TwoIn op xty xn yn b c h W) : TwoIn op xty xn yn b c h W.drew := ⟨hI.s1, hI.s2, hI.s3, hI.s4, hI.s5, hI.lt, hI.lt2⟩
theorem TwoIn.start (op at_ : Int) (name field : ByteArray) (n ty ref : Int) (b c : Nat) (xop xat : Int) (xname xfield : ByteArray) (xn xty xref : Int) (xs : Value) (yn : Int) (w : World) (t : TypeId) (hb : b < w.heap.size) (hy : w.cell? ⟨b, 12, none⟩ = some (.int .i64 yn)) :
    TwoIn op xty xn yn b c w.heap.size ((w.alloc (.cells #[.int .i64 op, .int .i64 at_, .string name, .string field, .int .i64 n, .int .i64 ty, .int .i64 ref, .slice (some ⟨b, 0, none⟩) 2 c] t)).alloc (.cells #[.int .i64 xop, .int .i64 xat, .string xname, .string xfield, .int .i64 xn, .int .i64 xty, .int .i64 xref, xs] t)) := by
  have h1 := alloc_at w (.cells #[.int .i64 op, .int .i64 at_, .string name, .string field, .int .i64 n, .int .i64 ty, .int .i64 ref, .slice (some ⟨b, 0, none⟩) 2 c] t)
  have h2 := alloc_at (w.alloc (.cells #[.int .i64 op, .int .i64 at_, .string name, .string field, .int .i64 n, .int .i64 ty, .int .i64 ref, .slice (some ⟨b, 0, none⟩) 2 c] t)) (.cells #[.int .i64 xop, .int .i64 xat, .string xname, .string xfield, .int .i64 xn, .int .i64 xty, .int .i64 xref, xs] t)
  have hs : (w.alloc (.cells #[.int .i64 op, .int .i64 at_, .string name, .string field, .int .i64 n, .int .i64 ty, .int .i64 ref, .slice (some ⟨b, 0, none⟩) 2 c] t)).heap.size = w.heap.size + 1 := by simp
  have h3 := h1
  rw [← Below.heap_alloc _ (.cells #[.int .i64 xop, .int .i64 xat, .string xname, .string xfield, .int .i64 xn, .int .i64 xty, .int .i64 xref, xs] t) _ (by rw [hs]; omega)] at h3
  rw [hs] at h2
  refine ⟨?_, ?_, ?_, ?_, ?_, by simp; omega, by simp⟩
  · rw [cell_of_row _ _ _ _ _ _ h3]
    rfl
  · rw [cell_of_row _ _ _ _ _ _ h3]
    rfl
  · rw [cell_of_row _ _ _ _ _ _ h2]
    rfl
  · rw [cell_of_row _ _ _ _ _ _ h2]
    rfl
  · rw [World.cell?_alloc_lt _ _ _ (by rw [hs]; show b < _; omega), World.cell?_alloc_lt _ _ _ hb]
    exact hy
set_option maxRecDepth 100000 in
theorem worked_2 (op at_ : Int) (name field : ByteArray) (n ty ref : Int) (b c : Nat) (x y : Ex) (S : Nat → Prop) (w : World) (h9 : 9 ≤ op) (h24 : op ≤ 24) (hz : ¬ ((op = 10 ∨ op = 11) ∧ Ex.n y = 0)) (hsl : SlIn S w (some b) [x, y]) (hlow : ∀ b, S b → b < w.heap.size)
    (hn : -2147483648 ≤ x.n) (hn2 : x.n ≤ 2147483647) (hm : -2147483648 ≤ y.n) (hm2 : y.n ≤ 2147483647) :
    Calls Try.prog 34 #[.agg (exL op at_ name field n ty ref (some b) 2 c).toArray] w fun e w' => e = .returned (.tuple #[.int .i32 (binV op x.ty x.n y.n), .bool true]) ∧ Below w.heap.size w w' := by
  obtain ⟨hS, xop, xat, xname, xfield, xn, xty, xref, xA, xc, xl, rfl, hs, hc⟩ := hsl.at 0 _ rfl
  obtain ⟨_, yop, yat, yname, yfield, yn, yty, yref, yA, yc, yl, rfl, _, hy⟩ := hsl.at 1 _ rfl
  have hn : -2147483648 ≤ xn := hn
  have hn2 : xn ≤ 2147483647 := hn2
  have hm : -2147483648 ≤ yn := hm
  have hm2 : yn ≤ 2147483647 := hm2
  have hbl := hlow _ hS
  have HZ : Hid (¬ ((op = 10 ∨ op = 11) ∧ yn = 0)) := hz
  have HC : Hid (CellsAt (w.alloc (.cells #[.int .i64 op, .int .i64 at_, .string name, .string field, .int .i64 n, .int .i64 ty, .int .i64 ref, .slice (some ⟨b, 0, none⟩) 2 c] 27)) b 0 (exL xop xat xname xfield xn xty xref xA xl.length xc)) := hc.below ((Below.refl w.heap.size _).alloc (Nat.le_refl _) _) hbl
  have HT := Lib.hid (TwoIn.start op at_ name field n ty ref b c xop xat xname xfield xn xty xref (slV xA xl.length xc) yn w 27 hbl (hy 4 _ rfl))
  have HB2 : Hid (Below w.heap.size w ((w.alloc (.cells #[.int .i64 op, .int .i64 at_, .string name, .string field, .int .i64 n, .int .i64 ty, .int .i64 ref, .slice (some ⟨b, 0, none⟩) 2 c] 27)).alloc (.cells (exL xop xat xname xfield xn xty xref xA xl.length xc).toArray 27))) := ((Below.refl _ _).alloc (Nat.le_refl _) _).alloc (by simp) _
  have kw : IntKind.i32.wrap xn = xn := IntWalk.i32_in _ (by omega)
  have kw2 : IntKind.i32.wrap yn = yn := IntWalk.i32_in _ (by omega)
  clear hc hy hz
  change Calls _ _ #[.agg #[.int .i64 op, .int .i64 at_, .string name, .string field, .int .i64 n, .int .i64 ty, .int .i64 ref, .slice (some ⟨b, 0, none⟩) 2 c]] w _
  go_enter Try.func34, Try.ntmps34
  go_wp2_with (refine wpList_load_at rfl 27 _ rfl b _ rfl _ _ HC.out Try.underlying27 rfl (by kernel_rfl) ?_)
  refine wp_region_noPanic ?_
  refine wp_region_held_drew (S := (fun W => TwoIn op xty xn yn b c w.heap.size W)) (by kernel_rfl) (by first | exact HT.out | exact HT.out.drew) (fun hHeld => ?_)
  refine' take_ 0 rfl (by kernel_rfl) (by kernel_rfl) (by kernel_rfl) (fun _ _ _ h => h) (by rfl) (fun wS hSw => ?_) hHeld ?_
  rotate_left
  focus (obtain ⟨s1, s2, s3, s4, s5, _, _⟩ := hSw; go_simp; (try with_reducible rfl); done)
  try simp only [Act.put, List.setIfInBounds_toArray, List.set_cons_zero, List.set_cons_succ]
  refine' take_ 1 rfl (by kernel_rfl) (by kernel_rfl) (by kernel_rfl) (fun _ _ _ h => h) (by rfl) (fun wS hSw => ?_) hHeld ?_
  rotate_left
  focus (obtain ⟨s1, s2, s3, s4, s5, _, _⟩ := hSw; go_simp; (try with_reducible rfl); done)
  try simp only [Act.put, List.setIfInBounds_toArray, List.set_cons_zero, List.set_cons_succ]
  refine' take_ 2 rfl (by kernel_rfl) (by kernel_rfl) (by kernel_rfl) (fun _ _ _ h => h) (by rfl) (fun wS hSw => ?_) hHeld ?_
  rotate_left
  focus (obtain ⟨s1, s2, s3, s4, s5, _, _⟩ := hSw; go_simp; (try with_reducible rfl); done)
  try simp only [Act.put, List.setIfInBounds_toArray, List.set_cons_zero, List.set_cons_succ]
  refine' take_ 3 rfl (by kernel_rfl) (by kernel_rfl) (by kernel_rfl) (fun _ _ _ h => h) (by rfl) (fun wS hSw => ?_) hHeld ?_
  rotate_left
  focus (obtain ⟨s1, s2, s3, s4, s5, _, _⟩ := hSw; go_simp; (try with_reducible rfl); done)
  try simp only [Act.put, List.setIfInBounds_toArray, List.set_cons_zero, List.set_cons_succ]
  refine' take_ 4 rfl (by kernel_rfl) (by kernel_rfl) (by kernel_rfl) (fun _ _ _ h => h) (by rfl) (fun wS hSw => ?_) hHeld ?_
  rotate_left
  focus (obtain ⟨s1, s2, s3, s4, s5, _, _⟩ := hSw; go_simp; (try with_reducible rfl); done)
  try simp only [Act.put, List.setIfInBounds_toArray, List.set_cons_zero, List.set_cons_succ]
  refine' take_ 5 rfl (by kernel_rfl) (by kernel_rfl) (by kernel_rfl) (fun _ _ _ h => h) (by rfl) (fun wS hSw => ?_) hHeld ?_
  rotate_left
  focus (obtain ⟨s1, s2, s3, s4, s5, _, _⟩ := hSw; go_simp; (try with_reducible rfl); done)
  try simp only [Act.put, List.setIfInBounds_toArray, List.set_cons_zero, List.set_cons_succ]
  refine' take_ 6 rfl (by kernel_rfl) (by kernel_rfl) (by kernel_rfl) (fun _ _ _ h => h) (by rfl) (fun wS hSw => ?_) hHeld ?_
  rotate_left
  focus (obtain ⟨s1, s2, s3, s4, s5, _, _⟩ := hSw; go_simp; (try with_reducible rfl); done)
  try simp only [Act.put, List.setIfInBounds_toArray, List.set_cons_zero, List.set_cons_succ]
  refine' take_ 7 rfl (by kernel_rfl) (by kernel_rfl) (by kernel_rfl) (fun _ _ _ h => h) (by rfl) (fun wS hSw => ?_) hHeld ?_
  rotate_left
  focus (obtain ⟨s1, s2, s3, s4, s5, _, _⟩ := hSw; go_simp; (try with_reducible rfl); done)
  try simp only [Act.put, List.setIfInBounds_toArray, List.set_cons_zero, List.set_cons_succ]
  refine' take_ 8 rfl (by kernel_rfl) (by kernel_rfl) (by kernel_rfl) (fun _ _ _ h => h) (by rfl) (fun wS hSw => ?_) hHeld ?_
  rotate_left
  focus (obtain ⟨s1, s2, s3, s4, s5, _, _⟩ := hSw; go_simp; (try with_reducible rfl); done)
  try simp only [Act.put, List.setIfInBounds_toArray, List.set_cons_zero, List.set_cons_succ]
  refine' take_ 9 rfl (by kernel_rfl) (by kernel_rfl) (by kernel_rfl) (fun _ _ _ h => h) (by rfl) (fun wS hSw => ?_) hHeld ?_
  rotate_left
  focus (obtain ⟨s1, s2, s3, s4, s5, _, _⟩ := hSw; go_simp; (try with_reducible rfl); done)
  try simp only [Act.put, List.setIfInBounds_toArray, List.set_cons_zero, List.set_cons_succ]
  refine' take_ 10 rfl (by kernel_rfl) (by kernel_rfl) (by kernel_rfl) (fun _ _ _ h => h) (by rfl) (fun wS hSw => ?_) hHeld ?_
  rotate_left
  focus (obtain ⟨s1, s2, s3, s4, s5, _, _⟩ := hSw; go_simp; (try with_reducible rfl); done)
  try simp only [Act.put, List.setIfInBounds_toArray, List.set_cons_zero, List.set_cons_succ]
  refine' take_ 11 rfl (by kernel_rfl) (by kernel_rfl) (by kernel_rfl) (fun _ _ _ h => h) (by rfl) (fun wS hSw => ?_) hHeld ?_
  rotate_left
  focus (obtain ⟨s1, s2, s3, s4, s5, _, _⟩ := hSw; go_simp; (try with_reducible rfl); done)
  try simp only [Act.put, List.setIfInBounds_toArray, List.set_cons_zero, List.set_cons_succ]
  refine' take_ 12 rfl (by kernel_rfl) (by kernel_rfl) (by kernel_rfl) (fun _ _ _ h => h) (by rfl) (fun wS hSw => ?_) hHeld ?_
  rotate_left
  focus (obtain ⟨s1, s2, s3, s4, s5, _, _⟩ := hSw; go_simp; (try with_reducible rfl); done)
  try simp only [Act.put, List.setIfInBounds_toArray, List.set_cons_zero, List.set_cons_succ]
  refine only_ 13 rfl (by kernel_rfl) (by rfl) (fun K hK => ?_)
  go_simp
  refine (bin_yes op xty xn yn _ h9 h24 HZ.out hn hn2 hm hm2).mono ?_
  rintro e w1 ⟨rfl, hb1⟩
  go_simp
  refine hK.out _ _ (hHeld.below hb1) (fun hHeld2 => ?_)
  clear hK K hHeld
  have hHeld := hHeld2
  clear hHeld2
  try simp only [Act.put, List.setIfInBounds_toArray, List.set_cons_zero, List.set_cons_succ]
  refine' take_ 14 rfl (by kernel_rfl) (by kernel_rfl) (by kernel_rfl) (fun _ _ _ h => h) (by rfl) (fun wS hSw => ?_) hHeld ?_
  rotate_left
  focus (obtain ⟨s1, s2, s3, s4, s5, _, _⟩ := hSw; go_simp; (try with_reducible rfl); done)
  try simp only [Act.put, List.setIfInBounds_toArray, List.set_cons_zero, List.set_cons_succ]
  refine' take_ 15 rfl (by kernel_rfl) (by kernel_rfl) (by kernel_rfl) (fun _ _ _ h => h) (by rfl) (fun wS hSw => ?_) hHeld ?_
  rotate_left
  focus (obtain ⟨s1, s2, s3, s4, s5, _, _⟩ := hSw; go_simp; (try with_reducible rfl); done)
  try simp only [Act.put, List.setIfInBounds_toArray, List.set_cons_zero, List.set_cons_succ]
  refine' take_ 16 rfl (by kernel_rfl) (by kernel_rfl) (by kernel_rfl) (fun _ _ _ h => h) (by rfl) (fun wS hSw => ?_) hHeld ?_
  rotate_left
  focus (obtain ⟨s1, s2, s3, s4, s5, _, _⟩ := hSw; go_simp; (try with_reducible rfl); done)
  try simp only [Act.put, List.setIfInBounds_toArray, List.set_cons_zero, List.set_cons_succ]
  refine' take_ 17 rfl (by kernel_rfl) (by kernel_rfl) (by kernel_rfl) (fun _ _ _ h => h) (by rfl) (fun wS hSw => ?_) hHeld ?_
  rotate_left
  focus (obtain ⟨s1, s2, s3, s4, s5, _, _⟩ := hSw; go_simp; (try with_reducible rfl); done)
  try simp only [Act.put, List.setIfInBounds_toArray, List.set_cons_zero, List.set_cons_succ]
  refine wpAnyH_done (by kernel_rfl) ?_ _
  refine NoPanic.normal ?_
  go_wp2
  go_ret2
  exact ⟨rfl, HB2.out.drew.trans (hb1.mono (by simp; omega))⟩
set_option maxRecDepth 100000 in
theorem worked_3 (op at_ : Int) (name field : ByteArray) (n ty ref : Int) (b c : Nat) (x y : Ex) (S : Nat → Prop) (w : World) (hz : (op = 10 ∨ op = 11) ∧ Ex.n y = 0) (hsl : SlIn S w (some b) [x, y]) (hlow : ∀ b, S b → b < w.heap.size)
    (hn : -2147483648 ≤ x.n) (hn2 : x.n ≤ 2147483647) (hm : -2147483648 ≤ y.n) (hm2 : y.n ≤ 2147483647) :
    Calls Try.prog 34 #[.agg (exL op at_ name field n ty ref (some b) 2 c).toArray] w fun e w' => e = .returned (.tuple #[.int .i32 0, .bool false]) ∧ Below w.heap.size w w' := by
  obtain ⟨hS, xop, xat, xname, xfield, xn, xty, xref, xA, xc, xl, rfl, hs, hc⟩ := hsl.at 0 _ rfl
  obtain ⟨_, yop, yat, yname, yfield, yn, yty, yref, yA, yc, yl, rfl, _, hy⟩ := hsl.at 1 _ rfl
  have hn : -2147483648 ≤ xn := hn
  have hn2 : xn ≤ 2147483647 := hn2
  have hm : -2147483648 ≤ yn := hm
  have hm2 : yn ≤ 2147483647 := hm2
  have hbl := hlow _ hS
  have HZ : Hid ((op = 10 ∨ op = 11) ∧ yn = 0) := hz
  have HC : Hid (CellsAt (w.alloc (.cells #[.int .i64 op, .int .i64 at_, .string name, .string field, .int .i64 n, .int .i64 ty, .int .i64 ref, .slice (some ⟨b, 0, none⟩) 2 c] 27)) b 0 (exL xop xat xname xfield xn xty xref xA xl.length xc)) := hc.below ((Below.refl w.heap.size _).alloc (Nat.le_refl _) _) hbl
  have HT := Lib.hid (TwoIn.start op at_ name field n ty ref b c xop xat xname xfield xn xty xref (slV xA xl.length xc) yn w 27 hbl (hy 4 _ rfl))
  have HB2 : Hid (Below w.heap.size w ((w.alloc (.cells #[.int .i64 op, .int .i64 at_, .string name, .string field, .int .i64 n, .int .i64 ty, .int .i64 ref, .slice (some ⟨b, 0, none⟩) 2 c] 27)).alloc (.cells (exL xop xat xname xfield xn xty xref xA xl.length xc).toArray 27))) := ((Below.refl _ _).alloc (Nat.le_refl _) _).alloc (by simp) _
  have kw : IntKind.i32.wrap xn = xn := IntWalk.i32_in _ (by omega)
  have kw2 : IntKind.i32.wrap yn = yn := IntWalk.i32_in _ (by omega)
  clear hc hy hz
  change Calls _ _ #[.agg #[.int .i64 op, .int .i64 at_, .string name, .string field, .int .i64 n, .int .i64 ty, .int .i64 ref, .slice (some ⟨b, 0, none⟩) 2 c]] w _
  go_enter Try.func34, Try.ntmps34
  go_wp2_with (refine wpList_load_at rfl 27 _ rfl b _ rfl _ _ HC.out Try.underlying27 rfl (by kernel_rfl) ?_)
  refine wp_region_noPanic ?_
  refine wp_region_held_drew (S := (fun W => TwoIn op xty xn yn b c w.heap.size W)) (by kernel_rfl) (by first | exact HT.out | exact HT.out.drew) (fun hHeld => ?_)
  refine' take_ 0 rfl (by kernel_rfl) (by kernel_rfl) (by kernel_rfl) (fun _ _ _ h => h) (by rfl) (fun wS hSw => ?_) hHeld ?_
  rotate_left
  focus (obtain ⟨s1, s2, s3, s4, s5, _, _⟩ := hSw; go_simp; (try with_reducible rfl); done)
  try simp only [Act.put, List.setIfInBounds_toArray, List.set_cons_zero, List.set_cons_succ]
  refine' take_ 1 rfl (by kernel_rfl) (by kernel_rfl) (by kernel_rfl) (fun _ _ _ h => h) (by rfl) (fun wS hSw => ?_) hHeld ?_
  rotate_left
  focus (obtain ⟨s1, s2, s3, s4, s5, _, _⟩ := hSw; go_simp; (try with_reducible rfl); done)
  try simp only [Act.put, List.setIfInBounds_toArray, List.set_cons_zero, List.set_cons_succ]
  refine' take_ 2 rfl (by kernel_rfl) (by kernel_rfl) (by kernel_rfl) (fun _ _ _ h => h) (by rfl) (fun wS hSw => ?_) hHeld ?_
  rotate_left
  focus (obtain ⟨s1, s2, s3, s4, s5, _, _⟩ := hSw; go_simp; (try with_reducible rfl); done)
  try simp only [Act.put, List.setIfInBounds_toArray, List.set_cons_zero, List.set_cons_succ]
  refine' take_ 3 rfl (by kernel_rfl) (by kernel_rfl) (by kernel_rfl) (fun _ _ _ h => h) (by rfl) (fun wS hSw => ?_) hHeld ?_
  rotate_left
  focus (obtain ⟨s1, s2, s3, s4, s5, _, _⟩ := hSw; go_simp; (try with_reducible rfl); done)
  try simp only [Act.put, List.setIfInBounds_toArray, List.set_cons_zero, List.set_cons_succ]
  refine' take_ 4 rfl (by kernel_rfl) (by kernel_rfl) (by kernel_rfl) (fun _ _ _ h => h) (by rfl) (fun wS hSw => ?_) hHeld ?_
  rotate_left
  focus (obtain ⟨s1, s2, s3, s4, s5, _, _⟩ := hSw; go_simp; (try with_reducible rfl); done)
  try simp only [Act.put, List.setIfInBounds_toArray, List.set_cons_zero, List.set_cons_succ]
  refine' take_ 5 rfl (by kernel_rfl) (by kernel_rfl) (by kernel_rfl) (fun _ _ _ h => h) (by rfl) (fun wS hSw => ?_) hHeld ?_
  rotate_left
  focus (obtain ⟨s1, s2, s3, s4, s5, _, _⟩ := hSw; go_simp; (try with_reducible rfl); done)
  try simp only [Act.put, List.setIfInBounds_toArray, List.set_cons_zero, List.set_cons_succ]
  refine' take_ 6 rfl (by kernel_rfl) (by kernel_rfl) (by kernel_rfl) (fun _ _ _ h => h) (by rfl) (fun wS hSw => ?_) hHeld ?_
  rotate_left
  focus (obtain ⟨s1, s2, s3, s4, s5, _, _⟩ := hSw; go_simp; (try with_reducible rfl); done)
  try simp only [Act.put, List.setIfInBounds_toArray, List.set_cons_zero, List.set_cons_succ]
  refine' take_ 7 rfl (by kernel_rfl) (by kernel_rfl) (by kernel_rfl) (fun _ _ _ h => h) (by rfl) (fun wS hSw => ?_) hHeld ?_
  rotate_left
  focus (obtain ⟨s1, s2, s3, s4, s5, _, _⟩ := hSw; go_simp; (try with_reducible rfl); done)
  try simp only [Act.put, List.setIfInBounds_toArray, List.set_cons_zero, List.set_cons_succ]
  refine' take_ 8 rfl (by kernel_rfl) (by kernel_rfl) (by kernel_rfl) (fun _ _ _ h => h) (by rfl) (fun wS hSw => ?_) hHeld ?_
  rotate_left
  focus (obtain ⟨s1, s2, s3, s4, s5, _, _⟩ := hSw; go_simp; (try with_reducible rfl); done)
  try simp only [Act.put, List.setIfInBounds_toArray, List.set_cons_zero, List.set_cons_succ]
  refine' take_ 9 rfl (by kernel_rfl) (by kernel_rfl) (by kernel_rfl) (fun _ _ _ h => h) (by rfl) (fun wS hSw => ?_) hHeld ?_
  rotate_left
  focus (obtain ⟨s1, s2, s3, s4, s5, _, _⟩ := hSw; go_simp; (try with_reducible rfl); done)
  try simp only [Act.put, List.setIfInBounds_toArray, List.set_cons_zero, List.set_cons_succ]
  refine' take_ 10 rfl (by kernel_rfl) (by kernel_rfl) (by kernel_rfl) (fun _ _ _ h => h) (by rfl) (fun wS hSw => ?_) hHeld ?_
  rotate_left
  focus (obtain ⟨s1, s2, s3, s4, s5, _, _⟩ := hSw; go_simp; (try with_reducible rfl); done)
  try simp only [Act.put, List.setIfInBounds_toArray, List.set_cons_zero, List.set_cons_succ]
  refine' take_ 11 rfl (by kernel_rfl) (by kernel_rfl) (by kernel_rfl) (fun _ _ _ h => h) (by rfl) (fun wS hSw => ?_) hHeld ?_
  rotate_left
  focus (obtain ⟨s1, s2, s3, s4, s5, _, _⟩ := hSw; go_simp; (try with_reducible rfl); done)
  try simp only [Act.put, List.setIfInBounds_toArray, List.set_cons_zero, List.set_cons_succ]
  refine' take_ 12 rfl (by kernel_rfl) (by kernel_rfl) (by kernel_rfl) (fun _ _ _ h => h) (by rfl) (fun wS hSw => ?_) hHeld ?_
  rotate_left
  focus (obtain ⟨s1, s2, s3, s4, s5, _, _⟩ := hSw; go_simp; (try with_reducible rfl); done)
  try simp only [Act.put, List.setIfInBounds_toArray, List.set_cons_zero, List.set_cons_succ]
  refine only_ 13 rfl (by kernel_rfl) (by rfl) (fun K hK => ?_)
  go_simp
  refine (bin_no op xty xn yn _ HZ.out).mono ?_
  rintro e w1 ⟨rfl, hb1⟩
  go_simp
  refine hK.out _ _ (hHeld.below hb1) (fun hHeld2 => ?_)
  clear hK K hHeld
  have hHeld := hHeld2
  clear hHeld2
  try simp only [Act.put, List.setIfInBounds_toArray, List.set_cons_zero, List.set_cons_succ]
  refine' take_ 14 rfl (by kernel_rfl) (by kernel_rfl) (by kernel_rfl) (fun _ _ _ h => h) (by rfl) (fun wS hSw => ?_) hHeld ?_
  rotate_left
  focus (obtain ⟨s1, s2, s3, s4, s5, _, _⟩ := hSw; go_simp; (try with_reducible rfl); done)
  try simp only [Act.put, List.setIfInBounds_toArray, List.set_cons_zero, List.set_cons_succ]
  refine' take_ 15 rfl (by kernel_rfl) (by kernel_rfl) (by kernel_rfl) (fun _ _ _ h => h) (by rfl) (fun wS hSw => ?_) hHeld ?_
  rotate_left
  focus (obtain ⟨s1, s2, s3, s4, s5, _, _⟩ := hSw; go_simp; (try with_reducible rfl); done)
  try simp only [Act.put, List.setIfInBounds_toArray, List.set_cons_zero, List.set_cons_succ]
  refine' take_ 16 rfl (by kernel_rfl) (by kernel_rfl) (by kernel_rfl) (fun _ _ _ h => h) (by rfl) (fun wS hSw => ?_) hHeld ?_
  rotate_left
  focus (obtain ⟨s1, s2, s3, s4, s5, _, _⟩ := hSw; go_simp; (try with_reducible rfl); done)
  try simp only [Act.put, List.setIfInBounds_toArray, List.set_cons_zero, List.set_cons_succ]
  refine' take_ 17 rfl (by kernel_rfl) (by kernel_rfl) (by kernel_rfl) (fun _ _ _ h => h) (by rfl) (fun wS hSw => ?_) hHeld ?_
  rotate_left
  focus (obtain ⟨s1, s2, s3, s4, s5, _, _⟩ := hSw; go_simp; (try with_reducible rfl); done)
  try simp only [Act.put, List.setIfInBounds_toArray, List.set_cons_zero, List.set_cons_succ]
  refine wpAnyH_done (by kernel_rfl) ?_ _
  refine NoPanic.normal ?_
  go_wp2
  go_ret2
  exact ⟨rfl, HB2.out.drew.trans (hb1.mono (by simp; omega))⟩
end Go.Proofs.Ythmphmndpfkbcaa
