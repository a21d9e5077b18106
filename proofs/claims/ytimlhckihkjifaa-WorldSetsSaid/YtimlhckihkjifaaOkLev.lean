/-
  The program's levels: come, now; played. Made by wip/genworldok6.py.
-/
import Derived.Test.YtimlhckihkjifaaOkSet
import Derived.Test.YtimlhckihkjifaaRound
namespace Go.Proofs.Ytimlhckihkjifaa
open Go.RowKit
set_option linter.unusedVariables false
set_option linter.unusedSimpArgs false
theorem wp_store_c {P : Program} {o : Oper} {a : Act} {w : World} {K : Act → World → Prop} {Q : Exit → Act → World → Prop} (ty : TypeId) (x v : Operand) (ho : o.op = .store ty x v) (g j : Nat) (hx : a.eval x = .pointer (some ⟨g, j, none⟩))
    (u : Value) (hv : (a.eval v).cells = [u].toArray) (hu1 : u.oneCell' = true) (hi : (P.info? ty).map (·.size) = some 1) (t : TypeId) (cs : List Value) (hr : VRow w g t cs) (hj : j < cs.length)
    (h : ∀ W, Hid (VRow W g t (cs.set j u)) → Hid (∀ k, k ≠ g → W.heap[k]? = w.heap[k]?) → Hid (Below g w W) → K (a.put o.dst undef) W) : o.wp P a w K Q := by
  refine wp_store_row rfl ty x v ho g j hx [u] hv (by rw [hi]; rfl) cs (cs.set j u) t hr (by simp; omega) (one_one _ hu1) ?_ (h _ (Lib.hid (hr.set _)) (Lib.hid fun k hk => setRow_other w g k _ hk) (Lib.hid (setRow_below (Below.refl _ _) (Nat.le_refl _) _)))
  rw [List.set_eq_take_append_cons_drop, if_pos hj]
  simp
/-- The last values that came, by their kinds. -/
structure Lv where
  a : Nat
  b : Nat
  c : Nat
structure Lv.ok (v : Lv) : Prop where
  a : v.a < 256
  b : v.b < 256
  c : v.c < 256
def lvc (v : Lv) : List Value := [.int .u8 (v.a : Int), .int .u8 (v.b : Int), .int .u8 (v.c : Int)]
def comeL (v : Lv) (x : In) : Lv := if x.k = 0 then { v with a := x.v } else if x.k = 1 then { v with b := x.v } else { v with c := x.v }
theorem comeL_ok {v : Lv} {x : In} (h : v.ok) (hx : x.v < 256) : (comeL v x).ok := by
  unfold comeL
  split
  · exact ⟨hx, h.b, h.c⟩
  · split
    · exact ⟨h.a, hx, h.c⟩
    · exact ⟨h.a, h.b, hx⟩
/-- The cells of a player. -/
def plc (v : Lv) (A : Option Addr) (n cap : Nat) (t c : Int) (md : Bool) : List Value := lvc v ++ [.slice A n cap, .int .i64 t, .int .i64 c, .bool md]
def nowL (v : Lv) (b : Bool) : Nw := ⟨v.a, v.c, b, if b = true then v.b else 0⟩
set_option maxHeartbeats 4000000 in
set_option maxRecDepth 100000 in
theorem come_any (g : Nat) (t : TypeId) (v : Lv) (rest : List Value) (x : In) (w : World) (hr : VRow w g t (lvc v ++ rest)) (hk0 : 0 ≤ x.k) (hk2 : x.k ≤ 2) :
    Calls Try.prog 33 #[.pointer (some ⟨g, 0, none⟩), .agg #[.int .i64 x.a, .int .i64 x.k, .int .u8 (x.v : Int)]] w fun e w' => (∃ r, e = .returned r) ∧ VRow w' g t (lvc (comeL v x) ++ rest) ∧ Only (fun k => k = g) w w' := by
  have HR := Lib.hid hr
  have HV : Hid ((lvc v ++ rest).set x.k.toNat (.int .u8 (x.v : Int)) = lvc (comeL v x) ++ rest) := Lib.hid (by
    unfold comeL
    obtain h | h | h : x.k = 0 ∨ x.k = 1 ∨ x.k = 2 := by omega
    · rw [h]; rfl
    · rw [h]; rfl
    · rw [h]; rfl)
  obtain ⟨k, hk⟩ : ∃ k : Nat, x.k = (k : Int) := ⟨x.k.toNat, by omega⟩
  rw [hk] at HV hk0 hk2 ⊢
  have hk3 : (k : Int) < 3 := by omega
  have hkl : k < (lvc v ++ rest).length := by simp [lvc]; omega
  clear hr
  go_enter Try.func33, Try.ntmps33
  go_upto_region 1 with (fail)
  refine name_one (Q := fun X => Code.wp _ _ _ _ X) ?_
  intro W0 hq1 hB0 hz0
  have R0 : Hid (VRow W0 w.heap.size 25 [.int .i64 x.a, .int .i64 (k : Int), .int .u8 (x.v : Int)]) := Lib.hid hq1
  have B0 := Lib.hid hB0
  have RP : Hid (VRow W0 g t (lvc v ++ rest)) := Lib.hid (VRow.below HR.out hB0 (VRow.lt HR.out))
  have NG : Hid (w.heap.size ≠ g) := Lib.hid (Nat.ne_of_gt (VRow.lt HR.out))
  have LG := Lib.hid (VRow.lt HR.out)
  clear hq1 hB0 HR
  refine wp_region_noPanic ?_
  refine wp_region_held_drew (S := fun X => VRow X w.heap.size 25 [.int .i64 x.a, .int .i64 (k : Int), .int .u8 (x.v : Int)]) (by kernel_rfl) (VRow.below R0.out (Below.drewN' (Below.refl _ W0) 1) (VRow.lt R0.out)) (fun hHeld => ?_)
  refine' take_ 0 rfl (by kernel_rfl) (by kernel_rfl) (by kernel_rfl) (fun _ _ _ h => h) (by rfl) (fun wS hSw => ?_) hHeld ?_
  rotate_left
  focus (go_simp; (try with_reducible rfl); done)
  try simp only [Act.put, List.setIfInBounds_toArray, List.set_cons_zero, List.set_cons_succ]
  refine' take_ 1 rfl (by kernel_rfl) (by kernel_rfl) (by kernel_rfl) (fun _ _ _ h => h) (by rfl) (fun wS hSw => ?_) hHeld ?_
  rotate_left
  focus (go_simp; (try with_reducible rfl); done)
  try simp only [Act.put, List.setIfInBounds_toArray, List.set_cons_zero, List.set_cons_succ]
  refine' take_ 2 rfl (by kernel_rfl) (by kernel_rfl) (by kernel_rfl) (fun _ _ _ h => h) (by rfl) (fun wS hSw => ?_) hHeld ?_
  rotate_left
  focus (have hz := VRow.cell hSw 1 _ rfl; go_simp; (try with_reducible rfl); done)
  try simp only [Act.put, List.setIfInBounds_toArray, List.set_cons_zero, List.set_cons_succ]
  refine' take_ 3 rfl (by kernel_rfl) (by kernel_rfl) (by kernel_rfl) (fun _ _ _ h => h) (by rfl) (fun wS hSw => ?_) hHeld ?_
  rotate_left
  focus (go_simp; (try with_reducible rfl); done)
  try simp only [Act.put, List.setIfInBounds_toArray, List.set_cons_zero, List.set_cons_succ]
  refine' take_ 4 rfl (by kernel_rfl) (by kernel_rfl) (by kernel_rfl) (fun _ _ _ h => h) (by rfl) (fun wS hSw => ?_) hHeld ?_
  rotate_left
  focus (have hz := VRow.cell hSw 2 _ rfl; go_simp; (try with_reducible rfl); done)
  try simp only [Act.put, List.setIfInBounds_toArray, List.set_cons_zero, List.set_cons_succ]
  refine' take_ 5 rfl (by kernel_rfl) (by kernel_rfl) (by kernel_rfl) (fun _ _ _ h => h) (by rfl) (fun wS hSw => ?_) hHeld ?_
  rotate_left
  focus (go_simp; (try with_reducible rfl); done)
  try simp only [Act.put, List.setIfInBounds_toArray, List.set_cons_zero, List.set_cons_succ]
  refine' take_ 6 rfl (by kernel_rfl) (by kernel_rfl) (by kernel_rfl) (fun _ _ _ h => h) (by rfl) (fun wS hSw => ?_) hHeld ?_
  rotate_left
  focus (go_simp; (try with_reducible rfl); done)
  try simp only [Act.put, List.setIfInBounds_toArray, List.set_cons_zero, List.set_cons_succ]
  refine only_ 7 rfl (by kernel_rfl) (by rfl) (fun K hK => ?_)
  refine wp_store_c 5 _ _ rfl g k (by rfl) (.int .u8 (x.v : Int)) (by rfl) rfl (by kernel_rfl) t (lvc v ++ rest) (VRow.below RP.out (Below.drewN' (Below.refl _ W0) 1) (VRow.lt RP.out)) hkl (fun W1 HN HO HB => ?_)
  have hH2 : VRow W1 w.heap.size 25 [.int .i64 x.a, .int .i64 (k : Int), .int .u8 (x.v : Int)] := (HO.out _ NG.out).trans hHeld
  have RN : Hid (VRow W1 g t (lvc (comeL v x) ++ rest)) := Lib.hid (by rw [← HV.out]; exact HN.out)
  have hd : Below W0.heap.size W0 W0.drew := (Below.refl _ W0).drew
  have HON : Hid (Only (fun j => j = g) w W1) := Lib.hid ⟨HB.out.os.trans B0.out.os, HB.out.tape.trans B0.out.tape, HB.out.output.trans B0.out.output, Nat.le_trans B0.out.size HB.out.size, fun j hj hne => (HO.out j hne).trans (B0.out.block j hj)⟩
  refine hK.out _ _ hH2 (fun _ => ?_)
  clear hK K hHeld hH2 HN HO HB hd
  try simp only [Act.put]
  refine wpAnyH_done (by kernel_rfl) ?_ _
  refine NoPanic.normal ?_
  exact ⟨rfl, .tuple #[], by simp [results, Try.results33], ⟨_, rfl⟩, RN.out, HON.out⟩
set_option maxHeartbeats 4000000 in
set_option maxRecDepth 100000 in
theorem now_any (g : Nat) (t : TypeId) (v : Lv) (rest : List Value) (b : Bool) (w : World) (hr : VRow w g t (lvc v ++ rest)) :
    Calls Try.prog 34 #[.pointer (some ⟨g, 0, none⟩), .bool b] w fun e w' => e = .returned (nv (nowL v b)) ∧ Below w.heap.size w w' := by
  have HR := Lib.hid hr
  clear hr
  go_enter Try.func34, Try.ntmps34
  go_upto_region 1 with (fail)
  refine name_one (Q := fun X => Code.wp _ _ _ _ X) ?_
  intro W0 hq1 hB0 hz0
  have R0 : Hid (VRow W0 w.heap.size 33 (nc n0)) := Lib.hid hq1
  have B0 := Lib.hid hB0
  have RP : Hid (VRow W0 g t (lvc v ++ rest)) := Lib.hid (VRow.below HR.out hB0 (VRow.lt HR.out))
  clear hq1 hB0 HR
  obtain ⟨r, hrr⟩ : ∃ r, w.heap.size = r := ⟨_, rfl⟩
  have LR := Lib.hid (show w.heap.size ≤ r by omega)
  rw [hrr] at R0 ⊢
  clear hrr
  refine wp_region_noPanic ?_
  refine wp_region_held_drew (S := fun X => VRow X g t (lvc v ++ rest)) (by kernel_rfl) (VRow.below RP.out (Below.drewN' (Below.refl _ W0) 1) (VRow.lt RP.out)) (fun hHeld => ?_)
  refine' take_ 0 rfl (by kernel_rfl) (by kernel_rfl) (by kernel_rfl) (fun _ _ _ h => h) (by rfl) (fun wS hSw => ?_) hHeld ?_
  rotate_left
  focus (go_simp; (try with_reducible rfl); done)
  try simp only [Act.put, List.setIfInBounds_toArray, List.set_cons_zero, List.set_cons_succ]
  refine' take_ 1 rfl (by kernel_rfl) (by kernel_rfl) (by kernel_rfl) (fun _ _ _ h => h) (by rfl) (fun wS hSw => ?_) hHeld ?_
  rotate_left
  focus (go_simp; (try with_reducible rfl); done)
  try simp only [Act.put, List.setIfInBounds_toArray, List.set_cons_zero, List.set_cons_succ]
  refine' take_ 2 rfl (by kernel_rfl) (by kernel_rfl) (by kernel_rfl) (fun _ _ _ h => h) (by rfl) (fun wS hSw => ?_) hHeld ?_
  rotate_left
  focus (go_simp; (try with_reducible rfl); done)
  try simp only [Act.put, List.setIfInBounds_toArray, List.set_cons_zero, List.set_cons_succ]
  refine' take_ 3 rfl (by kernel_rfl) (by kernel_rfl) (by kernel_rfl) (fun _ _ _ h => h) (by rfl) (fun wS hSw => ?_) hHeld ?_
  rotate_left
  focus (have hz := VRow.cell hSw 0 (.int .u8 (v.a : Int)) rfl; go_simp; (try with_reducible rfl); done)
  try simp only [Act.put, List.setIfInBounds_toArray, List.set_cons_zero, List.set_cons_succ]
  refine' take_ 4 rfl (by kernel_rfl) (by kernel_rfl) (by kernel_rfl) (fun _ _ _ h => h) (by rfl) (fun wS hSw => ?_) hHeld ?_
  rotate_left
  focus (go_simp; (try with_reducible rfl); done)
  try simp only [Act.put, List.setIfInBounds_toArray, List.set_cons_zero, List.set_cons_succ]
  refine' take_ 5 rfl (by kernel_rfl) (by kernel_rfl) (by kernel_rfl) (fun _ _ _ h => h) (by rfl) (fun wS hSw => ?_) hHeld ?_
  rotate_left
  focus (go_simp; (try with_reducible rfl); done)
  try simp only [Act.put, List.setIfInBounds_toArray, List.set_cons_zero, List.set_cons_succ]
  refine' take_ 6 rfl (by kernel_rfl) (by kernel_rfl) (by kernel_rfl) (fun _ _ _ h => h) (by rfl) (fun wS hSw => ?_) hHeld ?_
  rotate_left
  focus (go_simp; (try with_reducible rfl); done)
  try simp only [Act.put, List.setIfInBounds_toArray, List.set_cons_zero, List.set_cons_succ]
  refine' take_ 7 rfl (by kernel_rfl) (by kernel_rfl) (by kernel_rfl) (fun _ _ _ h => h) (by rfl) (fun wS hSw => ?_) hHeld ?_
  rotate_left
  focus (have hz := VRow.cell hSw 2 (.int .u8 (v.c : Int)) rfl; go_simp; (try with_reducible rfl); done)
  try simp only [Act.put, List.setIfInBounds_toArray, List.set_cons_zero, List.set_cons_succ]
  refine' take_ 8 rfl (by kernel_rfl) (by kernel_rfl) (by kernel_rfl) (fun _ _ _ h => h) (by rfl) (fun wS hSw => ?_) hHeld ?_
  rotate_left
  focus (go_simp; (try with_reducible rfl); done)
  try simp only [Act.put, List.setIfInBounds_toArray, List.set_cons_zero, List.set_cons_succ]
  refine' take_ 9 rfl (by kernel_rfl) (by kernel_rfl) (by kernel_rfl) (fun _ _ _ h => h) (by rfl) (fun wS hSw => ?_) hHeld ?_
  rotate_left
  focus (go_simp; (try with_reducible rfl); done)
  try simp only [Act.put, List.setIfInBounds_toArray, List.set_cons_zero, List.set_cons_succ]
  refine only_ 10 rfl (by kernel_rfl) (by rfl) (fun K hK => ?_)
  go_simp
  have hx1 : Below W0.heap.size W0 (W0.alloc (Obj.cells #[Value.int IntKind.u8 0, Value.int IntKind.u8 0, Value.bool false, Value.int IntKind.u8 0] 33)).drew := Below.drewN' ((Below.refl _ _).alloc (Nat.le_refl _) _) 1
  have hx2 : VRow (W0.alloc (Obj.cells #[Value.int IntKind.u8 0, Value.int IntKind.u8 0, Value.bool false, Value.int IntKind.u8 0] 33)).drew W0.heap.size 33 (nc n0) := VRow.al W0 (nc n0) 33
  obtain ⟨X, hX⟩ : ∃ X, (W0.alloc (Obj.cells #[Value.int IntKind.u8 0, Value.int IntKind.u8 0, Value.bool false, Value.int IntKind.u8 0] 33)).drew = X := ⟨_, rfl⟩
  rw [hX] at hx1 hx2 ⊢
  clear hX hHeld
  have RX0 := Lib.hid (VRow.below R0.out hx1 (VRow.lt R0.out))
  have hHeld := VRow.below RP.out hx1 (VRow.lt RP.out)
  have LX : Hid (r < W0.heap.size ∧ g < W0.heap.size) := Lib.hid ⟨VRow.lt R0.out, VRow.lt RP.out⟩
  obtain ⟨q, hq⟩ : ∃ q, W0.heap.size = q := ⟨_, rfl⟩
  have HQ := Lib.hid hq
  have HX1 : Hid (Below q W0 X) := Lib.hid (by rw [← hq]; exact hx1)
  rw [hq] at hx2 LX ⊢
  clear hq hx1
  refine hK.out _ _ hHeld (fun _ => ?_)
  clear hK K
  refine only_ 11 rfl (by kernel_rfl) (by rfl) (fun K hK => ?_)
  refine wp_store_v 33 _ _ rfl q (by rfl) [.int .u8 (v.a : Int), .int .u8 (v.c : Int), .bool b, .int .u8 0] (by rfl) (by kernel_rfl) (by intro u hu; simp only [List.mem_cons, List.not_mem_nil, or_false] at hu; rcases hu with rfl | rfl | rfl | rfl <;> rfl) 33 (nc n0) hx2 rfl (fun W1 HN HO HB => ?_)
  have hH2 : VRow W1 g t (lvc v ++ rest) := (HO.out _ (by have := LX.out; omega)).trans hHeld
  have RN : Hid (VRow W1 q 33 [.int .u8 (v.a : Int), .int .u8 (v.c : Int), .bool b, .int .u8 0]) := HN
  have RR : Hid (VRow W1 r 33 (nc n0)) := Lib.hid ((HO.out _ (by have := LX.out; omega)).trans RX0.out)
  have B1 : Hid (Below w.heap.size w W1) := Lib.hid (B0.out.trans ((HX1.out.trans HB.out).mono (by have := B0.out.size; have := HQ.out; omega)))
  have RV := Lib.hid hH2
  have NQR : Hid (r ≠ q) := Lib.hid (by have := LX.out; omega)
  have NQG : Hid (g ≠ q) := Lib.hid (by have := LX.out; omega)
  refine hK.out _ _ hH2 (fun _ => ?_)
  clear hK K hHeld hH2 HN HO HB hx2 HX1 RX0 R0 RP
  try simp only [Act.put]
  refine wpAnyH_done (by kernel_rfl) ?_ _
  refine NoPanic.normal ?_
  cases b
  · go_wp2_with (first
      | ((with_reducible show wpList _ _ _ (⟨none, .store 33 (.tmp 4) (.tmp 22), _, _, _, _⟩ :: _) _ _); refine wpList_store_v rfl 33 _ _ rfl r (by exact rfl) (nc (nowL v false)) (by exact rfl) (by kernel_rfl) (nc_one _) 33 (nc n0) RR.out rfl ?_; intro WZ HN HO HB; have HZ := HN; have BZ := Lib.hid (B1.out.trans (HB.out.mono LR.out)); clear HN HO HB)
      | ((with_reducible show wpList _ _ _ (⟨some 22, .load 33 (.tmp 5), _, _, _, _⟩ :: _) _ _); refine wpList_load_v (by rfl) 33 _ rfl q (by exact rfl) _ Try.underlying33 33 (nc (nowL v false)) RN.out (by kernel_rfl) ?_))
    exact bodyPost_ret (v := nv (nowL v false)) (results_c Try.results34 _ _ _ _ _ rfl (run_loadVar_v WZ r 33 _ Try.underlying33 33 (nc (nowL v false)) HZ.out (by kernel_rfl))) rfl ⟨rfl, BZ.out⟩
  · have z1 := VRow.cell RV.out 1 (.int .u8 (v.b : Int)) rfl
    go_wp2_with (first
      | ((with_reducible show wpList _ _ _ (⟨none, .store 33 (.tmp 4) (.tmp 22), _, _, _, _⟩ :: _) _ _); refine wpList_store_v rfl 33 _ _ rfl r (by exact rfl) (nc (nowL v true)) (by exact rfl) (by kernel_rfl) (nc_one _) 33 (nc n0) RR2.out rfl ?_; intro WZ HN HO HB; have HZ := HN; have BZ := Lib.hid (B2.out.trans (HB.out.mono LR.out)); clear HN HO HB)
      | ((with_reducible show wpList _ _ _ (⟨some 22, .load 33 (.tmp 5), _, _, _, _⟩ :: _) _ _); refine wpList_load_v (by rfl) 33 _ rfl q (by exact rfl) _ Try.underlying33 33 (nc (nowL v true)) RN2.out (by kernel_rfl) ?_)
      | ((with_reducible show wpList _ _ _ (⟨none, .store 5 (.tmp 21) (.tmp 20), _, _, _, _⟩ :: _) _ _); refine wpList_store_c rfl 5 _ _ rfl q 3 (by exact rfl) (.int .u8 (v.b : Int)) (by exact rfl) rfl (by kernel_rfl) 33 _ RN.out (show 3 < 4 by decide) ?_; intro W2 HN HO HB; have RN2 : Hid (VRow W2 q 33 (nc (nowL v true))) := HN; have RR2 : Hid (VRow W2 r 33 (nc n0)) := Lib.hid ((HO.out _ NQR.out).trans RR.out); have B2 : Hid (Below w.heap.size w W2) := Lib.hid (B1.out.trans (HB.out.mono (by have := B0.out.size; have := HQ.out; omega))); clear HN HO HB))
    exact bodyPost_ret (v := nv (nowL v true)) (results_c Try.results34 _ _ _ _ _ rfl (run_loadVar_v WZ r 33 _ Try.underlying33 33 (nc (nowL v true)) HZ.out (by kernel_rfl))) rfl ⟨rfl, BZ.out⟩
theorem played_any (A : Option Addr) (n cap : Nat) (t : Int) (w : World) : Calls Try.prog 32 #[.slice A n cap, .int .i64 t] w fun e w' => e = .returned (.func (.func 38) #[] #[.pointer (some ⟨w.heap.size, 0, none⟩), .pointer (some ⟨w.heap.size + 1, 0, none⟩)]) ∧ w' = (w.alloc (.cells #[.slice A n cap] 22)).alloc (.cells #[.int .i64 t] 3) := by
  go_enter Try.func32, Try.ntmps32
  go_wp2
  go_ret
  exact ⟨rfl, rfl⟩
end Go.Proofs.Ytimlhckihkjifaa
