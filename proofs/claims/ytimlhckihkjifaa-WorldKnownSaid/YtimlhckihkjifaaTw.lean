/-
  WorldTells' walk, if the program's functions are what they must be: true. Made by wip/genworldref.py.
-/
import Derived.Test.YtimlhckihkjifaaTl
import Derived.Test.YtimlhckihkjifaaPy
import Derived.Deep.Upon
namespace Go.Proofs.Ytimlhckihkjifaa
open Go.RowKit
set_option linter.unusedVariables false
set_option linter.unusedSimpArgs false
theorem run_cut_in (A : Option Addr) (len cap m : Nat) (hm : m ≤ cap) (W : World) : (Instr.sliceAt 22 (.slice A len cap) none (some (.int .i64 (m : Int))) none).run Try.prog W = .ok (.slice A m cap) W := by
  obtain ⟨i0, hi0, -, hz1, -⟩ := info_parts ininfo
  have hsz : (sizeOf 25).run Try.prog W = .ok 3 W := by simp [sizeOf, typeInfo, hi0, hz1]
  have he : Try.prog.elem 22 = 25 := by kernel_rfl
  rw [run_sliceAt_slice W _ _ _ _ _ (by rw [he]; exact Try.underlying22), run_slice_h W _ _ _ _ (by rw [he]; exact Try.underlying22) _ _ (by omega) (by omega), he, hsz]
  have h0 : A.map (fun x => x.add (0 * 3)) = A := by
    cases A with
    | none => rfl
    | some a =>
      simp only [Option.map_some, Addr.add]
      split <;> simp_all
  simp only [Result.andThen_ok, sliced, h0, ite_self, Int.toNat_natCast, Nat.sub_zero]
theorem Rd.take {w : World} {B : Nat} {A : Option Addr} {l : List In} (h : Rd w B A l) (m : Nat) : Rd w B A (l.take m) :=
  ⟨by have := h.len; rw [List.length_take]; omega, fun x hx => h.ok x (List.mem_of_mem_take hx), fun j x hj => h.at_ j x (by
    rw [List.getElem?_take] at hj
    split at hj
    · exact hj
    · cases hj)⟩
theorem wpList_append_run {P : Program} {ops : Array Oper} {rest : List Oper} {o : Oper} {a : Act} {w : World} {Q : Exit → Act → World → Prop} (hgd : o.guard = none) (s x : Operand) (t : TypeId)
    (ho : o.op = .call { callee := .builtin .append, args := #[s, x], argTypes := #[t, t] }) (v xv : Value) (hs : a.eval s = v) (hx : a.eval x = xv) (v' : Value) (w' : World)
    (hr : (Builtin.append_ #[t, t] o.type #[v, xv]).run P w = .ok v' w') (h : wpList P ops Q rest (a.put o.dst v') w') : wpList P ops Q (o :: rest) a w :=
  wpList_plain hgd fun K hK => by
    unfold Oper.wp execOp
    simp only [ho, resolve, invoke, builtin, Sem.run_bind, Sem.run_pure, Result.andThen_ok, List.map_toArray, List.map_cons, List.map_nil, hs, hx, hr]
    exact hK _ _ h
theorem flat_get : ∀ (l : List In) (j : Nat) (u : Value), (l.flatMap ic)[j]? = some u → ∃ x, l[j / 3]? = some x ∧ (ic x)[j % 3]? = some u
  | [], j, u, h => by simp at h
  | y :: t, j, u, h => by
    have hl : (ic y).length = 3 := rfl
    rw [List.flatMap_cons] at h
    rcases Nat.lt_or_ge j 3 with h1 | h1
    · rw [List.getElem?_append_left (by omega)] at h
      exact ⟨y, by rw [show j / 3 = 0 by omega]; rfl, by rw [show j % 3 = j by omega]; exact h⟩
    · rw [List.getElem?_append_right (by omega), hl] at h
      obtain ⟨x, e1, e2⟩ := flat_get t (j - 3) u h
      exact ⟨x, by rw [show j / 3 = (j - 3) / 3 + 1 by omega]; exact e1, by rw [show j % 3 = (j - 3) % 3 by omega]; exact e2⟩
theorem flat_len : ∀ l : List In, (l.flatMap ic).length = l.length * 3
  | [] => rfl
  | y :: t => by rw [List.flatMap_cons, List.length_append, flat_len t, show (ic y).length = 3 from rfl, List.length_cons]; omega
theorem append_rd (w : World) (A : Option Addr) (l : List In) (cap B : Nat) (hr : Rd w B A l) (hB : B ≤ w.heap.size) (hl : l.length ≤ 1000) :
    ∃ A' cap' w', (Builtin.append_ #[22, 22] 22 #[.slice (some ⟨w.heap.size, 0, none⟩) 0 0, .slice A l.length cap]).run Try.prog (w.alloc (.cells #[] 25)) = .ok (.slice A' l.length cap') w' ∧ Rd w' w'.heap.size A' l ∧ Below w.heap.size w w' := by
  obtain ⟨i0, hi0, hz0, hz1, hz2⟩ := info_parts ininfo
  have hb0 : Below w.heap.size w (w.alloc (.cells #[] 25)) := (Below.refl _ _).alloc (Nat.le_refl _) _
  cases l with
  | nil =>
    have hs : Src Try.prog i0.size 22 (.slice A 0 cap) 0 [] (w.alloc (.cells #[] 25)) := by
      cases A with
      | none => exact Src.ofNil _ Try.underlying22 cap
      | some a => exact Src.ofSlice _ Try.underlying22 a 0 cap [] (by simp) (fun j u h => by simp at h) (fun u h => by cases h)
    exact ⟨_, _, _, run_append_nothing _ _ _ _ _ i0 Try.underlying22 hi0 _ 0 0 (Nat.le_refl _) _ hs, Rd.nil _ _ _, hb0⟩
  | cons y t =>
    obtain ⟨a, rfl, ha, _⟩ := hr.at_ 0 y rfl
    have hown : (w.alloc (.cells #[] 25)).ownsRow w.heap.size 25 3 (.slice (some ⟨w.heap.size, 0, none⟩) 0 0) 0 [] := ⟨rfl, .inr ⟨w.heap.size, 0, #[], rfl, Nat.le_refl _, alloc_at _ _, Nat.le_refl _, by simp [maxLen], rfl, rfl⟩⟩
    obtain ⟨v', w', hrun, h2, h3, h4⟩ := run_append_blk (P := Try.prog) (w.alloc (.cells #[] 25)) w.heap.size 22 22 25 i0 _ 3 24 Try.underlying22 hi0 hz0 hz1 hz2 rfl (by omega) _ 0 [] hown a (y :: t).length cap ((y :: t).flatMap ic) (flat_len _) (fun j u h => by
        obtain ⟨x, e1, e2⟩ := flat_get _ _ _ h
        obtain ⟨a', e, hlt, hc⟩ := (hr.below hb0 hB).at_ _ _ e1
        obtain rfl : a = a' := by simpa using e
        have := hc _ _ e2
        rw [Addr.add_add, show j / 3 * 3 + j % 3 = j by omega] at this
        exact this) (fun u hu => by
        obtain ⟨x, _, h⟩ := List.mem_flatMap.1 hu
        exact ic_one x u h) (by simp only [maxLen]; omega) (by omega) (by simp)
    have hO : OwnI w' w.heap.size v' (y :: t) := by
      unfold OwnI
      simpa using h2
    obtain ⟨A', cap', rfl, hrd⟩ := hO.rd (by omega) hr.ok
    exact ⟨A', cap', w', hrun, hrd, below_gb hb0 h3 (by simp) (fun b hb => (World.ownsRow.lt hown b hb).1)⟩
/-! ### one player -/
theorem One.below {PL : PlT} (H : PlayerOk PL) {W W' : World} {B : Nat} {p : Addr} {l : List In} {n : Nat} (h : One PL W B p l n) (hb : Below W.heap.size W W') : One PL W' B p l n := by
  obtain ⟨S, F, h1, h2⟩ := h
  exact ⟨S, F, pl_below H h1 hb, h2⟩
theorem one_next {PL : PlT} (H : PlayerOk PL) {W : World} {B : Nat} {p : Addr} {l : List In} {n : Nat} (h : One PL W B p l n) (hn : n ≤ 1000) (hB : B ≤ W.heap.size) :
    Calls Try.prog 11 #[.pointer (some p)] W fun e W' => (e = .returned (nv (atL l ((n + 1 : Nat) : Int))) ∧ One PL W' B p l (n + 1)) ∧ Below B W W' := by
  obtain ⟨S, F, h1, h2⟩ := h
  refine (H.next W p l n S F h1 hn).mono ?_
  rintro e W' ⟨⟨he, S', F', k1, k2, k3⟩, ho⟩
  exact ⟨⟨he, S', F', k1, fun j hj => by
    rcases k2 j hj with h | h
    · exact h2 j h
    · omega⟩, ho.below h2 hB⟩
theorem one_cycle {PL : PlT} (H : PlayerOk PL) {W : World} {B : Nat} {p : Addr} {l : List In} {n : Nat} (h : One PL W B p l n) (hn : n ≤ 1000) : Calls Try.prog 13 #[.pointer (some p)] W fun e W' => e = .returned (.int .i64 (n : Int)) ∧ Below W.heap.size W W' := by
  obtain ⟨S, F, h1, _⟩ := h
  exact H.cycle W p l n S F h1 hn
set_option maxHeartbeats 16000000 in
set_option maxRecDepth 100000 in
theorem tells_walk (H : WorldOk) {PL : PlT} (HP : PlayerOk PL) (HN : PlayerNil) (A A2 : Option Addr) (cap cap2 B : Nat) (lr : List In) (l : List Dr) (x : In) (w : World) (hrr : Rd w B A lr) (hcap : lr.length ≤ cap) (hr : DIn w B A2 l) (hB : B ≤ w.heap.size) (hx : x.ok) :
    Calls Try.prog 3 #[.slice A lr.length cap, .slice A2 l.length cap2, iv x] w fun e w' => e = .returned (.bool true) ∧ Below w.heap.size w w' := by
  obtain ⟨m, hm, hml⟩ : ∃ m : Nat, (if 60 < (lr.length : Int) then (60 : Int) else (lr.length : Int)) = (m : Int) ∧ m ≤ lr.length ∧ m ≤ 60 := by
    by_cases h : 60 < (lr.length : Int)
    · exact ⟨60, by rw [if_pos h]; rfl, by omega, by omega⟩
    · exact ⟨lr.length, by rw [if_neg h], Nat.le_refl _, by omega⟩
  have hS := fun W => run_cut_in A lr.length cap m (by omega) W
  obtain ⟨t, ht⟩ : ∃ L, lr.take m = L := ⟨_, rfl⟩
  have htm : t.length = m := by rw [← ht, List.length_take]; omega
  have HRT : Hid (Rd w B A t) := Lib.hid (by rw [← ht]; exact hrr.take m)
  subst htm
  have HTL : Hid (t.length ≤ 1000) := Lib.hid (by omega)
  have HCP : Hid (t.length ≤ cap) := Lib.hid (by omega)
  have HR := Lib.hid hr
  have HBW := Lib.hid hB
  have KW := Lib.hid (works_any H)
  have KS := Lib.hid (fun W h2 h3 => rScript_any A2 cap2 B l W h2 h3)
  have HSC := Lib.hid (script_scr hr.ok)
  have HSO := Lib.hid (script_ok hr.ok)
  have HSL := Lib.hid (script_len l)
  have HXO := Lib.hid hx
  have KT := Lib.hid (fun W h1 h2 => alike_any H HP HN A cap B t x x.a W h1 h2 HCP.out HTL.out hx hx.a0 hx.a1)
  obtain ⟨s, hs⟩ : ∃ s, scriptL l = s := ⟨_, rfl⟩
  rw [hs] at KS HSC HSO HSL
  obtain ⟨M, hM⟩ : ∃ z : Nat, (x.a % 65536).toNat % 600 = z := ⟨_, rfl⟩
  obtain ⟨K, hK⟩ : ∃ z : Nat, (x.k % 256).toNat % 3 = z := ⟨_, rfl⟩
  have hw1 : IntKind.u16.wrap x.a = x.a % 65536 := by simp [IntKind.wrap, IntKind.bits, IntKind.signed]
  have hw2 : IntKind.u8.wrap x.k = x.k % 256 := by simp [IntKind.wrap, IntKind.bits, IntKind.signed]
  have hm1 : (x.a % 65536).tmod 600 = (M : Int) := by rw [Int.tmod_eq_emod_of_nonneg (by omega)]; omega
  have hm2 : (x.a % 65536) % 600 = (M : Int) := by omega
  have hk1 : (x.k % 256).tmod 3 = (K : Int) := by rw [Int.tmod_eq_emod_of_nonneg (by omega)]; omega
  have hk2 : (x.k % 256) % 3 = (K : Int) := by omega
  have m1 : (M : Int) ≤ 599 := by omega
  have k1 : (K : Int) ≤ 2 := by omega
  obtain ⟨y, hy⟩ : ∃ y : In, (⟨1 + (M : Int), (K : Int), x.v⟩ : In) = y := ⟨_, rfl⟩
  have HY := Lib.hid hy
  have HYO : Hid y.ok := Lib.hid (by rw [← hy]; exact ⟨by show _ ≤ 1 + (M : Int); omega, by show 1 + (M : Int) ≤ _; omega, by show _ ≤ (K : Int); omega, by show (K : Int) ≤ _; omega, hx.v⟩)
  have HYA : Hid (y.a = 1 + (M : Int)) := Lib.hid (by rw [← hy])
  have hxa0 := hx.a0
  have hxa1 := hx.a1
  have hxk0 := hx.k0
  have hxk1 := hx.k1
  have hxv := hx.v
  clear hr hrr hB hs hM hK ht hml hx hy
  go_enter Try.func3, Try.ntmps3
  go_upto_region 1 with (fail)
  refine name_one (Q := fun X => Code.wp _ _ _ _ X) ?_
  intro w1 hq hB0 hz
  have RX_1 : Hid (IRow w1 w.heap.size x) := Lib.hid hq
  have BB_1 := Lib.hid hB0
  have RT_1 := Lib.hid (HRT.out.below hB0 HBW.out)
  have RD_1 := Lib.hid (HR.out.below hB0 HBW.out)
  have ST_1 := Lib.hid (Nat.le_trans HBW.out hB0.size)
  obtain ⟨gx, hgx⟩ : ∃ g, w.heap.size = g := ⟨_, rfl⟩
  rw [hgx] at RX_1 ⊢
  clear hq hB0 hz hgx HRT HR HBW
  go_upto_region 3 with (go_at_call 7; have hc := BB_1; clear hc; refine (KS.out _ RD_1.out ST_1.out).mono ?_; rintro e w2 ⟨⟨v, rfl, ho⟩, hB⟩; have OS := Lib.hid ho; have BB_2 := Lib.hid (BB_1.out.trans (hB.mono BB_1.out.size)); have RX_2 := Lib.hid (IRow.below RX_1.out hB RX_1.out.lt); have RT_2 := Lib.hid (RT_1.out.below hB ST_1.out); have ST_2 := Lib.hid (Nat.le_trans ST_1.out hB.size); clear hB BB_1 RX_1 RT_1 ST_1 RD_1; clear ho)
  obtain ⟨sA, scap, rfl, hcps, hrs⟩ := OS.out.rdc (by have := HSL.out; omega) HSO.out
  have HCS := Lib.hid hcps
  clear hcps
  obtain ⟨Bs, hBs⟩ : ∃ n, w2.heap.size = n := ⟨_, rfl⟩
  have SS_2 := Lib.hid (Nat.le_of_eq hBs.symm)
  rw [hBs] at hrs
  have RS_2 := Lib.hid hrs
  clear hrs hBs OS KS
  have GB := Lib.hid (And.intro ST_2.out (And.intro SS_2.out BB_2.out.size))
  have NXY : Hid (gx ≠ w2.heap.size) := Lib.hid (Nat.ne_of_lt RX_2.out.lt)
  go_upto_region 4 with (first
    | ((with_reducible show wpList _ _ _ (⟨none, .store 25 (.tmp 8) (.tmp 19), _, _, _, _⟩ :: _) _ _); refine wpList_store_v rfl 25 _ _ rfl w2.heap.size (by exact rfl) (ic x) (by exact rfl) (by kernel_rfl) (ic_one x) 25 [.int .i64 0, .int .i64 0, .int .u8 0] (alloc_at _ _) rfl ?_; intro w3 HN1 HO1 HB1; have RY_3 : Hid (IRow w3 w2.heap.size x) := HN1; have hB : Below w2.heap.size w2 w3 := (((Below.refl _ _).alloc (Nat.le_refl _) _).trans HB1.out); have BB_3 := Lib.hid (BB_2.out.trans (hB.mono BB_2.out.size)); have RX_3 := Lib.hid (IRow.below RX_2.out hB RX_2.out.lt); have RT_3 := Lib.hid (RT_2.out.below hB ST_2.out); have RS_3 := Lib.hid (RS_2.out.below hB SS_2.out); have SS_3 := Lib.hid (Nat.le_trans SS_2.out hB.size); have ST_3 := Lib.hid (Nat.le_trans ST_2.out hB.size); clear hB BB_2 RX_2 RT_2 RS_2 SS_2 ST_2 ; clear HN1 HO1 HB1)
    | ((with_reducible show wpList _ _ _ (⟨some 19, .load 25 (.tmp 5), _, _, _, _⟩ :: _) _ _); refine wpList_load_v (by rfl) 25 _ rfl gx (by exact rfl) _ Try.underlying25 25 ([.int .i64 x.a, .int .i64 x.k, .int .u8 (x.v : Int)]) RX_2.out (by kernel_rfl) ?_))
  obtain ⟨gy, hgy⟩ : ∃ g, w2.heap.size = g := ⟨_, rfl⟩
  rw [hgy] at RY_3 GB NXY ⊢
  clear hgy
  have x0 := RX_3.out.c0
  have x1 := RX_3.out.c1
  go_upto_region 5 with ((with_reducible show wpList _ _ _ (⟨none, .store 3 (.tmp 26) (.tmp 25), _, _, _, _⟩ :: _) _ _); refine wpList_store_c rfl 3 _ _ rfl gy 0 (by exact rfl) (.int .i64 (1 + (M : Int))) (by exact rfl) rfl (by kernel_rfl) 25 _ RY_3.out (show 0 < 3 by decide) ?_; intro w4 HN1 HO1 HB1; have RY_4 : Hid (IRow w4 gy { x with a := 1 + (M : Int) }) := HN1; have RX_4 : Hid (IRow w4 gx x) := Lib.hid ((HO1.out _ NXY.out).trans RX_3.out); have RT_4 := Lib.hid (RT_3.out.below HB1.out GB.out.1); have RS_4 := Lib.hid (RS_3.out.below HB1.out GB.out.2.1); have ST_4 := Lib.hid (Nat.le_trans ST_3.out HB1.out.size); have SS_4 := Lib.hid (Nat.le_trans SS_3.out HB1.out.size); have BB_4 := Lib.hid (BB_3.out.trans (HB1.out.mono GB.out.2.2)); clear HN1 HO1 HB1 x0 x1 RY_3 RX_3 RT_3 RS_3 ST_3 SS_3 BB_3; have x0 := RX_4.out.c0; have x1 := RX_4.out.c1)
  go_upto_region 6 with ((with_reducible show wpList _ _ _ (⟨none, .store 3 (.tmp 32) (.tmp 31), _, _, _, _⟩ :: _) _ _); refine wpList_store_c rfl 3 _ _ rfl gy 1 (by exact rfl) (.int .i64 (K : Int)) (by exact rfl) rfl (by kernel_rfl) 25 _ RY_4.out (show 1 < 3 by decide) ?_; intro w5 HN1 HO1 HB1; have RY_5 : Hid (IRow w5 gy { x with a := 1 + (M : Int), k := (K : Int) }) := HN1; have RX_5 : Hid (IRow w5 gx x) := Lib.hid ((HO1.out _ NXY.out).trans RX_4.out); have RT_5 := Lib.hid (RT_4.out.below HB1.out GB.out.1); have RS_5 := Lib.hid (RS_4.out.below HB1.out GB.out.2.1); have ST_5 := Lib.hid (Nat.le_trans ST_4.out HB1.out.size); have SS_5 := Lib.hid (Nat.le_trans SS_4.out HB1.out.size); have BB_5 := Lib.hid (BB_4.out.trans (HB1.out.mono GB.out.2.2)); clear HN1 HO1 HB1 x0 x1 RY_4 RX_4 RT_4 RS_4 ST_4 SS_4 BB_4; have x0 := RX_5.out.c0; have x1 := RX_5.out.c1)
  have RY_5' : Hid (IRow w5 gy y) := Lib.hid (by rw [← HY.out]; exact RY_5.out)
  clear RY_5 x0 x1
  have RY_5 := RY_5'
  clear RY_5'
  obtain ⟨oA, ocap, w6, hrun, hro, hB⟩ := append_rd w5 sA s scap Bs RS_5.out SS_5.out (by have := HSL.out; omega)
  have HRUN := Lib.hid hrun
  have RO0 := Lib.hid hro
  have BB_6 := Lib.hid (BB_5.out.trans (hB.mono BB_5.out.size))
  have RX_6 := Lib.hid (IRow.below RX_5.out hB RX_5.out.lt)
  have RY_6 := Lib.hid (IRow.below RY_5.out hB RY_5.out.lt)
  have RT_6 := Lib.hid (RT_5.out.below hB ST_5.out)
  have RS_6 := Lib.hid (RS_5.out.below hB SS_5.out)
  have SS_6 := Lib.hid (Nat.le_trans SS_5.out hB.size)
  have ST_6 := Lib.hid (Nat.le_trans ST_5.out hB.size)
  clear hB BB_5 RX_5 RY_5 RT_5 RS_5 SS_5 ST_5 
  clear hrun hro
  go_upto_region 7 with (at_builtin; refine wpList_append_run rfl _ _ _ rfl _ _ rfl rfl _ _ HRUN.out ?_)
  have SO_6 : Hid (w6.heap.size ≤ w6.heap.size) := Lib.hid (Nat.le_refl _)
  obtain ⟨Bo6, hBo6⟩ : ∃ n, w6.heap.size = n := ⟨_, rfl⟩
  have RO_6 : Hid (Rd w6 Bo6 oA s) := Lib.hid (by rw [← hBo6]; exact RO0.out)
  have SO_6 : Hid (Bo6 ≤ w6.heap.size) := Lib.hid (Nat.le_of_eq hBo6.symm)
  clear RO0 HRUN hBo6
  have K1 : Hid (∀ W : World, Rd W B A t → B ≤ W.heap.size → Calls Try.prog 8 #[.slice A t.length cap, .agg #[.int .i64 x.a, .int .i64 x.k, .int .u8 (x.v : Int)], .int .i64 (x.a)] W fun e w' => e = .returned (.bool true) ∧ Below W.heap.size W w') := Lib.hid (fun W h1 h2 => alike_any H HP HN A cap B t x (x.a) W h1 h2 HCP.out (HTL.out) HXO.out (HXO.out.a0) (HXO.out.a1))
  have K2 : Hid (∀ W : World, Rd W Bs sA s → Bs ≤ W.heap.size → Calls Try.prog 8 #[.slice sA s.length scap, .agg #[.int .i64 x.a, .int .i64 x.k, .int .u8 (x.v : Int)], .int .i64 (x.a)] W fun e w' => e = .returned (.bool true) ∧ Below W.heap.size W w') := Lib.hid (fun W h1 h2 => alike_any H HP HN sA scap Bs s x (x.a) W h1 h2 HCS.out (by have := HSL.out; omega) HXO.out (HXO.out.a0) (HXO.out.a1))
  have K3 : Hid (∀ W : World, Rd W Bs sA s → Bs ≤ W.heap.size → Calls Try.prog 8 #[.slice sA s.length scap, .agg #[.int .i64 y.a, .int .i64 y.k, .int .u8 (y.v : Int)], .int .i64 (y.a)] W fun e w' => e = .returned (.bool true) ∧ Below W.heap.size W w') := Lib.hid (fun W h1 h2 => alike_any H HP HN sA scap Bs s y (y.a) W h1 h2 HCS.out (by have := HSL.out; omega) HYO.out (HYO.out.a0) (HYO.out.a1))
  have K4 : Hid (∀ W : World, Rd W Bs sA s → Bs ≤ W.heap.size → Calls Try.prog 8 #[.slice sA s.length scap, .agg #[.int .i64 y.a, .int .i64 y.k, .int .u8 (y.v : Int)], .int .i64 (y.a - 1)] W fun e w' => e = .returned (.bool true) ∧ Below W.heap.size W w') := Lib.hid (fun W h1 h2 => alike_any H HP HN sA scap Bs s y (y.a - 1) W h1 h2 HCS.out (by have := HSL.out; omega) HYO.out (by have := HYA.out; omega) (by have := HYA.out; omega))
  have ya1 : 1 ≤ y.a := by have := HYA.out; omega
  have ya2 : y.a ≤ 600 := by have := HYA.out; omega
  have x0 := RX_6.out.c0
  have y0 := RY_6.out.c0
  go_upto_region 9 with (first
    | (go_at_call 8; have hc := BB_9; clear hc; refine (K4.out _ RS_9.out SS_9.out).mono ?_; rintro e w10 ⟨rfl, hB⟩; clear x0 y0; have BB_10 := Lib.hid (BB_9.out.trans (hB.mono BB_9.out.size)); have RX_10 := Lib.hid (IRow.below RX_9.out hB RX_9.out.lt); have RY_10 := Lib.hid (IRow.below RY_9.out hB RY_9.out.lt); have RT_10 := Lib.hid (RT_9.out.below hB ST_9.out); have RS_10 := Lib.hid (RS_9.out.below hB SS_9.out); have RO_10 := Lib.hid (RO_9.out.below hB SO_9.out); have SO_10 := Lib.hid (Nat.le_trans SO_9.out hB.size); have SS_10 := Lib.hid (Nat.le_trans SS_9.out hB.size); have ST_10 := Lib.hid (Nat.le_trans ST_9.out hB.size); clear hB BB_9 RX_9 RY_9 RT_9 RS_9 RO_9 SO_9 SS_9 ST_9 ; have x0 := RX_10.out.c0; have y0 := RY_10.out.c0)
    | (go_at_call 8; have hc := BB_8; clear hc; refine (K3.out _ RS_8.out SS_8.out).mono ?_; rintro e w9 ⟨rfl, hB⟩; clear x0 y0; have BB_9 := Lib.hid (BB_8.out.trans (hB.mono BB_8.out.size)); have RX_9 := Lib.hid (IRow.below RX_8.out hB RX_8.out.lt); have RY_9 := Lib.hid (IRow.below RY_8.out hB RY_8.out.lt); have RT_9 := Lib.hid (RT_8.out.below hB ST_8.out); have RS_9 := Lib.hid (RS_8.out.below hB SS_8.out); have RO_9 := Lib.hid (RO_8.out.below hB SO_8.out); have SO_9 := Lib.hid (Nat.le_trans SO_8.out hB.size); have SS_9 := Lib.hid (Nat.le_trans SS_8.out hB.size); have ST_9 := Lib.hid (Nat.le_trans ST_8.out hB.size); clear hB BB_8 RX_8 RY_8 RT_8 RS_8 RO_8 SO_8 SS_8 ST_8 ; have x0 := RX_9.out.c0; have y0 := RY_9.out.c0)
    | (go_at_call 8; have hc := BB_7; clear hc; refine (K2.out _ RS_7.out SS_7.out).mono ?_; rintro e w8 ⟨rfl, hB⟩; clear x0 y0; have BB_8 := Lib.hid (BB_7.out.trans (hB.mono BB_7.out.size)); have RX_8 := Lib.hid (IRow.below RX_7.out hB RX_7.out.lt); have RY_8 := Lib.hid (IRow.below RY_7.out hB RY_7.out.lt); have RT_8 := Lib.hid (RT_7.out.below hB ST_7.out); have RS_8 := Lib.hid (RS_7.out.below hB SS_7.out); have RO_8 := Lib.hid (RO_7.out.below hB SO_7.out); have SO_8 := Lib.hid (Nat.le_trans SO_7.out hB.size); have SS_8 := Lib.hid (Nat.le_trans SS_7.out hB.size); have ST_8 := Lib.hid (Nat.le_trans ST_7.out hB.size); clear hB BB_7 RX_7 RY_7 RT_7 RS_7 RO_7 SO_7 SS_7 ST_7 ; have x0 := RX_8.out.c0; have y0 := RY_8.out.c0)
    | (go_at_call 8; have hc := BB_6; clear hc; refine (K1.out _ RT_6.out ST_6.out).mono ?_; rintro e w7 ⟨rfl, hB⟩; clear x0 y0; have BB_7 := Lib.hid (BB_6.out.trans (hB.mono BB_6.out.size)); have RX_7 := Lib.hid (IRow.below RX_6.out hB RX_6.out.lt); have RY_7 := Lib.hid (IRow.below RY_6.out hB RY_6.out.lt); have RT_7 := Lib.hid (RT_6.out.below hB ST_6.out); have RS_7 := Lib.hid (RS_6.out.below hB SS_6.out); have RO_7 := Lib.hid (RO_6.out.below hB SO_6.out); have SO_7 := Lib.hid (Nat.le_trans SO_6.out hB.size); have SS_7 := Lib.hid (Nat.le_trans SS_6.out hB.size); have ST_7 := Lib.hid (Nat.le_trans ST_6.out hB.size); clear hB BB_6 RX_6 RY_6 RT_6 RS_6 RO_6 SO_6 SS_6 ST_6 ; have x0 := RX_7.out.c0; have y0 := RY_7.out.c0)
    | ((with_reducible show wpList _ _ _ (⟨some 37, .load 25 (.tmp 5), _, _, _, _⟩ :: _) _ _); refine BigFrame.wpList_want (by kernel_rfl) (fun K hK => ?_); refine wp_of_run _ (run_load_v _ 25 _ gx rfl _ Try.underlying25 25 ([.int .i64 x.a, .int .i64 x.k, .int .u8 (x.v : Int)]) RX_6.out (by kernel_rfl) _ _ _ _ _) (hK _ _ ?_))
    | ((with_reducible show wpList _ _ _ (⟨some 44, .load 25 (.tmp 5), _, _, _, _⟩ :: _) _ _); refine BigFrame.wpList_want (by kernel_rfl) (fun K hK => ?_); refine wp_of_run _ (run_load_v _ 25 _ gx rfl _ Try.underlying25 25 ([.int .i64 x.a, .int .i64 x.k, .int .u8 (x.v : Int)]) RX_7.out (by kernel_rfl) _ _ _ _ _) (hK _ _ ?_))
    | ((with_reducible show wpList _ _ _ (⟨some 52, .load 25 (.tmp 8), _, _, _, _⟩ :: _) _ _); refine BigFrame.wpList_want (by kernel_rfl) (fun K hK => ?_); refine wp_of_run _ (run_load_v _ 25 _ gy rfl _ Try.underlying25 25 ([.int .i64 y.a, .int .i64 y.k, .int .u8 (y.v : Int)]) RY_8.out (by kernel_rfl) _ _ _ _ _) (hK _ _ ?_))
    | ((with_reducible show wpList _ _ _ (⟨some 60, .load 25 (.tmp 8), _, _, _, _⟩ :: _) _ _); refine BigFrame.wpList_want (by kernel_rfl) (fun K hK => ?_); refine wp_of_run _ (run_load_v _ 25 _ gy rfl _ Try.underlying25 25 ([.int .i64 y.a, .int .i64 y.k, .int .u8 (y.v : Int)]) RY_9.out (by kernel_rfl) _ _ _ _ _) (hK _ _ ?_)))
  obtain ⟨Bo, hBo⟩ : ∃ n, w10.heap.size = n := ⟨_, rfl⟩
  have SB_10 := Lib.hid (Nat.le_of_eq hBo.symm)
  have RS0 : Hid (Rd w10 Bo sA s) := Lib.hid (RS_10.out.mono (by rw [← hBo]; exact SS_10.out))
  have RO0 : Hid (Rd w10 Bo oA s) := Lib.hid (RO_10.out.mono (by rw [← hBo]; exact SO_10.out))
  have ZB : Hid (w.heap.size ≤ Bo) := Lib.hid (by rw [← hBo]; exact BB_10.out.size)
  have KN : Hid (Calls Try.prog 9 #[.slice sA s.length scap] w10 fun e W' => (∃ a, e = .returned (.pointer (some a)) ∧ One PL W' Bo a s 0) ∧ Below w10.heap.size w10 W') := Lib.hid ((HP.new w10 _ sA scap s (RS0.out.toS SB_10.out) (by rw [HSC.out.chk]) (by have := HSL.out; omega)).mono fun e W' q => ⟨by
    obtain ⟨⟨a, S, F, h1, h2, h3, h4⟩, h5⟩ := q
    exact ⟨a, h1, S, F, h2, fun k hk => by rw [← hBo]; exact h3 k hk⟩, q.2⟩)
  clear RX_10 RY_10 RT_10 ST_10 RS_10 SS_10 RO_10 SO_10 x0 y0 K1 K2 K3 K4 hBo ya1 ya2
  have RS_10 := RS0
  have RO_10 := RO0
  clear RS0 RO0
  go_upto_region 10 with (go_at_call 9; refine (KN.out).mono ?_; rintro e w11 ⟨⟨pa, rfl, hpl⟩, hB⟩; have PP_11 := Lib.hid hpl; have RS_11 := Lib.hid (RS_10.out.below hB SB_10.out); have RO_11 := Lib.hid (RO_10.out.below hB SB_10.out); have SB_11 := Lib.hid (Nat.le_trans SB_10.out hB.size); have BB_11 := Lib.hid (BB_10.out.trans (hB.mono BB_10.out.size)); clear hpl hB RS_10 RO_10 SB_10 BB_10)
  clear KN
  go_wp2_with fail
  go_loopw [11] (fun iv wr => ∃ i j : Nat, i = j + 1 ∧ i ≤ 60 ∧ iv = .int .i64 (i : Int) ∧ One PL wr Bo pa s j ∧ Rd wr Bo sA s ∧ Rd wr Bo oA s ∧ Bo ≤ wr.heap.size ∧ Below w.heap.size w wr) (fun iv _ => 60 - (intOf iv).toNat)
  case atStart => exact ⟨1, 0, rfl, by omega, rfl, PP_11.out, RS_11.out, RO_11.out, SB_11.out, BB_11.out⟩
  case round =>
    clear PP_11 RS_11 RO_11 SB_11 BB_11
    obtain ⟨i, j, hij, hi2, rfl, q1, q2, q3, q4, q5⟩ := hrel
    obtain ⟨w7, hu⟩ : ∃ W, wr = W := ⟨_, rfl⟩
    rw [hu] at q1 q2 q3 q4 q5 ⊢
    have PP_7 := Lib.hid q1
    have RS_7 := Lib.hid q2
    have RO_7 := Lib.hid q3
    have SB_7 := Lib.hid q4
    have BB_7 := Lib.hid q5
    have HIJ := Lib.hid hij
    have hi1 : 1 ≤ (i : Int) := by omega
    clear q1 q2 q3 q4 q5 hu hij
    by_cases hlt : i < 60
    · have d1 : (i : Int) < 60 := by omega
      have HLT := Lib.hid (And.intro hi1 hlt)
      have KN : Hid (∀ (W : World), One PL W Bo pa s j → Bo ≤ W.heap.size → Calls Try.prog 11 #[.pointer (some pa)] W fun e W' => (e = .returned (nv (atL s (i : Int))) ∧ One PL W' Bo pa s i) ∧ Below Bo W W') := Lib.hid (fun W h h2 => by have q := one_next HP h (by have := HIJ.out; have := HLT.out; omega) h2; rw [← HIJ.out] at q; exact q)
      have KA : Hid (∀ (W : World), Rd W Bo sA s → Bo ≤ W.heap.size → Calls Try.prog 12 #[.slice sA s.length scap, .int .i64 (i : Int)] W fun e w' => e = .returned (nv (atL s (i : Int))) ∧ Below W.heap.size W w') := Lib.hid (fun W h h2 => rAt_any sA scap Bo s (i : Int) W h h2 (by omega) (by omega))
      have KC : Hid (∀ (W : World), One PL W Bo pa s i → Calls Try.prog 13 #[.pointer (some pa)] W fun e W' => e = .returned (.int .i64 (i : Int)) ∧ Below W.heap.size W W') := Lib.hid (fun W h => one_cycle HP h (by have := HLT.out; omega))
      obtain ⟨n1, hn1⟩ : ∃ n, atL s (i : Int) = n := ⟨_, rfl⟩
      rw [hn1] at KA KN
      have KM := Lib.hid (same_any n1)
      clear hn1 hlt hi2
      go_wp2_with (first
        | (go_at_call 13; have hc := BB_10; clear hc; refine (KC.out _ PP_10.out).mono ?_; rintro e w11 ⟨rfl, hB⟩; have PP_11 := Lib.hid (PP_10.out.below HP hB); have RS_11 := Lib.hid (RS_10.out.below hB SB_10.out); have RO_11 := Lib.hid (RO_10.out.below hB SB_10.out); have SB_11 := Lib.hid (Nat.le_trans SB_10.out hB.size); have BB_11 := Lib.hid (BB_10.out.trans (hB.mono BB_10.out.size)); clear hB PP_10 RS_10 RO_10 SB_10 BB_10)
        | (go_at_call 10; have hc := BB_9; clear hc; refine (KM.out _).mono ?_; rintro e w10 ⟨rfl, hB⟩; have PP_10 := Lib.hid (PP_9.out.below HP hB); have RS_10 := Lib.hid (RS_9.out.below hB SB_9.out); have RO_10 := Lib.hid (RO_9.out.below hB SB_9.out); have SB_10 := Lib.hid (Nat.le_trans SB_9.out hB.size); have BB_10 := Lib.hid (BB_9.out.trans (hB.mono BB_9.out.size)); clear hB PP_9 RS_9 RO_9 SB_9 BB_9)
        | (go_at_call 12; have hc := BB_8; clear hc; refine (KA.out _ RS_8.out SB_8.out).mono ?_; rintro e w9 ⟨rfl, hB⟩; have PP_9 := Lib.hid (PP_8.out.below HP hB); have RS_9 := Lib.hid (RS_8.out.below hB SB_8.out); have RO_9 := Lib.hid (RO_8.out.below hB SB_8.out); have SB_9 := Lib.hid (Nat.le_trans SB_8.out hB.size); have BB_9 := Lib.hid (BB_8.out.trans (hB.mono BB_8.out.size)); clear hB PP_8 RS_8 RO_8 SB_8 BB_8)
        | (go_at_call 11; have hc := BB_7; clear hc; refine (KN.out _ PP_7.out SB_7.out).mono ?_; rintro e w8 ⟨⟨rfl, ht⟩, hB⟩; have PP_8 := Lib.hid ht; have RS_8 := Lib.hid (RS_7.out.below hB (Nat.le_refl _)); have RO_8 := Lib.hid (RO_7.out.below hB (Nat.le_refl _)); have SB_8 := Lib.hid (Nat.le_trans SB_7.out hB.size); have BB_8 := Lib.hid (BB_7.out.trans (hB.mono ZB.out)); clear ht hB PP_7 RS_7 RO_7 SB_7 BB_7))
      go_roundw
      case rel => exact ⟨i + 1, i, rfl, by have := HLT.out; omega, by go_num, PP_11.out, RS_11.out, RO_11.out, SB_11.out, BB_11.out⟩
      case measure =>
        simp [intOf]
        have := HLT.out
        (try omega)
    · obtain rfl : i = 60 := by omega
      have d1 : ¬ (60 : Int) < 60 := by omega
      have d2 : ¬ ((60 : Nat) : Int) < 60 := by omega
      have KM := Lib.hid (rSame_any oA sA ocap scap Bo s w7 RO_7.out RS_7.out SB_7.out)
      go_wp2_with (first
        | (go_at_call 15; have hc := BB_8; clear hc; with_reducible refine (KW.out _).mono ?_; rintro e w9 ⟨rfl, hB⟩; have BB_9 := Lib.hid (BB_8.out.trans (hB.mono BB_8.out.size)); clear hB)
        | (go_at_call 14; have hc := BB_7; clear hc; refine (KM.out).mono ?_; rintro e w8 ⟨rfl, hB⟩; have BB_8 := Lib.hid (BB_7.out.trans (hB.mono BB_7.out.size)); clear hB BB_7))
      go_ret
      exact ⟨rfl, BB_9.out⟩
end Go.Proofs.Ytimlhckihkjifaa
