/-
  WorldSets' walk, if the program's functions are what they must be: true. Made by wip/genworldref.py.
-/
import Derived.Test.YtimlhckihkjifaaWk
import Derived.Deep.DeepCutAuto
import Derived.Deep.CutBlock
namespace Go.Proofs.Ytimlhckihkjifaa
open Go.RowKit
set_option linter.unusedVariables false
set_option linter.unusedSimpArgs false
theorem neq_now (n : Nw) (w : World) : (binOp .neq 33 (.agg (nc n).toArray) (.agg (nc n).toArray)).run Try.prog w = .ok (.bool false) w := self_neq w _ _ rfl (by kernel_rfl)
/-- What next is behind so many. -/
structure NextI (l : List In) (x : In) (k : Nat) (n : Int) : Prop where
  le : n ≤ 1048576
  all : ∀ j y, j < k → l[j]? = some y → y.k = x.k → x.a < y.a → n ≤ y.a
  some_ : n = 1048576 ∨ ∃ y ∈ l, y.k = x.k ∧ x.a < y.a ∧ n = y.a
theorem NextI.zero (l : List In) (x : In) : NextI l x 0 1048576 := ⟨Int.le_refl _, fun j y h => by omega, .inl rfl⟩
theorem NextI.skip {l : List In} {x y : In} {k : Nat} {n : Int} (h : NextI l x k n) (hy : l[k]? = some y) (hn : ¬ (y.k = x.k ∧ x.a < y.a)) : NextI l x (k + 1) n :=
  ⟨h.le, fun j z hj hz e1 e2 => by
    rcases Nat.lt_or_ge j k with h1 | h1
    · exact h.all j z h1 hz e1 e2
    · obtain rfl : j = k := by omega
      rw [hy] at hz
      obtain rfl : y = z := by simpa using hz
      exact absurd ⟨e1, e2⟩ hn, h.some_⟩
theorem NextI.take {l : List In} {x y : In} {k : Nat} {n : Int} (h : NextI l x k n) (hy : l[k]? = some y) (h1 : y.k = x.k) (h2 : x.a < y.a) : NextI l x (k + 1) (min n y.a) := by
  have hl := h.le
  refine ⟨by omega, fun j z hj hz e1 e2 => ?_, ?_⟩
  · rcases Nat.lt_or_ge j k with h3 | h3
    · have := h.all j z h3 hz e1 e2
      omega
    · obtain rfl : j = k := by omega
      rw [hy] at hz
      obtain rfl : y = z := by simpa using hz
      omega
  · rcases Int.le_total n y.a with h3 | h3
    · rw [Int.min_eq_left h3]
      exact h.some_
    · rw [Int.min_eq_right h3]
      exact .inr ⟨y, List.mem_of_getElem? hy, h1, h2, rfl⟩
theorem NextI.later {l : List In} {x : In} {n c : Int} (h : NextI l x l.length n) (hc : c < 1048576) : (c < n → laterB l x c = false) ∧ (¬ c < n → laterB l x c = true) := by
  constructor
  · intro h1
    rw [laterB, List.any_eq_false]
    intro y hy hh
    simp only [Bool.and_eq_true, decide_eq_true_eq] at hh
    obtain ⟨j, hj, he⟩ := List.mem_iff_getElem.1 hy
    have := h.all j y hj (by rw [List.getElem?_eq_getElem hj, he]) hh.1 hh.2.1
    omega
  · intro h1
    rcases h.some_ with e | ⟨y, hy, e1, e2, e3⟩
    · omega
    · rw [laterB, List.any_eq_true]
      refine ⟨y, hy, ?_⟩
      simp only [Bool.and_eq_true, decide_eq_true_eq]
      omega
set_option maxHeartbeats 16000000 in
set_option maxRecDepth 100000 in
theorem sets_walk (H : WorldOk) (A : Option Addr) (cap B : Nat) (l : List Dr) (d : Dr) (at_ : Nat) (w : World) (hr : DIn w B A l) (hB : B ≤ w.heap.size) (hd : d.ok) (hat : at_ < 65536) :
    Calls Try.prog 4 #[.slice A l.length cap, .agg #[.int .u8 (d.f : Int), .int .u8 (d.k : Int), .int .u8 (d.v : Int)], .int .u16 (at_ : Int)] w fun e w' => e = .returned (.bool true) ∧ Below w.heap.size w w' := by
  have HR := Lib.hid hr
  have HBW := Lib.hid hB
  have HC := Lib.hid H.check
  have HA := Lib.hid H.at_
  have HS := Lib.hid H.set
  have KW := Lib.hid (works_any H)
  have KS := Lib.hid (fun W h2 h3 => rScript_any A cap B l W h2 h3)
  have HSC := Lib.hid (script_scr hr.ok)
  have HSO := Lib.hid (script_ok hr.ok)
  have HSL := Lib.hid (script_len l)
  obtain ⟨s, hs⟩ : ∃ s, scriptL l = s := ⟨_, rfl⟩
  rw [hs] at KS HSC HSO HSL
  obtain ⟨M, hM⟩ : ∃ x, at_ % 700 = x := ⟨_, rfl⟩
  obtain ⟨K, hK⟩ : ∃ x, d.k % 3 = x := ⟨_, rfl⟩
  have hm1 : (at_ : Int).tmod 700 = (M : Int) := by rw [Int.tmod_eq_emod_of_nonneg (by omega)]; omega
  have hm2 : (at_ : Int) % 700 = (M : Int) := by omega
  have hk1 : (d.k : Int).tmod 3 = (K : Int) := by rw [Int.tmod_eq_emod_of_nonneg (by omega)]; omega
  have hk2 : (d.k : Int) % 3 = (K : Int) := by omega
  have m1 : (M : Int) ≤ 699 := by omega
  have k1 : (K : Int) ≤ 2 := by omega
  have hdv := hd.v
  have hdf := hd.f
  have hdk := hd.k
  have ha2 : (at_ : Int) < 65536 := by omega
  obtain ⟨x, hx⟩ : ∃ x : In, (⟨1 + (M : Int), (K : Int), d.v⟩ : In) = x := ⟨_, rfl⟩
  have HX := Lib.hid hx
  have HXR : Hid (Rng x) := Lib.hid (by rw [← hx]; exact ⟨by show 1 ≤ 1 + (M : Int); omega, by show 1 + (M : Int) ≤ _; omega, by show 0 ≤ (K : Int); omega, by show (K : Int) ≤ 2; omega⟩)
  have HXO : Hid x.ok := Lib.hid (by rw [← hx]; exact ⟨by show _ ≤ 1 + (M : Int); omega, by show 1 + (M : Int) ≤ _; omega, by show _ ≤ (K : Int); omega, by show (K : Int) ≤ _; omega, hdv⟩)
  have HXA : Hid (1 ≤ x.a ∧ x.a ≤ 700) := Lib.hid (by rw [← hx]; show 1 ≤ 1 + (M : Int) ∧ 1 + (M : Int) ≤ 700; omega)
  clear hr hB hs hM hK hx hd hat
  go_enter Try.func4, Try.ntmps4
  go_upto_region 1 with (fail)
  refine name_one (Q := fun X => Code.wp _ _ _ _ X) ?_
  intro W0 hq hB0 hz
  have RD_0 : Hid (VRow W0 w.heap.size 42 [.int .u8 (d.f : Int), .int .u8 (d.k : Int), .int .u8 (d.v : Int)]) := Lib.hid hq
  have BB_0 := Lib.hid hB0
  clear hq hB0 hz
  go_upto_region 3 with (go_at_call 15; have hc := BB_0; clear hc; with_reducible refine (KW.out _).mono ?_; rintro e w1 ⟨rfl, hB⟩; have BB_1 := Lib.hid (BB_0.out.trans (hB.mono BB_0.out.size)); have RD_1 := Lib.hid (VRow.below RD_0.out hB RD_0.out.lt); clear hB)
  go_upto_region 4 with (go_at_call 7; have hc := BB_1; clear hc; refine (KS.out _ (HR.out.below BB_1.out HBW.out) (Nat.le_trans HBW.out BB_1.out.size)).mono ?_; rintro e w2 ⟨⟨v, rfl, ho⟩, hB⟩; have OS := Lib.hid ho; have BB_2 := Lib.hid (BB_1.out.trans (hB.mono BB_1.out.size)); have RD_2 := Lib.hid (VRow.below RD_1.out hB RD_1.out.lt); clear ho hB RD_0 RD_1 BB_0 BB_1)
  obtain ⟨sA, scap, rfl, hcps, hrs⟩ := OS.out.rdc (by have := HSL.out; omega) HSO.out
  have HCS := Lib.hid hcps
  clear hcps
  obtain ⟨Bs, hBs⟩ : ∃ n, w2.heap.size = n := ⟨_, rfl⟩
  have SB_2 := Lib.hid (Nat.le_of_eq hBs.symm)
  rw [hBs] at hrs
  have RS_2 := Lib.hid hrs
  clear hrs hBs OS KS HR HBW
  have z1 := VRow.cell RD_2.out 1 _ rfl
  have z2 := VRow.cell RD_2.out 2 _ rfl
  go_upto_region 5 with ((with_reducible show wpList _ _ _ (⟨none, .store 25 (.tmp 8) (.tmp 35), _, _, _, _⟩ :: _) _ _); refine wpList_store_v rfl 25 _ _ rfl w2.heap.size (by exact rfl) (ic x) (by rw [← HX.out]; exact rfl) (by kernel_rfl) (ic_one x) 25 [.int .i64 0, .int .i64 0, .int .u8 0] (alloc_at _ _) rfl ?_; intro w3 HN HO HB; have RX_3 : Hid (IRow w3 w2.heap.size x) := HN; have hB : Below w2.heap.size w2 w3 := (((Below.refl _ _).alloc (Nat.le_refl _) _).trans HB.out); have RS_3 := Lib.hid (RS_2.out.below hB SB_2.out); have SB_3 := Lib.hid (Nat.le_trans SB_2.out hB.size); have BB_3 := Lib.hid (BB_2.out.trans (hB.mono BB_2.out.size)); clear hB; clear HN HO HB)
  obtain ⟨gx, hgx⟩ : ∃ g, w2.heap.size = g := ⟨_, rfl⟩
  rw [hgx] at RX_3 ⊢
  clear hgx z1 z2 RD_2
  have K1 : Hid (∀ W : World, Rd W Bs sA s → Bs ≤ W.heap.size → Calls Try.prog 16 #[.slice sA s.length scap, .agg #[.int .i64 x.a, .int .i64 x.k, .int .u8 (x.v : Int)]] W fun e w' => (∃ A cap, e = .returned (.tuple #[.slice A (setL s x).length cap, .int .i64 0]) ∧ Rd w' w'.heap.size A (setL s x) ∧ (setL s x).length ≤ cap) ∧ Below W.heap.size W w') := Lib.hid (fun W h h2 => by have q := HS.out sA scap Bs s x W h h2 HCS.out (by have := HSL.out; omega) HXO.out; rw [setR_ok HSC.out HXR.out, setE_ok HSC.out HXR.out] at q; exact q)
  go_upto_region 6 with (first
    | (go_at_call 16; refine (K1.out _ RS_3.out SB_3.out).mono ?_; rintro e w4 ⟨⟨tA, tcap, rfl, ht, hcpt⟩, hB⟩; have RT0 := Lib.hid ht; have HCT0 := Lib.hid hcpt; clear ht hcpt; have RS_4 := Lib.hid (RS_3.out.below hB SB_3.out); have SB_4 := Lib.hid (Nat.le_trans SB_3.out hB.size); have BB_4 := Lib.hid (BB_3.out.trans (hB.mono BB_3.out.size)); have RX_4 := Lib.hid (IRow.below RX_3.out hB RX_3.out.lt); clear hB)
    | ((with_reducible show wpList _ _ _ (⟨some 38, .load 25 (.tmp 8), _, _, _, _⟩ :: _) _ _); refine wpList_load_v (by rfl) 25 _ rfl gx (by exact rfl) _ Try.underlying25 25 ([.int .i64 x.a, .int .i64 x.k, .int .u8 (x.v : Int)]) RX_3.out (by kernel_rfl) ?_))
  obtain ⟨Bt, hBt⟩ : ∃ n, w4.heap.size = n := ⟨_, rfl⟩
  have ST_4 := Lib.hid (Nat.le_of_eq hBt.symm)
  have RT_4 : Hid (Rd w4 Bt tA (setL s x)) := Lib.hid (by rw [← hBt]; exact RT0.out)
  clear hBt RT0
  have HTC := Lib.hid (HSC.out.set HXR.out)
  have HTL := Lib.hid (set_len s x)
  have HAG := Lib.hid (set_again s x)
  have HNOW := Lib.hid (fun (c : Int) (hc : 1 ≤ c) => set_now HSC.out HXR.out hc)
  obtain ⟨t, ht⟩ : ∃ t, setL s x = t := ⟨_, rfl⟩
  rw [ht] at RT_4 HCT0 HTC HTL HAG HNOW K1 ⊢
  clear ht
  have K2 : Hid (∀ W : World, Rd W Bt tA t → Bt ≤ W.heap.size → Calls Try.prog 17 #[.slice tA t.length tcap] W fun e w' => e = .returned (.tuple #[.int .i64 (-1), .int .i64 0]) ∧ Below W.heap.size W w') := Lib.hid (fun W h h2 => by have q := HC.out tA tcap Bt t W h h2; rw [HTC.out.chk] at q; exact q)
  have K3 : Hid (∀ W : World, Rd W Bt tA t → Bt ≤ W.heap.size → Calls Try.prog 16 #[.slice tA t.length tcap, .agg #[.int .i64 x.a, .int .i64 x.k, .int .u8 (x.v : Int)]] W fun e w' => (∃ A cap, e = .returned (.tuple #[.slice A t.length cap, .int .i64 0]) ∧ Rd w' w'.heap.size A t) ∧ Below W.heap.size W w') := Lib.hid (fun W h h2 => by have q := HS.out.weak (A := tA) (cap := tcap) (l := t) (x := x) h h2 HCT0.out (by have := HSL.out; have := HTL.out; omega) HXO.out; rw [setR_ok HTC.out HXR.out, setE_ok HTC.out HXR.out, HAG.out] at q; exact q)
  clear K1
  go_upto_region 12 with (first
    | (go_at_call 16; have hc := RT_5; clear hc; refine (K3.out _ RT_5.out ST_5.out).mono ?_; rintro e w6 ⟨⟨aA, acap, rfl, ha⟩, hB⟩; have RA0 := Lib.hid ha; clear ha; have RS_6 := Lib.hid (RS_5.out.below hB SB_5.out); have SB_6 := Lib.hid (Nat.le_trans SB_5.out hB.size); have BB_6 := Lib.hid (BB_5.out.trans (hB.mono BB_5.out.size)); have RX_6 := Lib.hid (IRow.below RX_5.out hB RX_5.out.lt); have RT_6 := Lib.hid (RT_5.out.below hB ST_5.out); have ST_6 := Lib.hid (Nat.le_trans ST_5.out hB.size); clear hB)
    | (go_at_call 17; refine (K2.out _ RT_4.out ST_4.out).mono ?_; rintro e w5 ⟨rfl, hB⟩; have RS_5 := Lib.hid (RS_4.out.below hB SB_4.out); have SB_5 := Lib.hid (Nat.le_trans SB_4.out hB.size); have BB_5 := Lib.hid (BB_4.out.trans (hB.mono BB_4.out.size)); have RX_5 := Lib.hid (IRow.below RX_4.out hB RX_4.out.lt); have RT_5 := Lib.hid (RT_4.out.below hB ST_4.out); have ST_5 := Lib.hid (Nat.le_trans ST_4.out hB.size); clear hB)
    | ((with_reducible show wpList _ _ _ (⟨some 53, .load 25 (.tmp 8), _, _, _, _⟩ :: _) _ _); refine wpList_load_v (by rfl) 25 _ rfl gx (by exact rfl) _ Try.underlying25 25 ([.int .i64 x.a, .int .i64 x.k, .int .u8 (x.v : Int)]) RX_5.out (by kernel_rfl) ?_))
  have KM := Lib.hid (rSame_any aA tA acap tcap w6.heap.size t w6 RA0.out (RT_6.out.mono ST_6.out) (Nat.le_refl _))
  go_upto_region 15 with (go_at_call 14; refine (KM.out).mono ?_; rintro e w7 ⟨rfl, hB⟩; have RS_7 := Lib.hid (RS_6.out.below hB SB_6.out); have SB_7 := Lib.hid (Nat.le_trans SB_6.out hB.size); have BB_7 := Lib.hid (BB_6.out.trans (hB.mono BB_6.out.size)); have RX_7 := Lib.hid (IRow.below RX_6.out hB RX_6.out.lt); have RT_7 := Lib.hid (RT_6.out.below hB ST_6.out); have ST_7 := Lib.hid (Nat.le_trans ST_6.out hB.size); clear hB)
  clear KM RA0 K2 K3 RT_4 RT_5 RT_6 RS_2 RS_3 RS_4 RS_5 RS_6 SB_2 SB_3 SB_4 SB_5 SB_6 ST_4 ST_5 ST_6 RX_3 RX_4 RX_5 RX_6 BB_2 BB_3 BB_4 BB_5 BB_6
  go_wp2_with fail
  go_loopw [15, 16] (fun nv_ iv wr => ∃ (k : Nat) (n : Int), k ≤ s.length ∧ iv = .int .i64 (k : Int) ∧ nv_ = .int .i64 n ∧ NextI s x k n ∧ Rd wr Bs sA s ∧ Bs ≤ wr.heap.size ∧ Rd wr Bt tA t ∧ Bt ≤ wr.heap.size ∧ IRow wr gx x ∧ Below w.heap.size w wr) (fun _ iv _ => s.length - (intOf iv).toNat)
  case atStart => exact ⟨0, 1048576, by omega, rfl, rfl, NextI.zero _ _, RS_7.out, SB_7.out, RT_7.out, ST_7.out, RX_7.out, BB_7.out⟩
  case round =>
    clear RS_7 SB_7 RT_7 ST_7 RX_7 BB_7
    obtain ⟨k, n, hk, rfl, rfl, hnx, q1, q2, q3, q4, q5, q6⟩ := hrel
    obtain ⟨u, hu⟩ : ∃ W, wr = W := ⟨_, rfl⟩
    rw [hu] at q1 q2 q3 q4 q5 q6 ⊢
    have RS_u := Lib.hid q1
    have SB_u := Lib.hid q2
    have RT_u := Lib.hid q3
    have ST_u := Lib.hid q4
    have RX_u := Lib.hid q5
    have BB_u := Lib.hid q6
    have HNX := Lib.hid hnx
    clear q1 q2 q3 q4 q5 q6 hnx hu
    have c0 := RX_u.out.c0
    have c1 := RX_u.out.c1
    by_cases hlt : k < s.length
    · obtain ⟨y, hy⟩ : ∃ y, s[k]? = some y := ⟨s[k], List.getElem?_eq_getElem hlt⟩
      obtain ⟨a, hA, hab, hok, hcc, hc0, hc1, _⟩ := RS_u.out.get hy
      subst hA
      have HY := Lib.hid hy
      have d1 : (k : Int) < (s.length : Int) := by omega
      have hsl := HSL.out
      have d2 : (k : Int) ≤ 100 := by omega
      clear hsl
      have HLT := Lib.hid hlt
      have HCC : Hid (∀ X, Below u.heap.size u X → X.cell? (a.add (k * 3)) = some (.int .i64 y.a) ∧ X.cell? ⟨(a.add (k * 3)).block, (a.add (k * 3)).off + 1, none⟩ = some (.int .i64 y.k) ∧ X.cell? ⟨gx, 0, none⟩ = some (.int .i64 x.a) ∧ X.cell? ⟨gx, 1, none⟩ = some (.int .i64 x.k)) := Lib.hid (fun X hX => by
        obtain ⟨a', hA', _, _, _, e0, e1, _⟩ := (RS_u.out.below hX SB_u.out).get HY.out
        obtain rfl : a = a' := by simpa using hA'
        have hrx := IRow.below RX_u.out hX RX_u.out.lt
        exact ⟨e0, e1, hrx.c0, hrx.c1⟩)
      have ya0 := hok.a0
      have ya1 := hok.a1
      have hdone : Hid (∀ X n', Below u.heap.size u X → NextI s x (k + 1) n' → ∃ (k' : Nat) (n : Int), k' ≤ s.length ∧ Value.int .i64 ((k : Int) + 1) = .int .i64 (k' : Int) ∧ Value.int .i64 n' = .int .i64 n ∧ NextI s x k' n ∧ Rd X Bs (some a) s ∧ Bs ≤ X.heap.size ∧ Rd X Bt tA t ∧ Bt ≤ X.heap.size ∧ IRow X gx x ∧ Below w.heap.size w X) := Lib.hid (fun X n' hX hn => ⟨k + 1, n', by have := HLT.out; omega, rfl, rfl, hn, RS_u.out.below hX SB_u.out, Nat.le_trans SB_u.out hX.size, RT_u.out.below hX ST_u.out, Nat.le_trans ST_u.out hX.size, IRow.below RX_u.out hX RX_u.out.lt, BB_u.out.trans (hX.mono BB_u.out.size)⟩)
      clear hy hcc hok hlt hab c0 c1 hc0 hc1
      go_upto_region 18 with fail
      by_cases hkk : y.k = x.k
      · by_cases hgt : x.a < y.a
        · have HT := Lib.hid (HNX.out.take HY.out hkk hgt)
          have hln := HNX.out.le
          have ek : (y.k == x.k) = true := by simpa using hkk
          have eg : x.a < y.a := hgt
          refine wp_region_noPanic ?_
          refine wp_region_held_drew (S := fun X => Below u.heap.size u X) (by kernel_rfl) ((Below.refl _ u).drew) (fun hHeld => ?_)
          refine' take_ 0 rfl (by kernel_rfl) (by kernel_rfl) (by kernel_rfl) (fun _ _ _ h => h) (by rfl) (fun wS hSw => ?_) hHeld ?_
          rotate_left
          focus (obtain ⟨z0, z1, z2, z3⟩ := HCC.out _ hSw; go_simp; (try with_reducible rfl); done)
          try simp only [Act.put, List.setIfInBounds_toArray, List.set_cons_zero, List.set_cons_succ]
          refine' take_ 1 rfl (by kernel_rfl) (by kernel_rfl) (by kernel_rfl) (fun _ _ _ h => h) (by rfl) (fun wS hSw => ?_) hHeld ?_
          rotate_left
          focus (obtain ⟨z0, z1, z2, z3⟩ := HCC.out _ hSw; go_simp; (try with_reducible rfl); done)
          try simp only [Act.put, List.setIfInBounds_toArray, List.set_cons_zero, List.set_cons_succ]
          refine' take_ 2 rfl (by kernel_rfl) (by kernel_rfl) (by kernel_rfl) (fun _ _ _ h => h) (by rfl) (fun wS hSw => ?_) hHeld ?_
          rotate_left
          focus (obtain ⟨z0, z1, z2, z3⟩ := HCC.out _ hSw; go_simp; (try with_reducible rfl); done)
          try simp only [Act.put, List.setIfInBounds_toArray, List.set_cons_zero, List.set_cons_succ]
          refine' take_ 3 rfl (by kernel_rfl) (by kernel_rfl) (by kernel_rfl) (fun _ _ _ h => h) (by rfl) (fun wS hSw => ?_) hHeld ?_
          rotate_left
          focus (obtain ⟨z0, z1, z2, z3⟩ := HCC.out _ hSw; go_simp; (try with_reducible rfl); done)
          try simp only [Act.put, List.setIfInBounds_toArray, List.set_cons_zero, List.set_cons_succ]
          refine' take_ 4 rfl (by kernel_rfl) (by kernel_rfl) (by kernel_rfl) (fun _ _ _ h => h) (by rfl) (fun wS hSw => ?_) hHeld ?_
          rotate_left
          focus (obtain ⟨z0, z1, z2, z3⟩ := HCC.out _ hSw; go_simp; (try with_reducible rfl); done)
          try simp only [Act.put, List.setIfInBounds_toArray, List.set_cons_zero, List.set_cons_succ]
          refine' take_ 5 rfl (by kernel_rfl) (by kernel_rfl) (by kernel_rfl) (fun _ _ _ h => h) (by rfl) (fun wS hSw => ?_) hHeld ?_
          rotate_left
          focus (obtain ⟨z0, z1, z2, z3⟩ := HCC.out _ hSw; go_simp; (try with_reducible rfl); done)
          try simp only [Act.put, List.setIfInBounds_toArray, List.set_cons_zero, List.set_cons_succ]
          refine' take_ 6 rfl (by kernel_rfl) (by kernel_rfl) (by kernel_rfl) (fun _ _ _ h => h) (by rfl) (fun wS hSw => ?_) hHeld ?_
          rotate_left
          focus (obtain ⟨z0, z1, z2, z3⟩ := HCC.out _ hSw; go_simp; (try with_reducible rfl); done)
          try simp only [Act.put, List.setIfInBounds_toArray, List.set_cons_zero, List.set_cons_succ]
          refine' take_ 7 rfl (by kernel_rfl) (by kernel_rfl) (by kernel_rfl) (fun _ _ _ h => h) (by rfl) (fun wS hSw => ?_) hHeld ?_
          rotate_left
          focus (obtain ⟨z0, z1, z2, z3⟩ := HCC.out _ hSw; go_simp; (try with_reducible rfl); done)
          try simp only [Act.put, List.setIfInBounds_toArray, List.set_cons_zero, List.set_cons_succ]
          refine' take_ 8 rfl (by kernel_rfl) (by kernel_rfl) (by kernel_rfl) (fun _ _ _ h => h) (by rfl) (fun wS hSw => ?_) hHeld ?_
          rotate_left
          focus (obtain ⟨z0, z1, z2, z3⟩ := HCC.out _ hSw; go_simp; (try with_reducible rfl); done)
          try simp only [Act.put, List.setIfInBounds_toArray, List.set_cons_zero, List.set_cons_succ]
          refine' take_ 9 rfl (by kernel_rfl) (by kernel_rfl) (by kernel_rfl) (fun _ _ _ h => h) (by rfl) (fun wS hSw => ?_) hHeld ?_
          rotate_left
          focus (obtain ⟨z0, z1, z2, z3⟩ := HCC.out _ hSw; go_simp; (try with_reducible rfl); done)
          try simp only [Act.put, List.setIfInBounds_toArray, List.set_cons_zero, List.set_cons_succ]
          refine' take_ 10 rfl (by kernel_rfl) (by kernel_rfl) (by kernel_rfl) (fun _ _ _ h => h) (by rfl) (fun wS hSw => ?_) hHeld ?_
          rotate_left
          focus (obtain ⟨z0, z1, z2, z3⟩ := HCC.out _ hSw; go_simp; (try with_reducible rfl); done)
          try simp only [Act.put, List.setIfInBounds_toArray, List.set_cons_zero, List.set_cons_succ]
          refine' take_ 11 rfl (by kernel_rfl) (by kernel_rfl) (by kernel_rfl) (fun _ _ _ h => h) (by rfl) (fun wS hSw => ?_) hHeld ?_
          rotate_left
          focus (obtain ⟨z0, z1, z2, z3⟩ := HCC.out _ hSw; go_simp; (try with_reducible rfl); done)
          try simp only [Act.put, List.setIfInBounds_toArray, List.set_cons_zero, List.set_cons_succ]
          refine' take_ 12 rfl (by kernel_rfl) (by kernel_rfl) (by kernel_rfl) (fun _ _ _ h => h) (by rfl) (fun wS hSw => ?_) hHeld ?_
          rotate_left
          focus (obtain ⟨z0, z1, z2, z3⟩ := HCC.out _ hSw; go_simp; (try with_reducible rfl); done)
          try simp only [Act.put, List.setIfInBounds_toArray, List.set_cons_zero, List.set_cons_succ]
          refine' take_ 13 rfl (by kernel_rfl) (by kernel_rfl) (by kernel_rfl) (fun _ _ _ h => h) (by rfl) (fun wS hSw => ?_) hHeld ?_
          rotate_left
          focus (obtain ⟨z0, z1, z2, z3⟩ := HCC.out _ hSw; go_simp; (try with_reducible rfl); done)
          try simp only [Act.put, List.setIfInBounds_toArray, List.set_cons_zero, List.set_cons_succ]
          refine' take_ 14 rfl (by kernel_rfl) (by kernel_rfl) (by kernel_rfl) (fun _ _ _ h => h) (by rfl) (fun wS hSw => ?_) hHeld ?_
          rotate_left
          focus (obtain ⟨z0, z1, z2, z3⟩ := HCC.out _ hSw; go_simp; (try with_reducible rfl); done)
          try simp only [Act.put, List.setIfInBounds_toArray, List.set_cons_zero, List.set_cons_succ]
          refine' take_ 15 rfl (by kernel_rfl) (by kernel_rfl) (by kernel_rfl) (fun _ _ _ h => h) (by rfl) (fun wS hSw => ?_) hHeld ?_
          rotate_left
          focus (obtain ⟨z0, z1, z2, z3⟩ := HCC.out _ hSw; go_simp; (try with_reducible rfl); done)
          try simp only [Act.put, List.setIfInBounds_toArray, List.set_cons_zero, List.set_cons_succ]
          refine' take_ 16 rfl (by kernel_rfl) (by kernel_rfl) (by kernel_rfl) (fun _ _ _ h => h) (by rfl) (fun wS hSw => ?_) hHeld ?_
          rotate_left
          focus (obtain ⟨z0, z1, z2, z3⟩ := HCC.out _ hSw; go_simp; (try with_reducible rfl); done)
          try simp only [Act.put, List.setIfInBounds_toArray, List.set_cons_zero, List.set_cons_succ]
          refine' take_ 17 rfl (by kernel_rfl) (by kernel_rfl) (by kernel_rfl) (fun _ _ _ h => h) (by rfl) (fun wS hSw => ?_) hHeld ?_
          rotate_left
          focus (go_simp; (try with_reducible rfl); done)
          try simp only [Act.put, List.setIfInBounds_toArray, List.set_cons_zero, List.set_cons_succ]
          refine wpAnyH_done (by kernel_rfl) ?_ _
          refine NoPanic.normal ?_
          obtain ⟨z0, z1, z2, z3⟩ := HCC.out _ hHeld
          rcases Int.le_total n y.a with hm | hm
          · have HE : Hid (min n y.a = n) := Lib.hid (Int.min_eq_left hm)
            rw [HE.out] at HT
            have hm' : ¬ y.a < n := by omega
            go_wp2_with fail
            go_roundw
            case rel => exact hdone.out _ n hHeld (HT.out)
            case measure =>
              simp [intOf]
              have := HLT.out
              (try omega)
          · rcases Int.lt_or_eq_of_le hm with hm2 | hm2
            · have HE : Hid (min n y.a = y.a) := Lib.hid (Int.min_eq_right hm)
              rw [HE.out] at HT
              go_wp2_with fail
              go_roundw
              case rel => exact hdone.out _ y.a hHeld (HT.out)
              case measure =>
                simp [intOf]
                have := HLT.out
                (try omega)
            · have HE : Hid (min n y.a = n) := Lib.hid (by omega)
              rw [HE.out] at HT
              have hm' : ¬ y.a < n := by omega
              clear hm2
              go_wp2_with fail
              go_roundw
              case rel => exact hdone.out _ n hHeld (HT.out)
              case measure =>
                simp [intOf]
                have := HLT.out
                (try omega)
        · have HT := Lib.hid (HNX.out.skip HY.out (fun h => hgt h.2))
          have ek : (y.k == x.k) = true := by simpa using hkk
          have eg : ¬ x.a < y.a := hgt
          refine wp_region_noPanic ?_
          refine wp_region_held_drew (S := fun X => Below u.heap.size u X) (by kernel_rfl) ((Below.refl _ u).drew) (fun hHeld => ?_)
          refine' take_ 0 rfl (by kernel_rfl) (by kernel_rfl) (by kernel_rfl) (fun _ _ _ h => h) (by rfl) (fun wS hSw => ?_) hHeld ?_
          rotate_left
          focus (obtain ⟨z0, z1, z2, z3⟩ := HCC.out _ hSw; go_simp; (try with_reducible rfl); done)
          try simp only [Act.put, List.setIfInBounds_toArray, List.set_cons_zero, List.set_cons_succ]
          refine' take_ 1 rfl (by kernel_rfl) (by kernel_rfl) (by kernel_rfl) (fun _ _ _ h => h) (by rfl) (fun wS hSw => ?_) hHeld ?_
          rotate_left
          focus (obtain ⟨z0, z1, z2, z3⟩ := HCC.out _ hSw; go_simp; (try with_reducible rfl); done)
          try simp only [Act.put, List.setIfInBounds_toArray, List.set_cons_zero, List.set_cons_succ]
          refine' take_ 2 rfl (by kernel_rfl) (by kernel_rfl) (by kernel_rfl) (fun _ _ _ h => h) (by rfl) (fun wS hSw => ?_) hHeld ?_
          rotate_left
          focus (obtain ⟨z0, z1, z2, z3⟩ := HCC.out _ hSw; go_simp; (try with_reducible rfl); done)
          try simp only [Act.put, List.setIfInBounds_toArray, List.set_cons_zero, List.set_cons_succ]
          refine' take_ 3 rfl (by kernel_rfl) (by kernel_rfl) (by kernel_rfl) (fun _ _ _ h => h) (by rfl) (fun wS hSw => ?_) hHeld ?_
          rotate_left
          focus (obtain ⟨z0, z1, z2, z3⟩ := HCC.out _ hSw; go_simp; (try with_reducible rfl); done)
          try simp only [Act.put, List.setIfInBounds_toArray, List.set_cons_zero, List.set_cons_succ]
          refine' take_ 4 rfl (by kernel_rfl) (by kernel_rfl) (by kernel_rfl) (fun _ _ _ h => h) (by rfl) (fun wS hSw => ?_) hHeld ?_
          rotate_left
          focus (obtain ⟨z0, z1, z2, z3⟩ := HCC.out _ hSw; go_simp; (try with_reducible rfl); done)
          try simp only [Act.put, List.setIfInBounds_toArray, List.set_cons_zero, List.set_cons_succ]
          refine' take_ 5 rfl (by kernel_rfl) (by kernel_rfl) (by kernel_rfl) (fun _ _ _ h => h) (by rfl) (fun wS hSw => ?_) hHeld ?_
          rotate_left
          focus (obtain ⟨z0, z1, z2, z3⟩ := HCC.out _ hSw; go_simp; (try with_reducible rfl); done)
          try simp only [Act.put, List.setIfInBounds_toArray, List.set_cons_zero, List.set_cons_succ]
          refine' take_ 6 rfl (by kernel_rfl) (by kernel_rfl) (by kernel_rfl) (fun _ _ _ h => h) (by rfl) (fun wS hSw => ?_) hHeld ?_
          rotate_left
          focus (obtain ⟨z0, z1, z2, z3⟩ := HCC.out _ hSw; go_simp; (try with_reducible rfl); done)
          try simp only [Act.put, List.setIfInBounds_toArray, List.set_cons_zero, List.set_cons_succ]
          refine' take_ 7 rfl (by kernel_rfl) (by kernel_rfl) (by kernel_rfl) (fun _ _ _ h => h) (by rfl) (fun wS hSw => ?_) hHeld ?_
          rotate_left
          focus (obtain ⟨z0, z1, z2, z3⟩ := HCC.out _ hSw; go_simp; (try with_reducible rfl); done)
          try simp only [Act.put, List.setIfInBounds_toArray, List.set_cons_zero, List.set_cons_succ]
          refine' take_ 8 rfl (by kernel_rfl) (by kernel_rfl) (by kernel_rfl) (fun _ _ _ h => h) (by rfl) (fun wS hSw => ?_) hHeld ?_
          rotate_left
          focus (obtain ⟨z0, z1, z2, z3⟩ := HCC.out _ hSw; go_simp; (try with_reducible rfl); done)
          try simp only [Act.put, List.setIfInBounds_toArray, List.set_cons_zero, List.set_cons_succ]
          refine' take_ 9 rfl (by kernel_rfl) (by kernel_rfl) (by kernel_rfl) (fun _ _ _ h => h) (by rfl) (fun wS hSw => ?_) hHeld ?_
          rotate_left
          focus (obtain ⟨z0, z1, z2, z3⟩ := HCC.out _ hSw; go_simp; (try with_reducible rfl); done)
          try simp only [Act.put, List.setIfInBounds_toArray, List.set_cons_zero, List.set_cons_succ]
          refine' take_ 10 rfl (by kernel_rfl) (by kernel_rfl) (by kernel_rfl) (fun _ _ _ h => h) (by rfl) (fun wS hSw => ?_) hHeld ?_
          rotate_left
          focus (obtain ⟨z0, z1, z2, z3⟩ := HCC.out _ hSw; go_simp; (try with_reducible rfl); done)
          try simp only [Act.put, List.setIfInBounds_toArray, List.set_cons_zero, List.set_cons_succ]
          refine' take_ 11 rfl (by kernel_rfl) (by kernel_rfl) (by kernel_rfl) (fun _ _ _ h => h) (by rfl) (fun wS hSw => ?_) hHeld ?_
          rotate_left
          focus (obtain ⟨z0, z1, z2, z3⟩ := HCC.out _ hSw; go_simp; (try with_reducible rfl); done)
          try simp only [Act.put, List.setIfInBounds_toArray, List.set_cons_zero, List.set_cons_succ]
          refine' take_ 12 rfl (by kernel_rfl) (by kernel_rfl) (by kernel_rfl) (fun _ _ _ h => h) (by rfl) (fun wS hSw => ?_) hHeld ?_
          rotate_left
          focus (obtain ⟨z0, z1, z2, z3⟩ := HCC.out _ hSw; go_simp; (try with_reducible rfl); done)
          try simp only [Act.put, List.setIfInBounds_toArray, List.set_cons_zero, List.set_cons_succ]
          refine' take_ 13 rfl (by kernel_rfl) (by kernel_rfl) (by kernel_rfl) (fun _ _ _ h => h) (by rfl) (fun wS hSw => ?_) hHeld ?_
          rotate_left
          focus (obtain ⟨z0, z1, z2, z3⟩ := HCC.out _ hSw; go_simp; (try with_reducible rfl); done)
          try simp only [Act.put, List.setIfInBounds_toArray, List.set_cons_zero, List.set_cons_succ]
          refine' take_ 14 rfl (by kernel_rfl) (by kernel_rfl) (by kernel_rfl) (fun _ _ _ h => h) (by rfl) (fun wS hSw => ?_) hHeld ?_
          rotate_left
          focus (obtain ⟨z0, z1, z2, z3⟩ := HCC.out _ hSw; go_simp; (try with_reducible rfl); done)
          try simp only [Act.put, List.setIfInBounds_toArray, List.set_cons_zero, List.set_cons_succ]
          refine' take_ 15 rfl (by kernel_rfl) (by kernel_rfl) (by kernel_rfl) (fun _ _ _ h => h) (by rfl) (fun wS hSw => ?_) hHeld ?_
          rotate_left
          focus (obtain ⟨z0, z1, z2, z3⟩ := HCC.out _ hSw; go_simp; (try with_reducible rfl); done)
          try simp only [Act.put, List.setIfInBounds_toArray, List.set_cons_zero, List.set_cons_succ]
          refine' take_ 16 rfl (by kernel_rfl) (by kernel_rfl) (by kernel_rfl) (fun _ _ _ h => h) (by rfl) (fun wS hSw => ?_) hHeld ?_
          rotate_left
          focus (obtain ⟨z0, z1, z2, z3⟩ := HCC.out _ hSw; go_simp; (try with_reducible rfl); done)
          try simp only [Act.put, List.setIfInBounds_toArray, List.set_cons_zero, List.set_cons_succ]
          refine' take_ 17 rfl (by kernel_rfl) (by kernel_rfl) (by kernel_rfl) (fun _ _ _ h => h) (by rfl) (fun wS hSw => ?_) hHeld ?_
          rotate_left
          focus (go_simp; (try with_reducible rfl); done)
          try simp only [Act.put, List.setIfInBounds_toArray, List.set_cons_zero, List.set_cons_succ]
          refine wpAnyH_done (by kernel_rfl) ?_ _
          refine NoPanic.normal ?_
          go_wp2_with fail
          go_roundw
          case rel => exact hdone.out _ n hHeld (HT.out)
          case measure =>
            simp [intOf]
            have := HLT.out
            (try omega)
      · have HT := Lib.hid (HNX.out.skip HY.out (fun h => hkk h.1))
        have ek : (y.k == x.k) = false := by simpa using hkk
        refine wp_region_noPanic ?_
        refine wp_region_held_drew (S := fun X => Below u.heap.size u X) (by kernel_rfl) ((Below.refl _ u).drew) (fun hHeld => ?_)
        refine' take_ 0 rfl (by kernel_rfl) (by kernel_rfl) (by kernel_rfl) (fun _ _ _ h => h) (by rfl) (fun wS hSw => ?_) hHeld ?_
        rotate_left
        focus (obtain ⟨z0, z1, z2, z3⟩ := HCC.out _ hSw; go_simp; (try with_reducible rfl); done)
        try simp only [Act.put, List.setIfInBounds_toArray, List.set_cons_zero, List.set_cons_succ]
        refine' take_ 1 rfl (by kernel_rfl) (by kernel_rfl) (by kernel_rfl) (fun _ _ _ h => h) (by rfl) (fun wS hSw => ?_) hHeld ?_
        rotate_left
        focus (obtain ⟨z0, z1, z2, z3⟩ := HCC.out _ hSw; go_simp; (try with_reducible rfl); done)
        try simp only [Act.put, List.setIfInBounds_toArray, List.set_cons_zero, List.set_cons_succ]
        refine' take_ 2 rfl (by kernel_rfl) (by kernel_rfl) (by kernel_rfl) (fun _ _ _ h => h) (by rfl) (fun wS hSw => ?_) hHeld ?_
        rotate_left
        focus (obtain ⟨z0, z1, z2, z3⟩ := HCC.out _ hSw; go_simp; (try with_reducible rfl); done)
        try simp only [Act.put, List.setIfInBounds_toArray, List.set_cons_zero, List.set_cons_succ]
        refine' take_ 3 rfl (by kernel_rfl) (by kernel_rfl) (by kernel_rfl) (fun _ _ _ h => h) (by rfl) (fun wS hSw => ?_) hHeld ?_
        rotate_left
        focus (obtain ⟨z0, z1, z2, z3⟩ := HCC.out _ hSw; go_simp; (try with_reducible rfl); done)
        try simp only [Act.put, List.setIfInBounds_toArray, List.set_cons_zero, List.set_cons_succ]
        refine' take_ 4 rfl (by kernel_rfl) (by kernel_rfl) (by kernel_rfl) (fun _ _ _ h => h) (by rfl) (fun wS hSw => ?_) hHeld ?_
        rotate_left
        focus (obtain ⟨z0, z1, z2, z3⟩ := HCC.out _ hSw; go_simp; (try with_reducible rfl); done)
        try simp only [Act.put, List.setIfInBounds_toArray, List.set_cons_zero, List.set_cons_succ]
        refine' take_ 5 rfl (by kernel_rfl) (by kernel_rfl) (by kernel_rfl) (fun _ _ _ h => h) (by rfl) (fun wS hSw => ?_) hHeld ?_
        rotate_left
        focus (obtain ⟨z0, z1, z2, z3⟩ := HCC.out _ hSw; go_simp; (try with_reducible rfl); done)
        try simp only [Act.put, List.setIfInBounds_toArray, List.set_cons_zero, List.set_cons_succ]
        refine' take_ 6 rfl (by kernel_rfl) (by kernel_rfl) (by kernel_rfl) (fun _ _ _ h => h) (by rfl) (fun wS hSw => ?_) hHeld ?_
        rotate_left
        focus (obtain ⟨z0, z1, z2, z3⟩ := HCC.out _ hSw; go_simp; (try with_reducible rfl); done)
        try simp only [Act.put, List.setIfInBounds_toArray, List.set_cons_zero, List.set_cons_succ]
        refine' take_ 7 rfl (by kernel_rfl) (by kernel_rfl) (by kernel_rfl) (fun _ _ _ h => h) (by rfl) (fun wS hSw => ?_) hHeld ?_
        rotate_left
        focus (obtain ⟨z0, z1, z2, z3⟩ := HCC.out _ hSw; go_simp; (try with_reducible rfl); done)
        try simp only [Act.put, List.setIfInBounds_toArray, List.set_cons_zero, List.set_cons_succ]
        refine' take_ 8 rfl (by kernel_rfl) (by kernel_rfl) (by kernel_rfl) (fun _ _ _ h => h) (by rfl) (fun wS hSw => ?_) hHeld ?_
        rotate_left
        focus (obtain ⟨z0, z1, z2, z3⟩ := HCC.out _ hSw; go_simp; (try with_reducible rfl); done)
        try simp only [Act.put, List.setIfInBounds_toArray, List.set_cons_zero, List.set_cons_succ]
        refine' pass_ 9 rfl (by kernel_rfl) (by kernel_rfl) (by kernel_rfl) (fun _ _ _ h => h) (by rfl) hHeld ?_
        try simp only [Act.put, List.setIfInBounds_toArray, List.set_cons_zero, List.set_cons_succ]
        refine' pass_ 10 rfl (by kernel_rfl) (by kernel_rfl) (by kernel_rfl) (fun _ _ _ h => h) (by rfl) hHeld ?_
        try simp only [Act.put, List.setIfInBounds_toArray, List.set_cons_zero, List.set_cons_succ]
        refine' pass_ 11 rfl (by kernel_rfl) (by kernel_rfl) (by kernel_rfl) (fun _ _ _ h => h) (by rfl) hHeld ?_
        try simp only [Act.put, List.setIfInBounds_toArray, List.set_cons_zero, List.set_cons_succ]
        refine' pass_ 12 rfl (by kernel_rfl) (by kernel_rfl) (by kernel_rfl) (fun _ _ _ h => h) (by rfl) hHeld ?_
        try simp only [Act.put, List.setIfInBounds_toArray, List.set_cons_zero, List.set_cons_succ]
        refine' pass_ 13 rfl (by kernel_rfl) (by kernel_rfl) (by kernel_rfl) (fun _ _ _ h => h) (by rfl) hHeld ?_
        try simp only [Act.put, List.setIfInBounds_toArray, List.set_cons_zero, List.set_cons_succ]
        refine' pass_ 14 rfl (by kernel_rfl) (by kernel_rfl) (by kernel_rfl) (fun _ _ _ h => h) (by rfl) hHeld ?_
        try simp only [Act.put, List.setIfInBounds_toArray, List.set_cons_zero, List.set_cons_succ]
        refine' pass_ 15 rfl (by kernel_rfl) (by kernel_rfl) (by kernel_rfl) (fun _ _ _ h => h) (by rfl) hHeld ?_
        try simp only [Act.put, List.setIfInBounds_toArray, List.set_cons_zero, List.set_cons_succ]
        refine' pass_ 16 rfl (by kernel_rfl) (by kernel_rfl) (by kernel_rfl) (fun _ _ _ h => h) (by rfl) hHeld ?_
        try simp only [Act.put, List.setIfInBounds_toArray, List.set_cons_zero, List.set_cons_succ]
        refine' take_ 17 rfl (by kernel_rfl) (by kernel_rfl) (by kernel_rfl) (fun _ _ _ h => h) (by rfl) (fun wS hSw => ?_) hHeld ?_
        rotate_left
        focus (go_simp; (try with_reducible rfl); done)
        try simp only [Act.put, List.setIfInBounds_toArray, List.set_cons_zero, List.set_cons_succ]
        refine wpAnyH_done (by kernel_rfl) ?_ _
        refine NoPanic.normal ?_
        go_wp2_with fail
        go_roundw
        case rel => exact hdone.out _ n hHeld (HT.out)
        case measure =>
          simp [intOf]
          have := HLT.out
          (try omega)
    · obtain rfl : k = s.length := by omega
      have d1 : ¬ (s.length : Int) < (s.length : Int) := by omega
      have HLA := Lib.hid (fun (c : Int) (hc : c < 1048576) => HNX.out.later (c := c) hc)
      have hnle := HNX.out.le
      clear hlt hk c0 c1
      have KA : Hid (∀ (c : Int) (W : World), Rd W Bs sA s → Bs ≤ W.heap.size → 1 ≤ c → c ≤ 1000 → Calls Try.prog 18 #[.slice sA s.length scap, .int .i64 c] W fun e w' => e = .returned (.agg (nc (atL s c)).toArray) ∧ Below W.heap.size W w') := Lib.hid (fun c W h h2 h3 h4 => HA.out sA scap Bs s c W h h2 HCS.out (by omega) (by omega))
      have KB : Hid (∀ (c : Int) (W : World), Rd W Bt tA t → Bt ≤ W.heap.size → 1 ≤ c → c ≤ 1000 → Calls Try.prog 18 #[.slice tA t.length tcap, .int .i64 c] W fun e w' => e = .returned (.agg (nc (atL t c)).toArray) ∧ Below W.heap.size W w') := Lib.hid (fun c W h h2 h3 h4 => HA.out tA tcap Bt t c W h h2 HCT0.out (by omega) (by omega))
      go_wp2_with fail
      go_loopw [17] (fun iv wr => ∃ c : Nat, 1 ≤ c ∧ c ≤ 720 ∧ iv = .int .i64 (c : Int) ∧ Rd wr Bs sA s ∧ Bs ≤ wr.heap.size ∧ Rd wr Bt tA t ∧ Bt ≤ wr.heap.size ∧ IRow wr gx x ∧ Below w.heap.size w wr) (fun iv _ => 720 - (intOf iv).toNat)
      case atStart => exact ⟨1, by omega, by omega, rfl, RS_u.out, SB_u.out, RT_u.out, ST_u.out, RX_u.out, BB_u.out⟩
      case round =>
        clear RS_u SB_u RT_u ST_u RX_u BB_u
        obtain ⟨c, hc1, hc2, rfl, q1, q2, q3, q4, q5, q6⟩ := hrel
        obtain ⟨w7, hu⟩ : ∃ W, wr = W := ⟨_, rfl⟩
        rw [hu] at q1 q2 q3 q4 q5 q6 ⊢
        have RS_7 := Lib.hid q1
        have SB_7 := Lib.hid q2
        have RT_7 := Lib.hid q3
        have ST_7 := Lib.hid q4
        have RX_7 := Lib.hid q5
        have BB_7 := Lib.hid q6
        clear q1 q2 q3 q4 q5 q6 hu
        by_cases hlt : c < 720
        · have d1 : (c : Int) < 720 := by omega
          have HLT := Lib.hid (And.intro hc1 hlt)
          have K4 := Lib.hid (fun W h h2 => KA.out (c : Int) W h h2 (by omega) (by omega))
          have K5 := Lib.hid (fun W h h2 => KB.out (c : Int) W h h2 (by omega) (by omega))
          have HN2 := Lib.hid (HNOW.out (c : Int) (by omega))
          have HL2 := Lib.hid (HLA.out (c : Int) (by omega))
          obtain ⟨n1, hn1⟩ : ∃ n, atL s (c : Int) = n := ⟨_, rfl⟩
          obtain ⟨n2, hn2⟩ : ∃ n, atL t (c : Int) = n := ⟨_, rfl⟩
          rw [hn1] at K4 HN2
          rw [hn2] at K5 HN2
          obtain ⟨lt, hlt2⟩ : ∃ b, laterB s x (c : Int) = b := ⟨_, rfl⟩
          rw [hlt2] at HN2 HL2
          clear hn1 hn2 hlt2 hlt hc1 hc2
          go_upto_region 24 with (first
            | ((with_reducible show wpList _ _ _ (⟨none, .store 33 (.tmp 19) (.tmp 105), _, _, _, _⟩ :: _) _ _); refine wpList_store_v rfl 33 _ _ rfl (w9.heap.size + 1) (by exact rfl) (nc n2) (by exact rfl) (by kernel_rfl) (nc_one _) 33 [.int .u8 0, .int .u8 0, .bool false, .int .u8 0] R19_1.out rfl ?_; intro v2 HN HO HB; have R19_2 : Hid (VRow v2 (w9.heap.size + 1) 33 (nc n2)) := HN; have R18_2 : Hid (VRow v2 w9.heap.size 33 (nc n1)) := Lib.hid ((HO.out _ (by omega)).trans R18_1.out); have BV_2 : Hid (Below w9.heap.size w9 v2) := Lib.hid (BV_1.out.trans (HB.out.mono (by omega))); clear HN HO HB)
            | ((with_reducible show wpList _ _ _ (⟨none, .store 33 (.tmp 18) (.tmp 102), _, _, _, _⟩ :: _) _ _); refine wpList_store_v rfl 33 _ _ rfl w9.heap.size (by exact rfl) (nc n1) (by exact rfl) (by kernel_rfl) (nc_one _) 33 [.int .u8 0, .int .u8 0, .bool false, .int .u8 0] (two_at0 w9 _ _) rfl ?_; intro v1 HN HO HB; have R18_1 : Hid (VRow v1 w9.heap.size 33 (nc n1)) := HN; have R19_1 : Hid (VRow v1 (w9.heap.size + 1) 33 [.int .u8 0, .int .u8 0, .bool false, .int .u8 0]) := Lib.hid ((HO.out _ (by omega)).trans (two_at w9 _ _)); have BV_1 : Hid (Below w9.heap.size w9 v1) := Lib.hid ((two_below w9 _ _).trans HB.out); clear HN HO HB)
            | (go_at_call 18; have hc := RS_8; clear hc; refine (K5.out _ RT_8.out ST_8.out).mono ?_; rintro e w9 ⟨rfl, hB⟩; have RS_9 := Lib.hid (RS_8.out.below hB SB_8.out); have SB_9 := Lib.hid (Nat.le_trans SB_8.out hB.size); have BB_9 := Lib.hid (BB_8.out.trans (hB.mono BB_8.out.size)); have RX_9 := Lib.hid (IRow.below RX_8.out hB RX_8.out.lt); have RT_9 := Lib.hid (RT_8.out.below hB ST_8.out); have ST_9 := Lib.hid (Nat.le_trans ST_8.out hB.size); clear hB RS_8)
            | (go_at_call 18; have hc := RS_7; clear hc; refine (K4.out _ RS_7.out SB_7.out).mono ?_; rintro e w8 ⟨rfl, hB⟩; have RS_8 := Lib.hid (RS_7.out.below hB SB_7.out); have SB_8 := Lib.hid (Nat.le_trans SB_7.out hB.size); have BB_8 := Lib.hid (BB_7.out.trans (hB.mono BB_7.out.size)); have RX_8 := Lib.hid (IRow.below RX_7.out hB RX_7.out.lt); have RT_8 := Lib.hid (RT_7.out.below hB ST_7.out); have ST_8 := Lib.hid (Nat.le_trans ST_7.out hB.size); have R8 := Lib.hid RS_7; clear hB R8 RS_7))
          go_upto_block 4 with (first
            | ((with_reducible show wpList _ _ _ (⟨none, .store 33 (.tmp 20) (.tmp 106), _, _, _, _⟩ :: _) _ _); refine wpList_store_v rfl 33 _ _ rfl v2.heap.size (by exact rfl) (nc n1) (by exact rfl) (by kernel_rfl) (nc_one _) 33 [.int .u8 0, .int .u8 0, .bool false, .int .u8 0] (alloc_at _ _) rfl ?_; intro v3 HN HO HB; have R20_3 : Hid (VRow v3 v2.heap.size 33 (nc n1)) := HN; have R19_3 : Hid (VRow v3 (w9.heap.size + 1) 33 (nc n2)) := Lib.hid ((HO.out _ (Nat.ne_of_lt R19_2.out.lt)).trans (VRow.below R19_2.out ((Below.refl _ _).alloc (Nat.le_refl _) _) R19_2.out.lt)); have BV_3 : Hid (Below w9.heap.size w9 v3) := Lib.hid ((BV_2.out.alloc BV_2.out.size _).trans (HB.out.mono BV_2.out.size)); have N20 : Hid (w9.heap.size + 1 ≠ v2.heap.size) := Lib.hid (Nat.ne_of_lt R19_2.out.lt); have L20 : Hid (w9.heap.size ≤ v2.heap.size) := Lib.hid BV_2.out.size; clear HN HO HB R18_1 R18_2 R19_1 R19_2 BV_1 BV_2)
            | ((with_reducible show wpList _ _ _ (⟨some 106, .load 33 (.tmp 18), _, _, _, _⟩ :: _) _ _); refine wpList_load_v (by rfl) 33 _ rfl w9.heap.size (by exact rfl) _ Try.underlying33 33 (nc n1) R18_2.out (by kernel_rfl) ?_))
          have RX_v := Lib.hid (IRow.below RX_9.out BV_3.out RX_9.out.lt)
          have x0 := RX_v.out.c0
          have x1 := RX_v.out.c1
          have x2 := RX_v.out.c2
          obtain ⟨g20, hg20⟩ : ∃ g, v2.heap.size = g := ⟨_, rfl⟩
          rw [hg20] at R20_3 N20 L20 ⊢
          obtain ⟨g19, hg19⟩ : ∃ g, w9.heap.size + 1 = g := ⟨_, rfl⟩
          rw [hg19] at R19_3 N20 ⊢
          clear hg20 hg19
          have hdone : Hid (∀ X, Below w9.heap.size w9 X → ∃ c' : Nat, 1 ≤ c' ∧ c' ≤ 720 ∧ Value.int .i64 ((c : Int) + 1) = .int .i64 (c' : Int) ∧ Rd X Bs sA s ∧ Bs ≤ X.heap.size ∧ Rd X Bt tA t ∧ Bt ≤ X.heap.size ∧ IRow X gx x ∧ Below w.heap.size w X) := Lib.hid (fun X hX => ⟨c + 1, by omega, by have := HLT.out; omega, rfl, RS_9.out.below hX SB_9.out, Nat.le_trans SB_9.out hX.size, RT_9.out.below hX ST_9.out, Nat.le_trans ST_9.out hX.size, IRow.below RX_9.out hX RX_9.out.lt, BB_9.out.trans (hX.mono BB_9.out.size)⟩)
          have gg := guard_now
          have gn := neq_now n2
          have hxr := HXR.out
          obtain ⟨xr1, xr2, xr3, xr4⟩ := hxr
          obtain hk0 | hk1 | hk2 : x.k = 0 ∨ x.k = 1 ∨ x.k = 2 := by omega
          · by_cases hle : x.a ≤ (c : Int)
            · by_cases hln : (c : Int) < n
              · have e0 : (x.k == 0) = true := by simp; omega
                have e1 : (x.k == 1) = false := by simp; omega
                have e2 : (x.k == 2) = false := by simp; omega
                have HE : Hid (n2 = { n1 with p := x.v }) := Lib.hid (by rw [HN2.out]; unfold wantN; rw [if_neg (by omega), if_pos ⟨hk0, hle, HL2.out.1 (by omega)⟩])
                (try clear hk0)
                (try clear hk1)
                (try clear hk2)
                (try clear hce)
                go_wp2_with (first
                  | ((with_reducible show wpList _ _ _ (⟨some 158, .load 33 (.tmp 20), _, _, _, _⟩ :: _) _ _); refine wpList_load_v (by rfl) 33 _ rfl g20 (by exact rfl) _ Try.underlying33 33 (nc n2) (by rw [HE.out]; exact R20_4.out) (by kernel_rfl) ?_)
                  | ((with_reducible show wpList _ _ _ (⟨some 157, .load 33 (.tmp 19), _, _, _, _⟩ :: _) _ _); refine wpList_load_v (by rfl) 33 _ rfl g19 (by exact rfl) _ Try.underlying33 33 (nc n2) R19_4.out (by kernel_rfl) ?_)
                  | ((with_reducible show wpList _ _ _ (⟨none, .store 5 (.tmp 138) (.tmp 137), _, _, _, _⟩ :: _) _ _); refine wpList_store_c rfl 5 _ _ rfl g20 0 (by exact rfl) (.int .u8 (x.v : Int)) (by exact rfl) rfl (by kernel_rfl) 33 _ R20_3.out (show 0 < 4 by decide) ?_; intro v4 HN HO HB; have R20_4 : Hid (VRow v4 g20 33 (nc { n1 with p := x.v })) := HN; have R19_4 : Hid (VRow v4 g19 33 (nc n2)) := Lib.hid ((HO.out _ N20.out).trans R19_3.out); have BV_4 : Hid (Below w9.heap.size w9 v4) := Lib.hid (BV_3.out.trans (HB.out.mono L20.out)); have RX_4 := Lib.hid (IRow.below RX_9.out BV_4.out RX_9.out.lt); clear x0 x1 x2; have x0 := RX_4.out.c0; have x1 := RX_4.out.c1; have x2 := RX_4.out.c2; clear HN HO HB))
                go_roundw
                case rel => exact hdone.out _ BV_4.out
                case measure =>
                  simp [intOf]
                  have := HLT.out
                  (try omega)
              · have e0 : (x.k == 0) = true := by simp; omega
                have e1 : (x.k == 1) = false := by simp; omega
                have e2 : (x.k == 2) = false := by simp; omega
                have HE : Hid (n2 = n1) := Lib.hid (by rw [HN2.out]; unfold wantN; have hl := HL2.out.2 (by omega); rw [if_neg (by omega), if_neg (fun h => by rw [hl] at h; exact absurd h.2.2 (by decide)), if_neg (fun h => by rw [hl] at h; exact absurd h.2.2 (by decide))])
                (try clear hk0)
                (try clear hk1)
                (try clear hk2)
                (try clear hce)
                go_wp2_with (first
                  | ((with_reducible show wpList _ _ _ (⟨some 158, .load 33 (.tmp 20), _, _, _, _⟩ :: _) _ _); refine wpList_load_v (by rfl) 33 _ rfl g20 (by exact rfl) _ Try.underlying33 33 (nc n2) (by rw [HE.out]; exact R20_3.out) (by kernel_rfl) ?_)
                  | ((with_reducible show wpList _ _ _ (⟨some 157, .load 33 (.tmp 19), _, _, _, _⟩ :: _) _ _); refine wpList_load_v (by rfl) 33 _ rfl g19 (by exact rfl) _ Try.underlying33 33 (nc n2) R19_3.out (by kernel_rfl) ?_))
                go_roundw
                case rel => exact hdone.out _ BV_3.out
                case measure =>
                  simp [intOf]
                  have := HLT.out
                  (try omega)
            · have e0 : (x.k == 0) = true := by simp; omega
              have e1 : (x.k == 1) = false := by simp; omega
              have e2 : (x.k == 2) = false := by simp; omega
              have HE : Hid (n2 = n1) := Lib.hid (by rw [HN2.out]; unfold wantN; rw [if_neg (by omega), if_neg (by omega), if_neg (by omega)])
              (try clear hk0)
              (try clear hk1)
              (try clear hk2)
              (try clear hce)
              go_wp2_with (first
                | ((with_reducible show wpList _ _ _ (⟨some 158, .load 33 (.tmp 20), _, _, _, _⟩ :: _) _ _); refine wpList_load_v (by rfl) 33 _ rfl g20 (by exact rfl) _ Try.underlying33 33 (nc n2) (by rw [HE.out]; exact R20_3.out) (by kernel_rfl) ?_)
                | ((with_reducible show wpList _ _ _ (⟨some 157, .load 33 (.tmp 19), _, _, _, _⟩ :: _) _ _); refine wpList_load_v (by rfl) 33 _ rfl g19 (by exact rfl) _ Try.underlying33 33 (nc n2) R19_3.out (by kernel_rfl) ?_))
              go_roundw
              case rel => exact hdone.out _ BV_3.out
              case measure =>
                simp [intOf]
                have := HLT.out
                (try omega)
          · by_cases hce : (c : Int) = x.a
            · have ec : ((c : Int) == x.a) = true := by simpa using hce
              have e0 : (x.k == 0) = false := by simp; omega
              have e1 : (x.k == 1) = true := by simp; omega
              have e2 : (x.k == 2) = false := by simp; omega
              have HE : Hid (n2 = { n1 with b := true, y := x.v }) := Lib.hid (by rw [HN2.out]; unfold wantN; rw [if_pos ⟨hk1, hce⟩])
              (try clear hk0)
              (try clear hk1)
              (try clear hk2)
              (try clear hce)
              go_wp2_with (first
                | ((with_reducible show wpList _ _ _ (⟨some 158, .load 33 (.tmp 20), _, _, _, _⟩ :: _) _ _); refine wpList_load_v (by rfl) 33 _ rfl g20 (by exact rfl) _ Try.underlying33 33 (nc n2) (by rw [HE.out]; exact R20_5.out) (by kernel_rfl) ?_)
                | ((with_reducible show wpList _ _ _ (⟨some 157, .load 33 (.tmp 19), _, _, _, _⟩ :: _) _ _); refine wpList_load_v (by rfl) 33 _ rfl g19 (by exact rfl) _ Try.underlying33 33 (nc n2) R19_5.out (by kernel_rfl) ?_)
                | ((with_reducible show wpList _ _ _ (⟨none, .store 5 (.tmp 120) (.tmp 119), _, _, _, _⟩ :: _) _ _); refine wpList_store_c rfl 5 _ _ rfl g20 3 (by exact rfl) (.int .u8 (x.v : Int)) (by exact rfl) rfl (by kernel_rfl) 33 _ R20_4.out (show 3 < 4 by decide) ?_; intro v5 HN HO HB; have R20_5 : Hid (VRow v5 g20 33 (nc { n1 with b := true, y := x.v })) := HN; have R19_5 : Hid (VRow v5 g19 33 (nc n2)) := Lib.hid ((HO.out _ N20.out).trans R19_4.out); have BV_5 : Hid (Below w9.heap.size w9 v5) := Lib.hid (BV_4.out.trans (HB.out.mono L20.out)); have RX_5 := Lib.hid (IRow.below RX_9.out BV_5.out RX_9.out.lt); clear x0 x1 x2; have x0 := RX_5.out.c0; have x1 := RX_5.out.c1; have x2 := RX_5.out.c2; clear HN HO HB)
                | ((with_reducible show wpList _ _ _ (⟨none, .store 4 (.tmp 117) _, _, _, _, _⟩ :: _) _ _); refine wpList_store_c rfl 4 _ _ rfl g20 2 (by exact rfl) (.bool true) (by exact rfl) rfl (by kernel_rfl) 33 _ R20_3.out (show 2 < 4 by decide) ?_; intro v4 HN HO HB; have R20_4 : Hid (VRow v4 g20 33 (nc { n1 with b := true })) := HN; have R19_4 : Hid (VRow v4 g19 33 (nc n2)) := Lib.hid ((HO.out _ N20.out).trans R19_3.out); have BV_4 : Hid (Below w9.heap.size w9 v4) := Lib.hid (BV_3.out.trans (HB.out.mono L20.out)); have RX_4 := Lib.hid (IRow.below RX_9.out BV_4.out RX_9.out.lt); clear x0 x1 x2; have x0 := RX_4.out.c0; have x1 := RX_4.out.c1; have x2 := RX_4.out.c2; clear HN HO HB))
              go_roundw
              case rel => exact hdone.out _ BV_5.out
              case measure =>
                simp [intOf]
                have := HLT.out
                (try omega)
            · have ec : ((c : Int) == x.a) = false := by simpa using hce
              have e0 : (x.k == 0) = false := by simp; omega
              have e1 : (x.k == 1) = true := by simp; omega
              have e2 : (x.k == 2) = false := by simp; omega
              have HE : Hid (n2 = n1) := Lib.hid (by rw [HN2.out]; unfold wantN; rw [if_neg (by omega), if_neg (by omega), if_neg (by omega)])
              (try clear hk0)
              (try clear hk1)
              (try clear hk2)
              (try clear hce)
              go_wp2_with (first
                | ((with_reducible show wpList _ _ _ (⟨some 158, .load 33 (.tmp 20), _, _, _, _⟩ :: _) _ _); refine wpList_load_v (by rfl) 33 _ rfl g20 (by exact rfl) _ Try.underlying33 33 (nc n2) (by rw [HE.out]; exact R20_3.out) (by kernel_rfl) ?_)
                | ((with_reducible show wpList _ _ _ (⟨some 157, .load 33 (.tmp 19), _, _, _, _⟩ :: _) _ _); refine wpList_load_v (by rfl) 33 _ rfl g19 (by exact rfl) _ Try.underlying33 33 (nc n2) R19_3.out (by kernel_rfl) ?_))
              go_roundw
              case rel => exact hdone.out _ BV_3.out
              case measure =>
                simp [intOf]
                have := HLT.out
                (try omega)
          · by_cases hle : x.a ≤ (c : Int)
            · by_cases hln : (c : Int) < n
              · have e0 : (x.k == 0) = false := by simp; omega
                have e1 : (x.k == 1) = false := by simp; omega
                have e2 : (x.k == 2) = true := by simp; omega
                have HE : Hid (n2 = { n1 with m := x.v }) := Lib.hid (by rw [HN2.out]; unfold wantN; rw [if_neg (by omega), if_neg (by omega), if_pos ⟨hk2, hle, HL2.out.1 (by omega)⟩])
                (try clear hk0)
                (try clear hk1)
                (try clear hk2)
                (try clear hce)
                go_wp2_with (first
                  | ((with_reducible show wpList _ _ _ (⟨some 158, .load 33 (.tmp 20), _, _, _, _⟩ :: _) _ _); refine wpList_load_v (by rfl) 33 _ rfl g20 (by exact rfl) _ Try.underlying33 33 (nc n2) (by rw [HE.out]; exact R20_4.out) (by kernel_rfl) ?_)
                  | ((with_reducible show wpList _ _ _ (⟨some 157, .load 33 (.tmp 19), _, _, _, _⟩ :: _) _ _); refine wpList_load_v (by rfl) 33 _ rfl g19 (by exact rfl) _ Try.underlying33 33 (nc n2) R19_4.out (by kernel_rfl) ?_)
                  | ((with_reducible show wpList _ _ _ (⟨none, .store 5 (.tmp 156) (.tmp 155), _, _, _, _⟩ :: _) _ _); refine wpList_store_c rfl 5 _ _ rfl g20 1 (by exact rfl) (.int .u8 (x.v : Int)) (by exact rfl) rfl (by kernel_rfl) 33 _ R20_3.out (show 1 < 4 by decide) ?_; intro v4 HN HO HB; have R20_4 : Hid (VRow v4 g20 33 (nc { n1 with m := x.v })) := HN; have R19_4 : Hid (VRow v4 g19 33 (nc n2)) := Lib.hid ((HO.out _ N20.out).trans R19_3.out); have BV_4 : Hid (Below w9.heap.size w9 v4) := Lib.hid (BV_3.out.trans (HB.out.mono L20.out)); have RX_4 := Lib.hid (IRow.below RX_9.out BV_4.out RX_9.out.lt); clear x0 x1 x2; have x0 := RX_4.out.c0; have x1 := RX_4.out.c1; have x2 := RX_4.out.c2; clear HN HO HB))
                go_roundw
                case rel => exact hdone.out _ BV_4.out
                case measure =>
                  simp [intOf]
                  have := HLT.out
                  (try omega)
              · have e0 : (x.k == 0) = false := by simp; omega
                have e1 : (x.k == 1) = false := by simp; omega
                have e2 : (x.k == 2) = true := by simp; omega
                have HE : Hid (n2 = n1) := Lib.hid (by rw [HN2.out]; unfold wantN; have hl := HL2.out.2 (by omega); rw [if_neg (by omega), if_neg (fun h => by rw [hl] at h; exact absurd h.2.2 (by decide)), if_neg (fun h => by rw [hl] at h; exact absurd h.2.2 (by decide))])
                (try clear hk0)
                (try clear hk1)
                (try clear hk2)
                (try clear hce)
                go_wp2_with (first
                  | ((with_reducible show wpList _ _ _ (⟨some 158, .load 33 (.tmp 20), _, _, _, _⟩ :: _) _ _); refine wpList_load_v (by rfl) 33 _ rfl g20 (by exact rfl) _ Try.underlying33 33 (nc n2) (by rw [HE.out]; exact R20_3.out) (by kernel_rfl) ?_)
                  | ((with_reducible show wpList _ _ _ (⟨some 157, .load 33 (.tmp 19), _, _, _, _⟩ :: _) _ _); refine wpList_load_v (by rfl) 33 _ rfl g19 (by exact rfl) _ Try.underlying33 33 (nc n2) R19_3.out (by kernel_rfl) ?_))
                go_roundw
                case rel => exact hdone.out _ BV_3.out
                case measure =>
                  simp [intOf]
                  have := HLT.out
                  (try omega)
            · have e0 : (x.k == 0) = false := by simp; omega
              have e1 : (x.k == 1) = false := by simp; omega
              have e2 : (x.k == 2) = true := by simp; omega
              have HE : Hid (n2 = n1) := Lib.hid (by rw [HN2.out]; unfold wantN; rw [if_neg (by omega), if_neg (by omega), if_neg (by omega)])
              (try clear hk0)
              (try clear hk1)
              (try clear hk2)
              (try clear hce)
              go_wp2_with (first
                | ((with_reducible show wpList _ _ _ (⟨some 158, .load 33 (.tmp 20), _, _, _, _⟩ :: _) _ _); refine wpList_load_v (by rfl) 33 _ rfl g20 (by exact rfl) _ Try.underlying33 33 (nc n2) (by rw [HE.out]; exact R20_3.out) (by kernel_rfl) ?_)
                | ((with_reducible show wpList _ _ _ (⟨some 157, .load 33 (.tmp 19), _, _, _, _⟩ :: _) _ _); refine wpList_load_v (by rfl) 33 _ rfl g19 (by exact rfl) _ Try.underlying33 33 (nc n2) R19_3.out (by kernel_rfl) ?_))
              go_roundw
              case rel => exact hdone.out _ BV_3.out
              case measure =>
                simp [intOf]
                have := HLT.out
                (try omega)
        · obtain rfl : c = 720 := by omega
          have d1 : ¬ (720 : Int) < 720 := by omega
          have d2 : ¬ ((720 : Nat) : Int) < 720 := by omega
          go_wp2_with fail
          go_ret
          exact ⟨rfl, BB_7.out⟩
end Go.Proofs.Ytimlhckihkjifaa
