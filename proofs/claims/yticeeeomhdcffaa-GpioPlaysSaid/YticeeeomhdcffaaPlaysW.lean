/-
  GpioPlays' walk: whatever is written, and whatever levels come, all is as the document says: true. Made by wip/gengpioplays.py.
-/
import Derived.Test.YticeeeomhdcffaaBitL
import Derived.Deep.DeepCutAuto
namespace Go.Proofs.Yticeeeomhdcffaa
open Go.RowKit
set_option linter.unusedVariables false
abbrev xc (wh : Nat) (rg v : Int) : List Value := [.int .u8 (wh : Int), .int .i8 rg, .int .i32 v]
/-- Acts, as they lie in memory. -/
def ActsIn (w : World) (A : Option Addr) (len : Nat) : Prop := ∀ j, j < len → ∃ a, A = some a ∧ a.block < w.heap.size ∧ ∃ (wh : Nat) (rg v : Int), wh < 256 ∧ -128 ≤ rg ∧ rg ≤ 127 ∧ -2147483648 ≤ v ∧ v ≤ 2147483647 ∧ CellsA w (a.add (j * 3)) (xc wh rg v)
/-- The pins of both, and the act, in a world. -/
structure St (w W : World) (ga gb gx o i e o2 i2 e2 wh : Nat) (rg v : Int) : Prop where
  g : GRow W ga 24 o i e
  r : GRow W gb 25 o2 i2 e2
  x : VRow W gx 28 (xc wh rg v)
  b : Below w.heap.size w W
  la : w.heap.size ≤ ga
  lb : w.heap.size ≤ gb
  ab : ga ≠ gb
  ax : ga ≠ gx
  bx : gb ≠ gx
theorem St.under {w W W' : World} {ga gb gx o i e o2 i2 e2 wh : Nat} {rg v : Int} (h : St w W ga gb gx o i e o2 i2 e2 wh rg v) (hb : Below W.heap.size W W') : St w W' ga gb gx o i e o2 i2 e2 wh rg v :=
  ⟨h.g.below hb h.g.lt, h.r.below hb h.r.lt, h.x.below hb h.x.lt, h.b.trans (hb.mono h.b.size), h.la, h.lb, h.ab, h.ax, h.bx⟩
theorem St.setG {w W W' : World} {ga gb gx o i e o2 i2 e2 wh o' i' e' : Nat} {rg v : Int} (h : St w W ga gb gx o i e o2 i2 e2 wh rg v) (hn : GRow W' ga 24 o' i' e') (ho : ∀ k, k ≠ ga → W'.heap[k]? = W.heap[k]?) (hb : Below ga W W') : St w W' ga gb gx o' i' e' o2 i2 e2 wh rg v :=
  ⟨hn, (ho gb h.ab.symm).trans h.r, (ho gx h.ax.symm).trans h.x, h.b.trans (hb.mono h.la), h.la, h.lb, h.ab, h.ax, h.bx⟩
theorem St.setR {w W W' : World} {ga gb gx o i e o2 i2 e2 wh o' i' e' : Nat} {rg v : Int} (h : St w W ga gb gx o i e o2 i2 e2 wh rg v) (hn : GRow W' gb 25 o' i' e') (ho : ∀ k, k ≠ gb → W'.heap[k]? = W.heap[k]?) (hb : Below gb W W') : St w W' ga gb gx o i e o' i' e' wh rg v :=
  ⟨(ho ga h.ab).trans h.g, hn, (ho gx h.bx.symm).trans h.x, h.b.trans (hb.mono h.lb), h.la, h.lb, h.ab, h.ax, h.bx⟩
theorem St.xs {w W : World} {ga gb gx o i e o2 i2 e2 wh : Nat} {rg v : Int} (h : St w W ga gb gx o i e o2 i2 e2 wh rg v) : W.cell? ⟨gx, 0, none⟩ = some (.int .u8 (wh : Int)) ∧ W.cell? ⟨gx, 1, none⟩ = some (.int .i8 rg) ∧ W.cell? ⟨gx, 2, none⟩ = some (.int .i32 v) := ⟨h.x.cell 0 _ rfl, h.x.cell 1 _ rfl, h.x.cell 2 _ rfl⟩
theorem outN_lt (o : Nat) (reg v : Int) (h : o < 256) : outN o reg v < 256 := by unfold outN; have := lowN_lt v; split <;> omega
theorem edgeN_lt (e : Nat) (reg v : Int) (h : e < 256) : edgeN e reg v < 256 := by unfold edgeN; have := lowN_lt v; split <;> omega
theorem st_new {w wr W : World} {o i e o2 i2 e2 wh : Nat} {rg v : Int} {ga gb : Nat} (hg : GRow wr ga 24 o i e) (hr : GRow wr gb 25 o2 i2 e2) (hb : Below w.heap.size w wr) (ha : w.heap.size ≤ ga) (hbb : w.heap.size ≤ gb) (hab : ga ≠ gb) (hx : VRow W wr.heap.size 28 (xc wh rg v)) (hB : Below wr.heap.size wr W) : St w W ga gb wr.heap.size o i e o2 i2 e2 wh rg v :=
  ⟨hg.below hB hg.lt, hr.below hB hr.lt, hx, hb.trans (hB.mono hb.size), ha, hbb, hab, Nat.ne_of_lt hg.lt, Nat.ne_of_lt hr.lt⟩
set_option maxHeartbeats 8000000 in
set_option maxRecDepth 100000 in
theorem plays_walk (H : GpioOk) (o i : Nat) (A : Option Addr) (len cap : Nat) (w : World) (ho : o < 256) (hi : i < 256) (hlen : len ≤ 9223372036854775807) (hA : ActsIn w A len) :
    Calls Try.prog 3 #[.int .u8 o, .int .u8 i, .slice A len cap] w fun x w' => x = .returned (.bool true) ∧ Below w.heap.size w w' := by
  have hx : bits .xor .u8 (o : Int) (i : Int) = ((o ^^^ i : Nat) : Int) := u8_xor_nat o i ho hi
  have he : o ^^^ i < 256 := xorN o i ho hi
  generalize o ^^^ i = e at *
  have HA := Lib.hid hA
  clear hA
  go_enter Try.func3, Try.ntmps3
  go_upto_region 2 with (fail)
  refine name_two (Q := fun X => Code.wp _ _ _ _ X) ?_
  intro W0 hq1 hq2 hB0
  have RG0 : GRow W0 w.heap.size 24 o i e := hq1
  have RR0 : GRow W0 (w.heap.size + 1) 25 o i e := hq2
  clear hq1 hq2 hx
  obtain ⟨ga, hga⟩ : ∃ ga, w.heap.size = ga := ⟨_, rfl⟩

  rw [hga] at RG0 RR0 ⊢
  obtain ⟨gb, hgb⟩ : ∃ gb, ga + 1 = gb := ⟨_, rfl⟩
  rw [hgb] at RR0 ⊢
  have la : w.heap.size ≤ ga := by omega
  have lb : w.heap.size ≤ gb := by omega
  have ab : ga ≠ gb := by omega
  have LA := Lib.hid la
  have LB := Lib.hid lb
  have AB := Lib.hid ab
  have HR0 := Lib.hid RG0
  have HS0 := Lib.hid RR0
  have HB0 := Lib.hid hB0
  clear hgb la lb ab RG0 RR0 hB0 hga
  go_wp2_with (fail)
  go_loopw [9] (fun kv wr => ∃ (k o i e : Nat), k ≤ len ∧ k ≤ 100 ∧ kv = .int .i64 k ∧ o < 256 ∧ i < 256 ∧ e < 256 ∧ GRow wr ga 24 o i e ∧ GRow wr gb 25 o i e ∧ Below w.heap.size w wr) (fun kv _ => 100 - (intOf kv).toNat)
  case atStart => exact ⟨0, o, i, e, by omega, by omega, rfl, ho, hi, he, HR0.out, HS0.out, HB0.out⟩
  case round =>
    clear HR0 HS0 HB0 ho hi he
    obtain ⟨k, o, i, e, hk, hk100, rfl, ho, hi, he, hrg, hrr, hb⟩ := hrel
    have HRG := Lib.hid hrg
    have HRR := Lib.hid hrr
    have HB := Lib.hid hb
    clear hrg hrr hb
    by_cases hlt : k < len ∧ k < 100
    · obtain ⟨hlt1, hlt2⟩ := hlt
      obtain ⟨a, rfl, hab, wh, rg, v, hwh, hr1, hr2, hv1, hv2, hc⟩ := HA.out k hlt1
      have HC := Lib.hid (hc.below HB.out (by rw [add_block]; exact hab))
      clear hc hab
      have d1 : (k : Int) < (len : Int) := by omega
      have d2 : (k : Int) < 100 := by omega
      go_upto_region 6 with (refine wpList_load_addr rfl 28 _ rfl (a.add (k * 3)) rfl _ _ HC.out Try.underlying28 rfl (by kernel_rfl) ?_)
      refine name_one (Q := fun X => Code.wp _ _ _ _ X) ?_
      intro W1 hR hB1 hz
      have S1 : Hid (St w W1 ga gb wr.heap.size o i e o i e wh rg v) := Lib.hid (st_new HRG.out HRR.out HB.out LA.out LB.out AB.out hR hB1)
      clear hR hB1 hz HRG HRR HB HC
      generalize wr.heap.size = gx at *
      obtain ⟨x0, x1, x2⟩ := S1.out.xs
      go_upto_if 45 with (fail)
      go_cut [12] (fun _ wx => ∃ (W : World) (o i e : Nat), W = wx ∧ o < 256 ∧ i < 256 ∧ e < 256 ∧ St w W ga gb gx o i e o i e wh rg v)
      case first =>
        by_cases hw : (wh : Int) % 3 < 2
        · have KW := Lib.hid (fun W => H.write o i e rg v W ho hi he (by omega) (by omega) hv1 hv2)
          have KV := Lib.hid (fun W => rWrite_any o i e rg v W ho hi he hv1 hv2)
          have ho1 := outN_lt o rg v ho
          have he1 := edgeN_lt e rg v he
          generalize outN o rg v = o1 at *
          generalize edgeN e rg v = e1 at *
          go_wp2_with (first
           | ((with_reducible show wpList _ _ _ (⟨none, .store 25 (.tmp 8) (.tmp 59), _, _, _, _⟩ :: _) _ _); refine wpList_store_g rfl 25 _ _ rfl gb (by exact rfl) o1 i e1 (by exact rfl) (by kernel_rfl) 25 _ _ _ (S4.out.r) ?_; intro w5 HN HO HB; have S5 := Lib.hid (S4.out.setR HN.out HO.out HB.out); clear x0 x1 x2; obtain ⟨x0, x1, x2⟩ := S5.out.xs; clear HN HO HB S4)
           | (go_at_call 7; refine (KV.out _).mono ?_; rintro x' w4 ⟨rfl, hB⟩; have S4 := Lib.hid (S3.out.under hB); clear x0 x1 x2; obtain ⟨x0, x1, x2⟩ := S4.out.xs; clear hB S3)
           | ((with_reducible show wpList _ _ _ (⟨some 53, .load 25 (.tmp 8), _, _, _, _⟩ :: _) _ _); refine wpList_load_g (by rfl) 25 _ rfl gb (by exact rfl) _ Try.underlying25 (by kernel_rfl) 25 o i e (S3.out.r) ?_)
           | ((with_reducible show wpList _ _ _ (⟨none, .store 24 (.tmp 7) (.tmp 52), _, _, _, _⟩ :: _) _ _); refine wpList_store_g rfl 24 _ _ rfl ga (by exact rfl) o1 i e1 (by exact rfl) (by kernel_rfl) 24 _ _ _ (S2.out.g) ?_; intro w3 HN HO HB; have S3 := Lib.hid (S2.out.setG HN.out HO.out HB.out); clear x0 x1 x2; obtain ⟨x0, x1, x2⟩ := S3.out.xs; clear HN HO HB S2)
           | (go_at_call 6; refine (KW.out _).mono ?_; rintro x' w2 ⟨rfl, hB⟩; have S2 := Lib.hid (S1.out.under hB); clear x0 x1 x2; obtain ⟨x0, x1, x2⟩ := S2.out.xs; clear hB S1)
           | ((with_reducible show wpList _ _ _ (⟨some 46, .load 24 (.tmp 7), _, _, _, _⟩ :: _) _ _); refine wpList_load_g (by rfl) 24 _ rfl ga (by exact rfl) _ Try.underlying24 (by kernel_rfl) 24 o i e (S1.out.g) ?_))
          go_meet
          case rel => exact ⟨_, o1, i, e1, rfl, ho1, hi, he1, S5.out⟩
        · have hcast := lowN_cast v
          have hlv := lowN_lt v
          generalize lowN v = lv at *
          have hlc : v % 256 = (lv : Int) := hcast.symm
          have hwr : IntKind.u8.wrap v = (lv : Int) := by
            rw [← hlc]
            simp [IntKind.wrap, IntKind.bits, IntKind.signed]
          clear hcast
          have KP := Lib.hid (fun W => H.pins o i e lv W ho hi he hlv)
          have KQ := Lib.hid (fun W => rPins_any o i e lv W ho hi he hlv)
          have KR := Lib.hid (fun W => H.rising i lv W hi hlv)
          have KS := Lib.hid (fun W => rRising_any i lv W hi hlv)
          have hL8 := riseK_len i lv 8
          generalize asksL e (riseK i lv 8) = bq at *
          generalize riseK i lv 8 = L at *
          go_upto_region 11 with (first
           | ((with_reducible show wpList _ _ _ (⟨none, .store 25 (.tmp 13) (.tmp 74), _, _, _, _⟩ :: _) _ _); refine wpList_store_g rfl 25 _ _ rfl w4.heap.size (by exact rfl) o lv e (by exact rfl) (by kernel_rfl) 25 _ _ _ (show GRow _ _ _ 0 0 0 from alloc_at _ _) ?_; intro w5 HN HO HB; have hB : Below w4.heap.size w4 w5 := ((Below.refl _ _).alloc (Nat.le_refl _) _).trans HB.out; have S5 := Lib.hid (S4.out.under hB); have RA5 := Lib.hid (RA4.out.below hB RA4.out.lt); have RB5 := HN; have NE : Hid (w4.heap.size ≠ ga) := Lib.hid (Nat.ne_of_gt S4.out.g.lt); clear x0 x1 x2; obtain ⟨x0, x1, x2⟩ := S5.out.xs; clear HO HB S4 RA4 hB)
           | (go_at_call 9; refine (KQ.out _).mono ?_; rintro x' w4 ⟨rfl, hB⟩; have S4 := Lib.hid (S3.out.under hB); have RA4 := Lib.hid (RA.out.below hB RA.out.lt); clear x0 x1 x2; obtain ⟨x0, x1, x2⟩ := S4.out.xs; clear hB S3 RA)
           | ((with_reducible show wpList _ _ _ (⟨some 69, .load 25 (.tmp 8), _, _, _, _⟩ :: _) _ _); refine wpList_load_g (by rfl) 25 _ rfl gb (by exact rfl) _ Try.underlying25 (by kernel_rfl) 25 o i e (S3.out.r) ?_)
           | ((with_reducible show wpList _ _ _ (⟨none, .store 24 (.tmp 11) (.tmp 66), _, _, _, _⟩ :: _) _ _); refine wpList_store_g rfl 24 _ _ rfl w2.heap.size (by exact rfl) o lv e (by exact rfl) (by kernel_rfl) 24 _ _ _ (show GRow _ _ _ 0 0 0 from alloc_at _ _) ?_; intro w3 HN HO HB; have hB : Below w2.heap.size w2 w3 := ((Below.refl _ _).alloc (Nat.le_refl _) _).trans HB.out; have S3 := Lib.hid (S2.out.under hB); have RA := HN; clear x0 x1 x2; obtain ⟨x0, x1, x2⟩ := S3.out.xs; clear HO HB S2 hB)
           | (go_at_call 8; refine (KP.out _).mono ?_; rintro x' w2 ⟨rfl, hB⟩; have S2 := Lib.hid (S1.out.under hB); clear x0 x1 x2; obtain ⟨x0, x1, x2⟩ := S2.out.xs; clear hB S1)
           | ((with_reducible show wpList _ _ _ (⟨some 61, .load 24 (.tmp 7), _, _, _, _⟩ :: _) _ _); refine wpList_load_g (by rfl) 24 _ rfl ga (by exact rfl) _ Try.underlying24 (by kernel_rfl) 24 o i e (S1.out.g) ?_))
          refine wp_region_noPanic ?_
          refine wp_region_held_drew (S := fun Z => Below w5.heap.size w5 Z) (by kernel_rfl) ((Below.refl _ w5).drew) (fun hHeld => ?_)
          refine' take_ 0 rfl (by kernel_rfl) (by kernel_rfl) (by kernel_rfl) (fun _ _ _ h => h) (by rfl) (fun wS hSw => ?_) hHeld ?_
          rotate_left
          focus (go_simp; (try rw [hwr]); (try with_reducible rfl); done)
          try simp only [Act.put, List.setIfInBounds_toArray, List.set_cons_zero, List.set_cons_succ]
          refine' take_ 1 rfl (by kernel_rfl) (by kernel_rfl) (by kernel_rfl) (fun _ _ _ h => h) (by rfl) (fun wS hSw => ?_) hHeld ?_
          rotate_left
          focus (go_simp; (try rw [hwr]); (try with_reducible rfl); done)
          try simp only [Act.put, List.setIfInBounds_toArray, List.set_cons_zero, List.set_cons_succ]
          refine' take_ 2 rfl (by kernel_rfl) (by kernel_rfl) (by kernel_rfl) (fun _ _ _ h => h) (by rfl) (fun wS hSw => ?_) hHeld ?_
          rotate_left
          focus (go_simp; (try rw [hwr]); (try with_reducible rfl); done)
          try simp only [Act.put, List.setIfInBounds_toArray, List.set_cons_zero, List.set_cons_succ]
          refine' take_ 3 rfl (by kernel_rfl) (by kernel_rfl) (by kernel_rfl) (fun _ _ _ h => h) (by rfl) (fun wS hSw => ?_) hHeld ?_
          rotate_left
          focus (go_simp; (try rw [hwr]); (try with_reducible rfl); done)
          try simp only [Act.put, List.setIfInBounds_toArray, List.set_cons_zero, List.set_cons_succ]
          refine' take_ 4 rfl (by kernel_rfl) (by kernel_rfl) (by kernel_rfl) (fun _ _ _ h => h) (by rfl) (fun wS hSw => ?_) hHeld ?_
          rotate_left
          focus (go_simp; (try rw [hwr]); (try with_reducible rfl); done)
          try simp only [Act.put, List.setIfInBounds_toArray, List.set_cons_zero, List.set_cons_succ]
          refine' take_ 5 rfl (by kernel_rfl) (by kernel_rfl) (by kernel_rfl) (fun _ _ _ h => h) (by rfl) (fun wS hSw => ?_) hHeld ?_
          rotate_left
          focus (obtain ⟨q0, q1, q2⟩ := (S5.out.under hSw).g.three; go_simp; (try rw [hwr]); (try with_reducible rfl); done)
          try simp only [Act.put, List.setIfInBounds_toArray, List.set_cons_zero, List.set_cons_succ]
          refine' take_ 6 rfl (by kernel_rfl) (by kernel_rfl) (by kernel_rfl) (fun _ _ _ h => h) (by rfl) (fun wS hSw => ?_) hHeld ?_
          rotate_left
          focus (go_simp; (try rw [hwr]); (try with_reducible rfl); done)
          try simp only [Act.put, List.setIfInBounds_toArray, List.set_cons_zero, List.set_cons_succ]
          refine' take_ 7 rfl (by kernel_rfl) (by kernel_rfl) (by kernel_rfl) (fun _ _ _ h => h) (by rfl) (fun wS hSw => ?_) hHeld ?_
          rotate_left
          focus (obtain ⟨q0, q1, q2⟩ := (S5.out.under hSw).xs; go_simp; (try rw [hwr]); (try with_reducible rfl); done)
          try simp only [Act.put, List.setIfInBounds_toArray, List.set_cons_zero, List.set_cons_succ]
          refine' take_ 8 rfl (by kernel_rfl) (by kernel_rfl) (by kernel_rfl) (fun _ _ _ h => h) (by rfl) (fun wS hSw => ?_) hHeld ?_
          rotate_left
          focus (go_simp; (try rw [hwr]); (try with_reducible rfl); done)
          try simp only [Act.put, List.setIfInBounds_toArray, List.set_cons_zero, List.set_cons_succ]
          refine' take_ 10 rfl (by kernel_rfl) (by kernel_rfl) (by kernel_rfl) (fun _ _ _ h => h) (by rfl) (fun wS hSw => ?_) hHeld ?_
          rotate_left
          focus (go_simp; (try rw [hwr]); (try with_reducible rfl); done)
          try simp only [Act.put, List.setIfInBounds_toArray, List.set_cons_zero, List.set_cons_succ]
          refine' take_ 11 rfl (by kernel_rfl) (by kernel_rfl) (by kernel_rfl) (fun _ _ _ h => h) (by rfl) (fun wS hSw => ?_) hHeld ?_
          rotate_left
          focus (obtain ⟨q0, q1, q2⟩ := (S5.out.under hSw).r.three; go_simp; (try rw [hwr]); (try with_reducible rfl); done)
          try simp only [Act.put, List.setIfInBounds_toArray, List.set_cons_zero, List.set_cons_succ]
          refine' take_ 12 rfl (by kernel_rfl) (by kernel_rfl) (by kernel_rfl) (fun _ _ _ h => h) (by rfl) (fun wS hSw => ?_) hHeld ?_
          rotate_left
          focus (go_simp; (try rw [hwr]); (try with_reducible rfl); done)
          try simp only [Act.put, List.setIfInBounds_toArray, List.set_cons_zero, List.set_cons_succ]
          refine' take_ 13 rfl (by kernel_rfl) (by kernel_rfl) (by kernel_rfl) (fun _ _ _ h => h) (by rfl) (fun wS hSw => ?_) hHeld ?_
          rotate_left
          focus (obtain ⟨q0, q1, q2⟩ := (S5.out.under hSw).xs; go_simp; (try rw [hwr]); (try with_reducible rfl); done)
          try simp only [Act.put, List.setIfInBounds_toArray, List.set_cons_zero, List.set_cons_succ]
          refine' take_ 14 rfl (by kernel_rfl) (by kernel_rfl) (by kernel_rfl) (fun _ _ _ h => h) (by rfl) (fun wS hSw => ?_) hHeld ?_
          rotate_left
          focus (go_simp; (try rw [hwr]); (try with_reducible rfl); done)
          try simp only [Act.put, List.setIfInBounds_toArray, List.set_cons_zero, List.set_cons_succ]
          refine only_ 9 rfl (by kernel_rfl) (by rfl) (fun K hK => ?_)
          go_simp
          (with_reducible refine (KR.out _).mono ?_)
          rintro x' wl ⟨v1, rfl, hv1', hBn⟩
          obtain ⟨A1, c1, rfl, hd1⟩ := hv1'.rd
          go_simp
          refine hK.out _ _ (hHeld.trans (hBn.mono hHeld.size)) (fun hHeld2 => ?_)
          clear hK K hHeld
          have hHeld := hHeld2
          clear hHeld2
          try simp only [Act.put, List.setIfInBounds_toArray, List.set_cons_zero, List.set_cons_succ]
          clear hBn hv1'
          refine only_ 15 rfl (by kernel_rfl) (by rfl) (fun K hK => ?_)
          go_simp
          (with_reducible refine (KS.out _).mono ?_)
          rintro x' wm ⟨v2, rfl, hv2', hBm⟩
          obtain ⟨A2, c2, rfl, hd2⟩ := hv2'.rd
          go_simp
          refine hK.out _ _ (hHeld.trans (hBm.mono hHeld.size)) (fun hHeld2 => ?_)
          clear hK K hHeld
          have hHeld := hHeld2
          clear hHeld2
          try simp only [Act.put, List.setIfInBounds_toArray, List.set_cons_zero, List.set_cons_succ]
          refine only_ 16 rfl (by kernel_rfl) (by rfl) (fun K hK => ?_)
          go_simp
          refine (ints_same A1 A2 c1 c2 L _ (hd1.below hBm) hd2 (by omega)).mono ?_
          rintro x' wn ⟨rfl, hBn⟩
          go_simp
          refine hK.out _ _ (hHeld.trans (hBn.mono hHeld.size)) (fun hHeld2 => ?_)
          clear hK K hHeld
          have hHeld := hHeld2
          clear hHeld2
          try simp only [Act.put, List.setIfInBounds_toArray, List.set_cons_zero, List.set_cons_succ]
          refine' take_ 17 rfl (by kernel_rfl) (by kernel_rfl) (by kernel_rfl) (fun _ _ _ h => h) (by rfl) (fun wS hSw => ?_) hHeld ?_
          rotate_left
          focus (go_simp; (try rw [hwr]); (try with_reducible rfl); done)
          try simp only [Act.put, List.setIfInBounds_toArray, List.set_cons_zero, List.set_cons_succ]
          refine' take_ 18 rfl (by kernel_rfl) (by kernel_rfl) (by kernel_rfl) (fun _ _ _ h => h) (by rfl) (fun wS hSw => ?_) hHeld ?_
          rotate_left
          focus (go_simp; (try rw [hwr]); (try with_reducible rfl); done)
          try simp only [Act.put, List.setIfInBounds_toArray, List.set_cons_zero, List.set_cons_succ]
          refine wpAnyH_done (by kernel_rfl) ?_ _
          refine NoPanic.normal ?_
          rename_i wz
          have S6 := Lib.hid (S5.out.under hHeld)
          have RA6 := Lib.hid (RA5.out.below hHeld RA5.out.lt)
          have RB6 := Lib.hid (RB5.out.below hHeld RB5.out.lt)
          clear hHeld S5 RA5 RB5
          go_wp2_with (first
           | ((with_reducible show wpList _ _ _ (⟨none, .store 25 (.tmp 8) (.tmp 96), _, _, _, _⟩ :: _) _ _); refine wpList_store_g rfl 25 _ _ rfl gb (by exact rfl) o lv e (by exact rfl) (by kernel_rfl) 25 _ _ _ (S7.out.r) ?_; intro w8 HN HO HB; have S8 := Lib.hid (S7.out.setR HN.out HO.out HB.out); clear HN HO HB S7)
           | ((with_reducible show wpList _ _ _ (⟨some 96, .load 25 (.tmp 13), _, _, _, _⟩ :: _) _ _); refine wpList_load_g (by rfl) 25 _ rfl w4.heap.size (by exact rfl) _ Try.underlying25 (by kernel_rfl) 25 o lv e (RB7.out) ?_)
           | ((with_reducible show wpList _ _ _ (⟨none, .store 24 (.tmp 7) (.tmp 95), _, _, _, _⟩ :: _) _ _); refine wpList_store_g rfl 24 _ _ rfl ga (by exact rfl) o lv e (by exact rfl) (by kernel_rfl) 24 _ _ _ (S6.out.g) ?_; intro w7 HN HO HB; have S7 := Lib.hid (S6.out.setG HN.out HO.out HB.out); have RB7 : Hid (GRow w7 w4.heap.size 25 o lv e) := Lib.hid ((HO.out _ NE.out).trans RB6.out); clear HN HO HB S6 RB6)
           | ((with_reducible show wpList _ _ _ (⟨some 95, .load 24 (.tmp 11), _, _, _, _⟩ :: _) _ _); refine wpList_load_g (by rfl) 24 _ rfl w2.heap.size (by exact rfl) _ Try.underlying24 (by kernel_rfl) 24 o lv e (RA6.out) ?_))
          go_meet
          case rel => exact ⟨_, o, lv, e, rfl, ho, hlv, he, S8.out⟩
      case rest =>
        obtain ⟨W2, o, i, e, rfl, ho, hi, he, hs⟩ := hcut
        have S2 := Lib.hid hs
        clear hs S1 x0 x1 x2
        obtain ⟨g0, g1, g2⟩ := S2.out.g.three
        obtain ⟨r0, r1, r2⟩ := S2.out.r.three
        obtain ⟨x0, x1, x2⟩ := S2.out.xs
        go_upto_region 17 with (fail)

        go_wp2_with (fail)
        go_loopw [15] (fun mv wq => ∃ m : Int, -1 ≤ m ∧ m ≤ 16 ∧ mv = .int .i64 m ∧ Below W2.heap.size W2 wq) (fun mv _ => (16 - intOf mv).toNat)
        case atStart => exact ⟨-1, by omega, by omega, rfl, Below.refl _ _⟩
        case round =>
          obtain ⟨m, hm1, hm2, rfl, hbq⟩ := hrel
          have SQ := Lib.hid (S2.out.under hbq)
          have HBQ := Lib.hid hbq
          clear hbq g0 g1 g2 r0 r1 r2 x0 x1 x2
          by_cases hmm : m < 16
          · have KM := Lib.hid (fun W => H.peek o i e m W ho hi he (by omega) (by omega))
            have KN := Lib.hid (fun W => rPeek_any o i e m W ho hi he)
            generalize peekN o i e m = z at *
            go_upto_region 20 with (fail)
            refine wp_region_noPanic ?_
            refine wp_region_held_drew (S := fun Z => Below wr.heap.size wr Z) (by kernel_rfl) ((Below.refl _ wr).drew) (fun hHeld => ?_)
            refine' take_ 0 rfl (by kernel_rfl) (by kernel_rfl) (by kernel_rfl) (fun _ _ _ h => h) (by rfl) (fun wS hSw => run_load_g wS 24 _ ga rfl _ Try.underlying24 (by kernel_rfl) _ _ _ _ ((SQ.out.under hSw).g) _ _ _ _ _) hHeld ?_
            try simp only [Act.put, List.setIfInBounds_toArray, List.set_cons_zero, List.set_cons_succ]
            refine' take_ 1 rfl (by kernel_rfl) (by kernel_rfl) (by kernel_rfl) (fun _ _ _ h => h) (by rfl) (fun wS hSw => ?_) hHeld ?_
            rotate_left
            focus (go_simp; (try with_reducible rfl); done)
            try simp only [Act.put, List.setIfInBounds_toArray, List.set_cons_zero, List.set_cons_succ]
            refine' take_ 3 rfl (by kernel_rfl) (by kernel_rfl) (by kernel_rfl) (fun _ _ _ h => h) (by rfl) (fun wS hSw => run_load_g wS 25 _ gb rfl _ Try.underlying25 (by kernel_rfl) _ _ _ _ ((SQ.out.under hSw).r) _ _ _ _ _) hHeld ?_
            try simp only [Act.put, List.setIfInBounds_toArray, List.set_cons_zero, List.set_cons_succ]
            refine' take_ 4 rfl (by kernel_rfl) (by kernel_rfl) (by kernel_rfl) (fun _ _ _ h => h) (by rfl) (fun wS hSw => ?_) hHeld ?_
            rotate_left
            focus (go_simp; (try with_reducible rfl); done)
            try simp only [Act.put, List.setIfInBounds_toArray, List.set_cons_zero, List.set_cons_succ]
            refine only_ 2 rfl (by kernel_rfl) (by rfl) (fun K hK => ?_)
            go_simp
            (with_reducible refine (KM.out _).mono ?_)
            rintro x' wl ⟨rfl, hBn⟩
            go_simp
            refine hK.out _ _ (hHeld.trans (hBn.mono hHeld.size)) (fun hHeld2 => ?_)
            clear hK K hHeld
            have hHeld := hHeld2
            clear hHeld2
            try simp only [Act.put, List.setIfInBounds_toArray, List.set_cons_zero, List.set_cons_succ]
            clear hBn
            refine only_ 5 rfl (by kernel_rfl) (by rfl) (fun K hK => ?_)
            go_simp
            (with_reducible refine (KN.out _).mono ?_)
            rintro x' wm ⟨rfl, hBn⟩
            go_simp
            refine hK.out _ _ (hHeld.trans (hBn.mono hHeld.size)) (fun hHeld2 => ?_)
            clear hK K hHeld
            have hHeld := hHeld2
            clear hHeld2
            try simp only [Act.put, List.setIfInBounds_toArray, List.set_cons_zero, List.set_cons_succ]
            clear hBn
            refine' take_ 6 rfl (by kernel_rfl) (by kernel_rfl) (by kernel_rfl) (fun _ _ _ h => h) (by rfl) (fun wS hSw => ?_) hHeld ?_
            rotate_left
            focus (go_simp; (try with_reducible rfl); done)
            try simp only [Act.put, List.setIfInBounds_toArray, List.set_cons_zero, List.set_cons_succ]
            refine wpAnyH_done (by kernel_rfl) ?_ _
            refine NoPanic.normal ?_
            go_wp2_with (fail)
            go_roundw
            case rel => exact ⟨m + 1, by omega, by omega, by go_num, HBQ.out.trans (hHeld.mono HBQ.out.size)⟩
            case measure =>
              simp [intOf]
              omega
          · obtain rfl : m = 16 := by omega
            have KM := Lib.hid (fun W => H.peek o i e rg W ho hi he (by omega) (by omega))
            have KN := Lib.hid (fun W => rPeek_any o i e rg W ho hi he)
            generalize peekN o i e rg = z at *
            have hwg : IntKind.i64.wrap rg = rg := IntWalk.i64_in _ (by omega)
            go_upto_region 22 with (fail)
            refine wp_region_noPanic ?_
            refine wp_region_held_drew (S := fun Z => Below wr.heap.size wr Z) (by kernel_rfl) ((Below.refl _ wr).drew) (fun hHeld => ?_)
            refine' take_ 0 rfl (by kernel_rfl) (by kernel_rfl) (by kernel_rfl) (fun _ _ _ h => h) (by rfl) (fun wS hSw => run_load_g wS 24 _ ga rfl _ Try.underlying24 (by kernel_rfl) _ _ _ _ ((SQ.out.under hSw).g) _ _ _ _ _) hHeld ?_
            try simp only [Act.put, List.setIfInBounds_toArray, List.set_cons_zero, List.set_cons_succ]
            refine' take_ 1 rfl (by kernel_rfl) (by kernel_rfl) (by kernel_rfl) (fun _ _ _ h => h) (by rfl) (fun wS hSw => ?_) hHeld ?_
            rotate_left
            focus (go_simp; (try with_reducible rfl); done)
            try simp only [Act.put, List.setIfInBounds_toArray, List.set_cons_zero, List.set_cons_succ]
            refine' take_ 2 rfl (by kernel_rfl) (by kernel_rfl) (by kernel_rfl) (fun _ _ _ h => h) (by rfl) (fun wS hSw => ?_) hHeld ?_
            rotate_left
            focus (obtain ⟨q0, q1, q2⟩ := (SQ.out.under hSw).xs; go_simp; (try with_reducible rfl); done)
            try simp only [Act.put, List.setIfInBounds_toArray, List.set_cons_zero, List.set_cons_succ]
            refine' take_ 3 rfl (by kernel_rfl) (by kernel_rfl) (by kernel_rfl) (fun _ _ _ h => h) (by rfl) (fun wS hSw => ?_) hHeld ?_
            rotate_left
            focus (go_simp; (try rw [hwg]); (try with_reducible rfl); done)
            try simp only [Act.put, List.setIfInBounds_toArray, List.set_cons_zero, List.set_cons_succ]
            refine' take_ 5 rfl (by kernel_rfl) (by kernel_rfl) (by kernel_rfl) (fun _ _ _ h => h) (by rfl) (fun wS hSw => run_load_g wS 25 _ gb rfl _ Try.underlying25 (by kernel_rfl) _ _ _ _ ((SQ.out.under hSw).r) _ _ _ _ _) hHeld ?_
            try simp only [Act.put, List.setIfInBounds_toArray, List.set_cons_zero, List.set_cons_succ]
            refine' take_ 6 rfl (by kernel_rfl) (by kernel_rfl) (by kernel_rfl) (fun _ _ _ h => h) (by rfl) (fun wS hSw => ?_) hHeld ?_
            rotate_left
            focus (go_simp; (try with_reducible rfl); done)
            try simp only [Act.put, List.setIfInBounds_toArray, List.set_cons_zero, List.set_cons_succ]
            refine' take_ 7 rfl (by kernel_rfl) (by kernel_rfl) (by kernel_rfl) (fun _ _ _ h => h) (by rfl) (fun wS hSw => ?_) hHeld ?_
            rotate_left
            focus (obtain ⟨q0, q1, q2⟩ := (SQ.out.under hSw).xs; go_simp; (try with_reducible rfl); done)
            try simp only [Act.put, List.setIfInBounds_toArray, List.set_cons_zero, List.set_cons_succ]
            refine' take_ 8 rfl (by kernel_rfl) (by kernel_rfl) (by kernel_rfl) (fun _ _ _ h => h) (by rfl) (fun wS hSw => ?_) hHeld ?_
            rotate_left
            focus (go_simp; (try rw [hwg]); (try with_reducible rfl); done)
            try simp only [Act.put, List.setIfInBounds_toArray, List.set_cons_zero, List.set_cons_succ]
            refine only_ 4 rfl (by kernel_rfl) (by rfl) (fun K hK => ?_)
            go_simp
            (with_reducible refine (KM.out _).mono ?_)
            rintro x' wl ⟨rfl, hBn⟩
            go_simp
            refine hK.out _ _ (hHeld.trans (hBn.mono hHeld.size)) (fun hHeld2 => ?_)
            clear hK K hHeld
            have hHeld := hHeld2
            clear hHeld2
            try simp only [Act.put, List.setIfInBounds_toArray, List.set_cons_zero, List.set_cons_succ]
            clear hBn
            refine only_ 9 rfl (by kernel_rfl) (by rfl) (fun K hK => ?_)
            go_simp
            (with_reducible refine (KN.out _).mono ?_)
            rintro x' wm ⟨rfl, hBn⟩
            go_simp
            refine hK.out _ _ (hHeld.trans (hBn.mono hHeld.size)) (fun hHeld2 => ?_)
            clear hK K hHeld
            have hHeld := hHeld2
            clear hHeld2
            try simp only [Act.put, List.setIfInBounds_toArray, List.set_cons_zero, List.set_cons_succ]
            clear hBn
            refine' take_ 10 rfl (by kernel_rfl) (by kernel_rfl) (by kernel_rfl) (fun _ _ _ h => h) (by rfl) (fun wS hSw => ?_) hHeld ?_
            rotate_left
            focus (go_simp; (try with_reducible rfl); done)
            try simp only [Act.put, List.setIfInBounds_toArray, List.set_cons_zero, List.set_cons_succ]
            refine wpAnyH_done (by kernel_rfl) ?_ _
            refine NoPanic.normal ?_
            go_wp2_with (fail)
            go_roundw
            case rel => exact ⟨k + 1, o, i, e, by omega, by omega, by go_num, ho, hi, he, (SQ.out.under hHeld).g, (SQ.out.under hHeld).r, (SQ.out.under hHeld).b⟩
            case measure =>
              simp [intOf]
              omega
    · have stop : ¬ (k : Int) < (len : Int) ∨ (k : Int) < (len : Int) ∧ ¬ (k : Int) < 100 := by omega
      clear hlt
      rcases stop with d1 | ⟨d1, d2⟩
      · go_wp2_with (go_at_call 15; refine (works_any H _).mono ?_; rintro x' w2 ⟨rfl, hB⟩; have HB2 := Lib.hid hB; clear hB)
        go_ret
        exact ⟨rfl, HB.out.trans (HB2.out.mono HB.out.size)⟩
      · go_wp2_with (go_at_call 15; refine (works_any H _).mono ?_; rintro x' w2 ⟨rfl, hB⟩; have HB2 := Lib.hid hB; clear hB)
        go_ret
        exact ⟨rfl, HB.out.trans (HB2.out.mono HB.out.size)⟩
end Go.Proofs.Yticeeeomhdcffaa
