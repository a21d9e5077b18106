/-
  TimerPlays' walk, if the program's functions are what they must be: true. Made by wip/gentimerplays.py.
-/
import Derived.Test.YtgibindoblhkeaaWorks
import Derived.Laws.BitsAllLaws
import Derived.Deep.DeepCutAuto
import Derived.Deep.CutBlock
namespace Go.Proofs.Ytgibindoblhkeaa
open Go.RowKit
set_option linter.unusedVariables false
structure Ax where
  wh : Nat
  rg : Int
  v : Int
def xc (x : Ax) : List Value := [.int .u8 (x.wh : Int), .int .i8 x.rg, .int .i32 x.v]
def ARow (w : World) (g : Nat) (ty : TypeId) (x : Ax) : Prop := VRow w g ty (xc x)
section
variable {w w' : World} {B g : Nat} {ty : TypeId} {x : Ax}
theorem ARow.below (h : ARow w g ty x) (hb : Below B w w') (hg : g < B) : ARow w' g ty x := VRow.below h hb hg
theorem ARow.lt (h : ARow w g ty x) : g < w.heap.size := VRow.lt h
theorem ARow.other (h : ARow w g ty x) {r : Nat} (ho : ∀ j, j ≠ r → w'.heap[j]? = w.heap[j]?) (hr : g ≠ r) : ARow w' g ty x := (ho g hr).trans h
theorem ARow.c0 (h : ARow w g ty x) : w.cell? ⟨g, 0, none⟩ = some (.int .u8 (x.wh : Int)) := VRow.cell h 0 _ rfl
theorem ARow.c1 (h : ARow w g ty x) : w.cell? ⟨g, 1, none⟩ = some (.int .i8 x.rg) := VRow.cell h 1 _ rfl
theorem ARow.c2 (h : ARow w g ty x) : w.cell? ⟨g, 2, none⟩ = some (.int .i32 x.v) := VRow.cell h 2 _ rfl
end
/-- Acts, as they lie in memory. -/
def ActsIn (w : World) (A : Option Addr) (len : Nat) : Prop := ∀ j, j < len → ∃ a, A = some a ∧ a.block < w.heap.size ∧ ∃ x : Ax, x.wh < 256 ∧ -128 ≤ x.rg ∧ x.rg ≤ 127 ∧ -2147483648 ≤ x.v ∧ x.v ≤ 2147483647 ∧ CellsA w (a.add (j * 3)) (xc x)
theorem xor16 (a b : Nat) (ha : a < 65536) (hb : b < 65536) : a ^^^ b < 65536 := Nat.xor_lt_two_pow (n := 16) ha hb
set_option maxHeartbeats 16000000 in
set_option maxRecDepth 100000 in
theorem plays_walk (H : TimerOk) (a0 b0 : Nat) (A : Option Addr) (len cap : Nat) (w : World) (ha : a0 < 65536) (hb : b0 < 65536) (hlen : len ≤ 9223372036854775807) (hA : ActsIn w A len) :
    Calls Try.prog 3 #[.int .u16 a0, .int .u16 b0, .slice A len cap] w fun e w' => e = .returned (.bool true) ∧ Below w.heap.size w w' := by
  have hx := u16_xor_nat a0 b0 ha hb
  have hxl := xor16 a0 b0 ha hb
  generalize a0 ^^^ b0 = c0 at *
  obtain ⟨t, ht⟩ : ∃ t, Tm.mk a0 b0 c0 = t := ⟨_, rfl⟩
  have hok : t.ok := by rw [← ht]; exact ⟨ha, hb, hxl⟩
  have KN := Lib.hid (fun W => H.next t W hok)
  have KM := Lib.hid (fun W => rNextT_any t W hok)
  have KW := Lib.hid (works_any H)
  have HA := Lib.hid hA
  have HT := Lib.hid ht
  have HOK := Lib.hid hok
  clear hA hok ht
  go_enter Try.func3, Try.ntmps3
  go_upto_region 2 with (fail)
  refine name_two (Q := fun X => Code.wp _ _ _ _ X) ?_
  intro W0 hq1 hq2 hB0
  have RT_W0 : Hid (TRow W0 w.heap.size 25 t) := Lib.hid (by rw [← HT.out]; exact hq1)
  have RR_W0 : Hid (TRow W0 (w.heap.size + 1) 26 t) := Lib.hid (by rw [← HT.out]; exact hq2)
  have BB_W0 : Hid (Below w.heap.size w W0) := Lib.hid hB0
  clear hq1 hq2 hB0 hx hxl ha hb
  obtain ⟨gt, hgt⟩ : ∃ g, w.heap.size = g := ⟨_, rfl⟩
  obtain ⟨gr, hgr⟩ : ∃ g, w.heap.size + 1 = g := ⟨_, rfl⟩
  have LE_RT : Hid (w.heap.size ≤ gt) := Lib.hid (by omega)
  have LE_RR : Hid (w.heap.size ≤ gr) := Lib.hid (by omega)
  have NE_RT_RR : Hid (gt ≠ gr) := Lib.hid (by omega)
  have NE_RR_RT : Hid (gr ≠ gt) := Lib.hid (by omega)
  rw [hgr] at RR_W0 ⊢
  rw [hgt] at RT_W0 ⊢
  clear hgr hgt
  refine wp_region_noPanic ?_
  refine wp_region_held_drew (S := fun X => Below W0.heap.size W0 X) (by kernel_rfl) ((Below.refl _ W0).drew) (fun hHeld => ?_)
  refine' take_ 0 rfl (by kernel_rfl) (by kernel_rfl) (by kernel_rfl) (fun _ _ _ h => h) (by rfl) (fun wS hSw => run_load_t wS 25 _ gt rfl _ Try.underlying25 (by kernel_rfl) 25 (RT_W0.out.below hSw RT_W0.out.lt) _ _ _ _ _) hHeld ?_
  try simp only [Act.put, List.setIfInBounds_toArray, List.set_cons_zero, List.set_cons_succ]
  refine' take_ 2 rfl (by kernel_rfl) (by kernel_rfl) (by kernel_rfl) (fun _ _ _ h => h) (by rfl) (fun wS hSw => run_load_t wS 26 _ gr rfl _ Try.underlying26 (by kernel_rfl) 26 (RR_W0.out.below hSw RR_W0.out.lt) _ _ _ _ _) hHeld ?_
  try simp only [Act.put, List.setIfInBounds_toArray, List.set_cons_zero, List.set_cons_succ]
  refine only_ 1 rfl (by kernel_rfl) (by rfl) (fun K hK => ?_)
  go_simp
  (with_reducible refine (KN.out _).mono ?_)
  rintro e wn ⟨rfl, hBn⟩
  go_simp
  refine hK.out _ _ (hHeld.trans (hBn.mono hHeld.size)) (fun hHeld2 => ?_)
  clear hK K hHeld
  have hHeld := hHeld2
  clear hHeld2
  try simp only [Act.put, List.setIfInBounds_toArray, List.set_cons_zero, List.set_cons_succ]
  clear hBn
  refine only_ 3 rfl (by kernel_rfl) (by rfl) (fun K hK => ?_)
  go_simp
  (with_reducible refine (KM.out _).mono ?_)
  rintro e wn ⟨rfl, hBn⟩
  go_simp
  refine hK.out _ _ (hHeld.trans (hBn.mono hHeld.size)) (fun hHeld2 => ?_)
  clear hK K hHeld
  have hHeld := hHeld2
  clear hHeld2
  try simp only [Act.put, List.setIfInBounds_toArray, List.set_cons_zero, List.set_cons_succ]
  clear hBn
  refine' take_ 4 rfl (by kernel_rfl) (by kernel_rfl) (by kernel_rfl) (fun _ _ _ h => h) (by rfl) (fun wS hSw => ?_) hHeld ?_
  rotate_left
  focus (go_simp; (try with_reducible rfl); done)
  try simp only [Act.put, List.setIfInBounds_toArray, List.set_cons_zero, List.set_cons_succ]
  refine wpAnyH_done (by kernel_rfl) ?_ _
  refine NoPanic.normal ?_
  have RT_0 := Lib.hid (RT_W0.out.below hHeld RT_W0.out.lt)
  have RR_0 := Lib.hid (RR_W0.out.below hHeld RR_W0.out.lt)
  have BB_0 := Lib.hid (BB_W0.out.trans (hHeld.mono BB_W0.out.size))
  clear hHeld RT_W0 RR_W0 BB_W0 KN KM
  go_wp2_with fail
  go_loopw [9] (fun iv wr => ∃ (k : Nat) (t : Tm), k ≤ len ∧ k ≤ 60 ∧ iv = .int .i64 k ∧ t.ok ∧ TRow wr gt 25 t ∧ TRow wr gr 26 t ∧ Below w.heap.size w wr) (fun iv _ => 60 - (intOf iv).toNat)
  case atStart => exact ⟨0, t, by omega, by omega, rfl, HOK.out, RT_0.out, RR_0.out, BB_0.out⟩
  case round =>
    clear RT_0 RR_0 BB_0 HOK HT
    obtain ⟨k, t, hk, hk2, rfl, hok, h1, h2, h3⟩ := hrel
    have HOK := Lib.hid hok
    have RT_wr := Lib.hid h1
    have RR_wr := Lib.hid h2
    have BB_wr := Lib.hid h3
    clear h1 h2 h3 hok
    by_cases hlt : k < len ∧ k < 60
    · obtain ⟨hlt1, hlt2⟩ := hlt
      obtain ⟨a, rfl, hab, x, hwh, hr1, hr2, hv1, hv2, hc⟩ := HA.out k hlt1
      have HC : Hid (CellsA wr (a.add (k * 3)) [.int .u8 (x.wh : Int), .int .i8 x.rg, .int .i32 x.v]) := Lib.hid (hc.below BB_wr.out (by rw [add_block]; exact hab))
      clear hc hab
      have d1 : (k : Int) < (len : Int) := by omega
      have d2 : (k : Int) < 60 := by omega
      go_upto_block 2 with (refine wpList_load_addr rfl 31 _ rfl (a.add (k * 3)) rfl _ _ HC.out Try.underlying31 rfl (by kernel_rfl) ?_)
      refine name_one (Q := fun X => Code.wp _ _ _ _ X) ?_
      intro W1 hq hB1 hz
      have RX_wa : Hid (ARow W1 wr.heap.size 31 x) := Lib.hid hq
      have RT_wa := Lib.hid (RT_wr.out.below hB1 RT_wr.out.lt)
      have RR_wa := Lib.hid (RR_wr.out.below hB1 RR_wr.out.lt)
      have BB_wa := Lib.hid (BB_wr.out.trans (hB1.mono BB_wr.out.size))
      have NE_RX_RT := Lib.hid (Nat.ne_of_gt RT_wr.out.lt)
      have NE_RX_RR := Lib.hid (Nat.ne_of_gt RR_wr.out.lt)
      clear hq hB1 hz RT_wr RR_wr BB_wr HC
      generalize wr.heap.size = gx at *
      have z0 := RX_wa.out.c0
      have z1 := RX_wa.out.c1
      have z2 := RX_wa.out.c2
      obtain ⟨mm, hm, hm6⟩ : ∃ m : Nat, (x.wh : Int) % 6 = (m : Int) ∧ m < 6 := ⟨x.wh % 6, by omega, by omega⟩
      have HV := Lib.hid (And.intro hv1 hv2)
      have HR := Lib.hid (And.intro hr1 hr2)
      go_cut [11] (fun _ wx => ∃ (Wc : World) (t : Tm), Wc = wx ∧ t.ok ∧ TRow Wc gt 25 t ∧ TRow Wc gr 26 t ∧ Below w.heap.size w Wc)
      case first =>
        by_cases h0 : mm = 0
        · subst h0
          have RT_W1 := RT_wa
          have RR_W1 := RR_wa
          have RX_W1 := RX_wa
          have BB_W1 := BB_wa
          clear RT_wa RR_wa RX_wa BB_wa
          have KU := Lib.hid (fun W => H.write t x.rg x.v W HOK.out (by omega) (by omega) hv1 hv2)
          have KV := Lib.hid (fun W => rWriteT_any t x.rg x.v W HOK.out (by omega) (by omega) hv1 hv2)
          have HO2 := Lib.hid (writeT_ok HOK.out x.rg x.v)
          generalize writeT t x.rg x.v = t2 at *
          go_wp2_with (first
      | ((with_reducible show wpList _ _ _ (⟨none, .store 26 (.tmp 8) (.tmp 91), _, _, _, _⟩ :: _) _ _); refine wpList_store_t rfl 26 _ _ rfl (gr) (by exact rfl) (by exact rfl) (by kernel_rfl) 26 RR_w3.out ?_; intro w4 HN HO HB
         have RT_w4 : Hid (TRow w4 (gt) 25 (t2)) := Lib.hid (TRow.other RT_w3.out HO.out (NE_RT_RR.out))
         have RX_w4 : Hid (ARow w4 (gx) 31 (x)) := Lib.hid (ARow.other RX_w3.out HO.out (NE_RX_RR.out))
         have RR_w4 : Hid (TRow w4 (gr) 26 (t2)) := HN
         have BB_w4 : Hid (Below w.heap.size w w4) := Lib.hid (BB_w3.out.trans (HB.out.mono LE_RR.out))
         clear HO HB HN RT_w3 RR_w3 RX_w3 BB_w3)
      | (go_at_call 10; have hc := BB_w2; clear hc; (with_reducible refine (KV.out _).mono ?_); rintro e w3 ⟨rfl, hB⟩
         have RT_w3 : Hid (TRow w3 (gt) 25 (t2)) := Lib.hid (TRow.below RT_w2.out hB RT_w2.out.lt)
         have RR_w3 : Hid (TRow w3 (gr) 26 (t)) := Lib.hid (TRow.below RR_w2.out hB RR_w2.out.lt)
         have RX_w3 : Hid (ARow w3 (gx) 31 (x)) := Lib.hid (ARow.below RX_w2.out hB RX_w2.out.lt)
         have BB_w3 : Hid (Below w.heap.size w w3) := Lib.hid (BB_w2.out.trans (hB.mono BB_w2.out.size))
         clear hB RT_w2 RR_w2 RX_w2 BB_w2)
      | ((with_reducible show wpList _ _ _ (⟨some 85, .load 26 (.tmp 8), _, _, _, _⟩ :: _) _ _); refine wpList_load_t (by rfl) 26 _ rfl (gr) (by exact rfl) _ Try.underlying26 (by kernel_rfl) 26 RR_w2.out ?_)
      | ((with_reducible show wpList _ _ _ (⟨none, .store 25 (.tmp 7) (.tmp 84), _, _, _, _⟩ :: _) _ _); refine wpList_store_t rfl 25 _ _ rfl (gt) (by exact rfl) (by exact rfl) (by kernel_rfl) 25 RT_w1.out ?_; intro w2 HN HO HB
         have RR_w2 : Hid (TRow w2 (gr) 26 (t)) := Lib.hid (TRow.other RR_w1.out HO.out (NE_RR_RT.out))
         have RX_w2 : Hid (ARow w2 (gx) 31 (x)) := Lib.hid (ARow.other RX_w1.out HO.out (NE_RX_RT.out))
         have RT_w2 : Hid (TRow w2 (gt) 25 (t2)) := HN
         have BB_w2 : Hid (Below w.heap.size w w2) := Lib.hid (BB_w1.out.trans (HB.out.mono LE_RT.out))
         have y1 := RX_w2.out.c1
         have y2 := RX_w2.out.c2
         clear HO HB HN RT_w1 RR_w1 RX_w1 BB_w1)
      | (go_at_call 9; have hc := BB_W1; clear hc; (with_reducible refine (KU.out _).mono ?_); rintro e w1 ⟨rfl, hB⟩
         have RT_w1 : Hid (TRow w1 (gt) 25 (t)) := Lib.hid (TRow.below RT_W1.out hB RT_W1.out.lt)
         have RR_w1 : Hid (TRow w1 (gr) 26 (t)) := Lib.hid (TRow.below RR_W1.out hB RR_W1.out.lt)
         have RX_w1 : Hid (ARow w1 (gx) 31 (x)) := Lib.hid (ARow.below RX_W1.out hB RX_W1.out.lt)
         have BB_w1 : Hid (Below w.heap.size w w1) := Lib.hid (BB_W1.out.trans (hB.mono BB_W1.out.size))
         clear hB RT_W1 RR_W1 RX_W1 BB_W1)
      | ((with_reducible show wpList _ _ _ (⟨some 78, .load 25 (.tmp 7), _, _, _, _⟩ :: _) _ _); refine wpList_load_t (by rfl) 25 _ rfl (gt) (by exact rfl) _ Try.underlying25 (by kernel_rfl) 25 RT_W1.out ?_))
          go_meet
          case rel => exact ⟨_, _, rfl, HO2.out, RT_w4.out, RR_w4.out, BB_w4.out⟩
        have e0 : ((mm : Int) == 0) = false := by simp; omega
        by_cases h5 : mm < 5
        · have d5 : (mm : Int) < 5 := by omega
          have RT_W1 := RT_wa
          have RR_W1 := RR_wa
          have RX_W1 := RX_wa
          have BB_W1 := BB_wa
          clear RT_wa RR_wa RX_wa BB_wa
          have KU := Lib.hid (fun W => H.tick t W HOK.out)
          have KV := Lib.hid (fun W => rTickT_any t W HOK.out)
          have HO2 := Lib.hid (tickT_ok HOK.out)
          generalize tickT t = t2 at *
          generalize asksT t = is at *
          go_wp2_with (first
      | ((with_reducible show wpList _ _ _ (⟨none, .store 26 (.tmp 8) (.tmp 111), _, _, _, _⟩ :: _) _ _); refine wpList_store_t rfl 26 _ _ rfl (gr) (by exact rfl) (by exact rfl) (by kernel_rfl) 26 RR_w5.out ?_; intro w6 HN HO HB
         have RT_w6 : Hid (TRow w6 (gt) 25 (t2)) := Lib.hid (TRow.other RT_w5.out HO.out (NE_RT_RR.out))
         have RX_w6 : Hid (ARow w6 (gx) 31 (x)) := Lib.hid (ARow.other RX_w5.out HO.out (NE_RX_RR.out))
         have RV_w6 : Hid (TRow w6 (w1.heap.size) 25 (t2)) := Lib.hid (TRow.other RV_w5.out HO.out (NE_RV_RR.out))
         have RY_w6 : Hid (TRow w6 (w3.heap.size) 26 (t2)) := Lib.hid (TRow.other RY_w5.out HO.out (NE_RY_RR.out))
         have RR_w6 : Hid (TRow w6 (gr) 26 (t2)) := HN
         have BB_w6 : Hid (Below w.heap.size w w6) := Lib.hid (BB_w5.out.trans (HB.out.mono LE_RR.out))
         clear HO HB HN RT_w5 RR_w5 RX_w5 RV_w5 RY_w5 BB_w5)
      | ((with_reducible show wpList _ _ _ (⟨some 111, .load 26 (.tmp 13), _, _, _, _⟩ :: _) _ _); refine wpList_load_t (by rfl) 26 _ rfl (w3.heap.size) (by exact rfl) _ Try.underlying26 (by kernel_rfl) 26 RY_w5.out ?_)
      | ((with_reducible show wpList _ _ _ (⟨none, .store 25 (.tmp 7) (.tmp 110), _, _, _, _⟩ :: _) _ _); refine wpList_store_t rfl 25 _ _ rfl (gt) (by exact rfl) (by exact rfl) (by kernel_rfl) 25 RT_w4.out ?_; intro w5 HN HO HB
         have RR_w5 : Hid (TRow w5 (gr) 26 (t)) := Lib.hid (TRow.other RR_w4.out HO.out (NE_RR_RT.out))
         have RX_w5 : Hid (ARow w5 (gx) 31 (x)) := Lib.hid (ARow.other RX_w4.out HO.out (NE_RX_RT.out))
         have RV_w5 : Hid (TRow w5 (w1.heap.size) 25 (t2)) := Lib.hid (TRow.other RV_w4.out HO.out (NE_RV_RT.out))
         have RY_w5 : Hid (TRow w5 (w3.heap.size) 26 (t2)) := Lib.hid (TRow.other RY_w4.out HO.out (NE_RY_RT.out))
         have RT_w5 : Hid (TRow w5 (gt) 25 (t2)) := HN
         have BB_w5 : Hid (Below w.heap.size w w5) := Lib.hid (BB_w4.out.trans (HB.out.mono LE_RT.out))
         clear HO HB HN RT_w4 RR_w4 RX_w4 RV_w4 RY_w4 BB_w4)
      | ((with_reducible show wpList _ _ _ (⟨some 110, .load 25 (.tmp 11), _, _, _, _⟩ :: _) _ _); refine wpList_load_t (by rfl) 25 _ rfl (w1.heap.size) (by exact rfl) _ Try.underlying25 (by kernel_rfl) 25 RV_w4.out ?_)
      | ((with_reducible show wpList _ _ _ (⟨none, .store 26 (.tmp 13) (.tmp 105), _, _, _, _⟩ :: _) _ _); refine wpList_store_t  rfl 26 _ _ rfl (w3.heap.size) (by exact rfl) (by exact rfl) (by kernel_rfl) 26 (show TRow _ _ _ ⟨0, 0, 0⟩ from alloc_at _ _) ?_; intro w4 HN HO HB
         have RT_w4 : Hid (TRow w4 (gt) 25 (t)) := Lib.hid (TRow.other (TRow.below RT_w3.out ((Below.refl _ _).alloc (Nat.le_refl _) _) RT_w3.out.lt) HO.out (Nat.ne_of_lt RT_w3.out.lt))
         have RR_w4 : Hid (TRow w4 (gr) 26 (t)) := Lib.hid (TRow.other (TRow.below RR_w3.out ((Below.refl _ _).alloc (Nat.le_refl _) _) RR_w3.out.lt) HO.out (Nat.ne_of_lt RR_w3.out.lt))
         have RX_w4 : Hid (ARow w4 (gx) 31 (x)) := Lib.hid (ARow.other (ARow.below RX_w3.out ((Below.refl _ _).alloc (Nat.le_refl _) _) RX_w3.out.lt) HO.out (Nat.ne_of_lt RX_w3.out.lt))
         have RV_w4 : Hid (TRow w4 (w1.heap.size) 25 (t2)) := Lib.hid (TRow.other (TRow.below RV_w3.out ((Below.refl _ _).alloc (Nat.le_refl _) _) RV_w3.out.lt) HO.out (Nat.ne_of_lt RV_w3.out.lt))
         have RY_w4 : Hid (TRow w4 w3.heap.size 26 (t2)) := HN
         have BB_w4 : Hid (Below w.heap.size w w4) := Lib.hid ((BB_w3.out.alloc BB_w3.out.size _).trans (HB.out.mono BB_w3.out.size))
         have NE_RY_RT := Lib.hid (Nat.ne_of_gt RT_w3.out.lt)
         have NE_RY_RR := Lib.hid (Nat.ne_of_gt RR_w3.out.lt)
         clear HO HB HN RT_w3 RR_w3 RX_w3 RV_w3 BB_w3)
      | (go_at_call 12; have hc := BB_w2; clear hc; (with_reducible refine (KV.out _).mono ?_); rintro e w3 ⟨rfl, hB⟩
         have RT_w3 : Hid (TRow w3 (gt) 25 (t)) := Lib.hid (TRow.below RT_w2.out hB RT_w2.out.lt)
         have RR_w3 : Hid (TRow w3 (gr) 26 (t)) := Lib.hid (TRow.below RR_w2.out hB RR_w2.out.lt)
         have RX_w3 : Hid (ARow w3 (gx) 31 (x)) := Lib.hid (ARow.below RX_w2.out hB RX_w2.out.lt)
         have RV_w3 : Hid (TRow w3 (w1.heap.size) 25 (t2)) := Lib.hid (TRow.below RV_w2.out hB RV_w2.out.lt)
         have BB_w3 : Hid (Below w.heap.size w w3) := Lib.hid (BB_w2.out.trans (hB.mono BB_w2.out.size))
         clear hB RT_w2 RR_w2 RX_w2 RV_w2 BB_w2)
      | ((with_reducible show wpList _ _ _ (⟨some 103, .load 26 (.tmp 8), _, _, _, _⟩ :: _) _ _); refine wpList_load_t (by rfl) 26 _ rfl (gr) (by exact rfl) _ Try.underlying26 (by kernel_rfl) 26 RR_w2.out ?_)
      | ((with_reducible show wpList _ _ _ (⟨none, .store 25 (.tmp 11) (.tmp 100), _, _, _, _⟩ :: _) _ _); refine wpList_store_t  rfl 25 _ _ rfl (w1.heap.size) (by exact rfl) (by exact rfl) (by kernel_rfl) 25 (show TRow _ _ _ ⟨0, 0, 0⟩ from alloc_at _ _) ?_; intro w2 HN HO HB
         have RT_w2 : Hid (TRow w2 (gt) 25 (t)) := Lib.hid (TRow.other (TRow.below RT_w1.out ((Below.refl _ _).alloc (Nat.le_refl _) _) RT_w1.out.lt) HO.out (Nat.ne_of_lt RT_w1.out.lt))
         have RR_w2 : Hid (TRow w2 (gr) 26 (t)) := Lib.hid (TRow.other (TRow.below RR_w1.out ((Below.refl _ _).alloc (Nat.le_refl _) _) RR_w1.out.lt) HO.out (Nat.ne_of_lt RR_w1.out.lt))
         have RX_w2 : Hid (ARow w2 (gx) 31 (x)) := Lib.hid (ARow.other (ARow.below RX_w1.out ((Below.refl _ _).alloc (Nat.le_refl _) _) RX_w1.out.lt) HO.out (Nat.ne_of_lt RX_w1.out.lt))
         have RV_w2 : Hid (TRow w2 w1.heap.size 25 (t2)) := HN
         have BB_w2 : Hid (Below w.heap.size w w2) := Lib.hid ((BB_w1.out.alloc BB_w1.out.size _).trans (HB.out.mono BB_w1.out.size))
         have NE_RV_RT := Lib.hid (Nat.ne_of_gt RT_w1.out.lt)
         have NE_RV_RR := Lib.hid (Nat.ne_of_gt RR_w1.out.lt)
         clear HO HB HN RT_w1 RR_w1 RX_w1 BB_w1)
      | (go_at_call 11; have hc := BB_W1; clear hc; (with_reducible refine (KU.out _).mono ?_); rintro e w1 ⟨rfl, hB⟩
         have RT_w1 : Hid (TRow w1 (gt) 25 (t)) := Lib.hid (TRow.below RT_W1.out hB RT_W1.out.lt)
         have RR_w1 : Hid (TRow w1 (gr) 26 (t)) := Lib.hid (TRow.below RR_W1.out hB RR_W1.out.lt)
         have RX_w1 : Hid (ARow w1 (gx) 31 (x)) := Lib.hid (ARow.below RX_W1.out hB RX_W1.out.lt)
         have BB_w1 : Hid (Below w.heap.size w w1) := Lib.hid (BB_W1.out.trans (hB.mono BB_W1.out.size))
         clear hB RT_W1 RR_W1 RX_W1 BB_W1)
      | ((with_reducible show wpList _ _ _ (⟨some 98, .load 25 (.tmp 7), _, _, _, _⟩ :: _) _ _); refine wpList_load_t (by rfl) 25 _ rfl (gt) (by exact rfl) _ Try.underlying25 (by kernel_rfl) 25 RT_W1.out ?_))
          go_meet
          case rel => exact ⟨_, _, rfl, HO2.out, RT_w6.out, RR_w6.out, BB_w6.out⟩
        · have d5 : ¬ (mm : Int) < 5 := by omega
          have RT_W1 := RT_wa
          have RR_W1 := RR_wa
          have RX_W1 := RX_wa
          have BB_W1 := BB_wa
          clear RT_wa RR_wa RX_wa BB_wa
          have hn1 := tmod_lt2 x.v 3000 (by decide)
          obtain ⟨n, hn⟩ : ∃ n, x.v.tmod 3000 = n := ⟨_, rfl⟩
          rw [hn] at hn1
          have hw64 : wrap64 (x.v.tmod 3000) = n := by
            rw [hn]
            unfold wrap64
            omega
          have HNN := Lib.hid hw64
          have KU := Lib.hid (fun W => H.ticks t n W HOK.out (by omega) (by omega))
          have KV := Lib.hid (fun W => rTicksT_any t n W HOK.out (by omega) (by omega))
          have HO2 := Lib.hid (ticksT_ok HOK.out n.toNat)
          generalize ticksT t n.toNat = t2 at *
          generalize countT t n.toNat = ct at *
          clear hn
          go_wp2_with (first
      | ((with_reducible show wpList _ _ _ (⟨none, .store 26 (.tmp 8) (.tmp 72), _, _, _, _⟩ :: _) _ _); refine wpList_store_t rfl 26 _ _ rfl (gr) (by exact rfl) (by exact rfl) (by kernel_rfl) 26 RR_w5.out ?_; intro w6 HN HO HB
         have RT_w6 : Hid (TRow w6 (gt) 25 (t2)) := Lib.hid (TRow.other RT_w5.out HO.out (NE_RT_RR.out))
         have RX_w6 : Hid (ARow w6 (gx) 31 (x)) := Lib.hid (ARow.other RX_w5.out HO.out (NE_RX_RR.out))
         have RV_w6 : Hid (TRow w6 (w1.heap.size) 25 (t2)) := Lib.hid (TRow.other RV_w5.out HO.out (NE_RV_RR.out))
         have RY_w6 : Hid (TRow w6 (w3.heap.size) 26 (t2)) := Lib.hid (TRow.other RY_w5.out HO.out (NE_RY_RR.out))
         have RR_w6 : Hid (TRow w6 (gr) 26 (t2)) := HN
         have BB_w6 : Hid (Below w.heap.size w w6) := Lib.hid (BB_w5.out.trans (HB.out.mono LE_RR.out))
         clear HO HB HN RT_w5 RR_w5 RX_w5 RV_w5 RY_w5 BB_w5)
      | ((with_reducible show wpList _ _ _ (⟨some 72, .load 26 (.tmp 18), _, _, _, _⟩ :: _) _ _); refine wpList_load_t (by rfl) 26 _ rfl (w3.heap.size) (by exact rfl) _ Try.underlying26 (by kernel_rfl) 26 RY_w5.out ?_)
      | ((with_reducible show wpList _ _ _ (⟨none, .store 25 (.tmp 7) (.tmp 71), _, _, _, _⟩ :: _) _ _); refine wpList_store_t rfl 25 _ _ rfl (gt) (by exact rfl) (by exact rfl) (by kernel_rfl) 25 RT_w4.out ?_; intro w5 HN HO HB
         have RR_w5 : Hid (TRow w5 (gr) 26 (t)) := Lib.hid (TRow.other RR_w4.out HO.out (NE_RR_RT.out))
         have RX_w5 : Hid (ARow w5 (gx) 31 (x)) := Lib.hid (ARow.other RX_w4.out HO.out (NE_RX_RT.out))
         have RV_w5 : Hid (TRow w5 (w1.heap.size) 25 (t2)) := Lib.hid (TRow.other RV_w4.out HO.out (NE_RV_RT.out))
         have RY_w5 : Hid (TRow w5 (w3.heap.size) 26 (t2)) := Lib.hid (TRow.other RY_w4.out HO.out (NE_RY_RT.out))
         have RT_w5 : Hid (TRow w5 (gt) 25 (t2)) := HN
         have BB_w5 : Hid (Below w.heap.size w w5) := Lib.hid (BB_w4.out.trans (HB.out.mono LE_RT.out))
         clear HO HB HN RT_w4 RR_w4 RX_w4 RV_w4 RY_w4 BB_w4)
      | ((with_reducible show wpList _ _ _ (⟨some 71, .load 25 (.tmp 16), _, _, _, _⟩ :: _) _ _); refine wpList_load_t (by rfl) 25 _ rfl (w1.heap.size) (by exact rfl) _ Try.underlying25 (by kernel_rfl) 25 RV_w4.out ?_)
      | ((with_reducible show wpList _ _ _ (⟨none, .store 26 (.tmp 18) (.tmp 66), _, _, _, _⟩ :: _) _ _); refine wpList_store_t  rfl 26 _ _ rfl (w3.heap.size) (by exact rfl) (by exact rfl) (by kernel_rfl) 26 (show TRow _ _ _ ⟨0, 0, 0⟩ from alloc_at _ _) ?_; intro w4 HN HO HB
         have RT_w4 : Hid (TRow w4 (gt) 25 (t)) := Lib.hid (TRow.other (TRow.below RT_w3.out ((Below.refl _ _).alloc (Nat.le_refl _) _) RT_w3.out.lt) HO.out (Nat.ne_of_lt RT_w3.out.lt))
         have RR_w4 : Hid (TRow w4 (gr) 26 (t)) := Lib.hid (TRow.other (TRow.below RR_w3.out ((Below.refl _ _).alloc (Nat.le_refl _) _) RR_w3.out.lt) HO.out (Nat.ne_of_lt RR_w3.out.lt))
         have RX_w4 : Hid (ARow w4 (gx) 31 (x)) := Lib.hid (ARow.other (ARow.below RX_w3.out ((Below.refl _ _).alloc (Nat.le_refl _) _) RX_w3.out.lt) HO.out (Nat.ne_of_lt RX_w3.out.lt))
         have RV_w4 : Hid (TRow w4 (w1.heap.size) 25 (t2)) := Lib.hid (TRow.other (TRow.below RV_w3.out ((Below.refl _ _).alloc (Nat.le_refl _) _) RV_w3.out.lt) HO.out (Nat.ne_of_lt RV_w3.out.lt))
         have RY_w4 : Hid (TRow w4 w3.heap.size 26 (t2)) := HN
         have BB_w4 : Hid (Below w.heap.size w w4) := Lib.hid ((BB_w3.out.alloc BB_w3.out.size _).trans (HB.out.mono BB_w3.out.size))
         have NE_RY_RT := Lib.hid (Nat.ne_of_gt RT_w3.out.lt)
         have NE_RY_RR := Lib.hid (Nat.ne_of_gt RR_w3.out.lt)
         clear HO HB HN RT_w3 RR_w3 RX_w3 RV_w3 BB_w3)
      | (go_at_call 14; have hc := BB_w2; clear hc; (try rw [HNN.out]); (with_reducible refine (KV.out _).mono ?_); rintro e w3 ⟨rfl, hB⟩
         have RT_w3 : Hid (TRow w3 (gt) 25 (t)) := Lib.hid (TRow.below RT_w2.out hB RT_w2.out.lt)
         have RR_w3 : Hid (TRow w3 (gr) 26 (t)) := Lib.hid (TRow.below RR_w2.out hB RR_w2.out.lt)
         have RX_w3 : Hid (ARow w3 (gx) 31 (x)) := Lib.hid (ARow.below RX_w2.out hB RX_w2.out.lt)
         have RV_w3 : Hid (TRow w3 (w1.heap.size) 25 (t2)) := Lib.hid (TRow.below RV_w2.out hB RV_w2.out.lt)
         have BB_w3 : Hid (Below w.heap.size w w3) := Lib.hid (BB_w2.out.trans (hB.mono BB_w2.out.size))
         clear hB RT_w2 RR_w2 RX_w2 RV_w2 BB_w2)
      | ((with_reducible show wpList _ _ _ (⟨some 63, .load 26 (.tmp 8), _, _, _, _⟩ :: _) _ _); refine wpList_load_t (by rfl) 26 _ rfl (gr) (by exact rfl) _ Try.underlying26 (by kernel_rfl) 26 RR_w2.out ?_)
      | ((with_reducible show wpList _ _ _ (⟨none, .store 25 (.tmp 16) (.tmp 60), _, _, _, _⟩ :: _) _ _); refine wpList_store_t  rfl 25 _ _ rfl (w1.heap.size) (by exact rfl) (by exact rfl) (by kernel_rfl) 25 (show TRow _ _ _ ⟨0, 0, 0⟩ from alloc_at _ _) ?_; intro w2 HN HO HB
         have RT_w2 : Hid (TRow w2 (gt) 25 (t)) := Lib.hid (TRow.other (TRow.below RT_w1.out ((Below.refl _ _).alloc (Nat.le_refl _) _) RT_w1.out.lt) HO.out (Nat.ne_of_lt RT_w1.out.lt))
         have RR_w2 : Hid (TRow w2 (gr) 26 (t)) := Lib.hid (TRow.other (TRow.below RR_w1.out ((Below.refl _ _).alloc (Nat.le_refl _) _) RR_w1.out.lt) HO.out (Nat.ne_of_lt RR_w1.out.lt))
         have RX_w2 : Hid (ARow w2 (gx) 31 (x)) := Lib.hid (ARow.other (ARow.below RX_w1.out ((Below.refl _ _).alloc (Nat.le_refl _) _) RX_w1.out.lt) HO.out (Nat.ne_of_lt RX_w1.out.lt))
         have RV_w2 : Hid (TRow w2 w1.heap.size 25 (t2)) := HN
         have BB_w2 : Hid (Below w.heap.size w w2) := Lib.hid ((BB_w1.out.alloc BB_w1.out.size _).trans (HB.out.mono BB_w1.out.size))
         have NE_RV_RT := Lib.hid (Nat.ne_of_gt RT_w1.out.lt)
         have NE_RV_RR := Lib.hid (Nat.ne_of_gt RR_w1.out.lt)
         clear HO HB HN RT_w1 RR_w1 RX_w1 BB_w1)
      | (go_at_call 13; have hc := BB_W1; clear hc; (try rw [HNN.out]); (with_reducible refine (KU.out _).mono ?_); rintro e w1 ⟨rfl, hB⟩
         have RT_w1 : Hid (TRow w1 (gt) 25 (t)) := Lib.hid (TRow.below RT_W1.out hB RT_W1.out.lt)
         have RR_w1 : Hid (TRow w1 (gr) 26 (t)) := Lib.hid (TRow.below RR_W1.out hB RR_W1.out.lt)
         have RX_w1 : Hid (ARow w1 (gx) 31 (x)) := Lib.hid (ARow.below RX_W1.out hB RX_W1.out.lt)
         have BB_w1 : Hid (Below w.heap.size w w1) := Lib.hid (BB_W1.out.trans (hB.mono BB_W1.out.size))
         clear hB RT_W1 RR_W1 RX_W1 BB_W1)
      | ((with_reducible show wpList _ _ _ (⟨some 57, .load 25 (.tmp 7), _, _, _, _⟩ :: _) _ _); refine wpList_load_t (by rfl) 25 _ rfl (gt) (by exact rfl) _ Try.underlying25 (by kernel_rfl) 25 RT_W1.out ?_))
          go_meet
          case rel => exact ⟨_, _, rfl, HO2.out, RT_w6.out, RR_w6.out, BB_w6.out⟩
      case rest =>
        clear RT_wa RR_wa RX_wa BB_wa HOK
        obtain ⟨W, t, rfl, hok, h1, h2, h3⟩ := hcut
        have HOK := Lib.hid hok
        have RT_W := Lib.hid h1
        have RR_W := Lib.hid h2
        have BB_W := Lib.hid h3
        have f0 := h1.c0
        have f1 := h1.c1
        have f2 := h1.c2
        have j0 := h2.c0
        have j1 := h2.c1
        have j2 := h2.c2
        clear h1 h2 h3 hok z0 z1 z2
        go_wp2_with fail
        go_loopw [20] (fun jv wq => ∃ j : Nat, j ≤ 5 ∧ jv = .int .i64 ((j : Int) - 1) ∧ Below W.heap.size W wq) (fun jv _ => 5 - (intOf jv + 1).toNat)
        case atStart => exact ⟨0, by omega, rfl, Below.refl _ _⟩
        case round =>
          obtain ⟨j, hj, rfl, hb⟩ := hrel
          have HB := Lib.hid hb
          clear hb
          by_cases hlj : j < 5
          · have d3 : (j : Int) - 1 < 4 := by omega
            have HJ := Lib.hid hlj
            have KP := Lib.hid (fun W => H.peek t ((j : Int) - 1) W HOK.out (by omega) (by omega))
            have KQ := Lib.hid (fun W => rPeekT_any t ((j : Int) - 1) W HOK.out (by omega) (by omega))
            generalize peekT t ((j : Int) - 1) = pv at *
            go_upto_region 30 with fail
            refine wp_region_noPanic ?_
            refine wp_region_held_drew (S := fun X => Below W.heap.size W X) (by kernel_rfl) (HB.out.trans ((Below.refl _ _).drew.mono HB.out.size)) (fun hHeld => ?_)
            refine' take_ 0 rfl (by kernel_rfl) (by kernel_rfl) (by kernel_rfl) (fun _ _ _ h => h) (by rfl) (fun wS hSw => run_load_t wS 25 _ gt rfl _ Try.underlying25 (by kernel_rfl) 25 (RT_W.out.below hSw RT_W.out.lt) _ _ _ _ _) hHeld ?_
            try simp only [Act.put, List.setIfInBounds_toArray, List.set_cons_zero, List.set_cons_succ]
            refine' take_ 1 rfl (by kernel_rfl) (by kernel_rfl) (by kernel_rfl) (fun _ _ _ h => h) (by rfl) (fun wS hSw => ?_) hHeld ?_
            rotate_left
            focus (go_simp; (try with_reducible rfl); done)
            try simp only [Act.put, List.setIfInBounds_toArray, List.set_cons_zero, List.set_cons_succ]
            refine' take_ 3 rfl (by kernel_rfl) (by kernel_rfl) (by kernel_rfl) (fun _ _ _ h => h) (by rfl) (fun wS hSw => run_load_t wS 26 _ gr rfl _ Try.underlying26 (by kernel_rfl) 26 (RR_W.out.below hSw RR_W.out.lt) _ _ _ _ _) hHeld ?_
            try simp only [Act.put, List.setIfInBounds_toArray, List.set_cons_zero, List.set_cons_succ]
            refine' take_ 4 rfl (by kernel_rfl) (by kernel_rfl) (by kernel_rfl) (fun _ _ _ h => h) (by rfl) (fun wS hSw => ?_) hHeld ?_
            rotate_left
            focus (go_simp; (try with_reducible rfl); done)
            try simp only [Act.put, List.setIfInBounds_toArray, List.set_cons_zero, List.set_cons_succ]
            refine only_ 2 rfl (by kernel_rfl) (by rfl) (fun K hK => ?_)
            go_simp
            (with_reducible refine (KP.out _).mono ?_)
            rintro e wn ⟨rfl, hBn⟩
            go_simp
            refine hK.out _ _ (hHeld.trans (hBn.mono hHeld.size)) (fun hHeld2 => ?_)
            clear hK K hHeld
            have hHeld := hHeld2
            clear hHeld2
            try simp only [Act.put, List.setIfInBounds_toArray, List.set_cons_zero, List.set_cons_succ]
            clear hBn
            refine only_ 5 rfl (by kernel_rfl) (by rfl) (fun K hK => ?_)
            go_simp
            (with_reducible refine (KQ.out _).mono ?_)
            rintro e wn ⟨rfl, hBn⟩
            go_simp
            refine hK.out _ _ (hHeld.trans (hBn.mono hHeld.size)) (fun hHeld2 => ?_)
            clear hK K hHeld
            have hHeld := hHeld2
            clear hHeld2
            try simp only [Act.put, List.setIfInBounds_toArray, List.set_cons_zero, List.set_cons_succ]
            clear hBn
            refine' take_ 6 rfl (by kernel_rfl) (by kernel_rfl) (by kernel_rfl) (fun _ _ _ h => h) (by rfl) (fun wS hSw => ?_) hHeld ?_
            rotate_left
            focus (go_simp; (try with_reducible rfl); done)
            try simp only [Act.put, List.setIfInBounds_toArray, List.set_cons_zero, List.set_cons_succ]
            refine wpAnyH_done (by kernel_rfl) ?_ _
            refine NoPanic.normal ?_
            go_wp2_with fail
            go_roundw
            case rel => exact ⟨j + 1, by have := HJ.out; omega, by go_num, hHeld⟩
            case measure =>
              simp [intOf]
              omega
          · obtain rfl : j = 5 := by omega
            go_wp2_with fail
            go_roundw
            case rel => exact ⟨k + 1, t, by omega, by omega, by go_num, HOK.out, RT_W.out.below HB.out RT_W.out.lt, RR_W.out.below HB.out RR_W.out.lt, BB_W.out.trans (HB.out.mono BB_W.out.size)⟩
            case measure =>
              simp [intOf]
              omega
    · have hd : ¬ ((k : Int) < (len : Int)) ∨ ((k : Int) < (len : Int) ∧ ¬ (k : Int) < 60) := by omega
      clear hlt
      rcases hd with d1 | ⟨d1, d2⟩
      · go_wp2_with (go_at_call 17; refine (KW.out _).mono ?_; rintro e w9 ⟨rfl, hB⟩; have B9 := Lib.hid (BB_wr.out.trans (hB.mono BB_wr.out.size)); clear hB)
        go_ret
        exact ⟨rfl, B9.out⟩
      · go_wp2_with (go_at_call 17; refine (KW.out _).mono ?_; rintro e w9 ⟨rfl, hB⟩; have B9 := Lib.hid (BB_wr.out.trans (hB.mono BB_wr.out.size)); clear hB)
        go_ret
        exact ⟨rfl, B9.out⟩
end Go.Proofs.Ytgibindoblhkeaa
