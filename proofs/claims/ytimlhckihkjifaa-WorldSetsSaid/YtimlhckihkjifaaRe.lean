/-
  The document's Set by its contract. Made by wip/genworldref.py.
-/
import Derived.Test.YtimlhckihkjifaaRd
namespace Go.Proofs.Ytimlhckihkjifaa
open Go.RowKit
set_option linter.unusedVariables false
set_option linter.unusedSimpArgs false
/-- A slice that reads as the list, and an error. -/
def OutE (e : Ending) (W : World) (l : List In) (er : Nat) : Prop := ∃ A cap, e = .returned (.tuple #[.slice A l.length cap, .int .i64 (er : Int)]) ∧ Rd W W.heap.size A l
def setR (l : List In) (x : In) : List In := if setE l x = 0 then setL l x else []
def SetC (f : Nat) : Prop := ∀ (A : Option Addr) (cap B : Nat) (l : List In) (x : In) (W : World), Rd W B A l → B ≤ W.heap.size → l.length ≤ 1000 → x.ok → Calls Try.prog f #[.slice A l.length cap, iv x] W fun e w' => OutE e w' (setR l x) (setE l x) ∧ Below W.heap.size W w'
theorem rd_one (u : World) (x : In) (h : x.ok) : Rd (u.alloc (.cells #[.int .i64 x.a, .int .i64 x.k, .int .u8 (x.v : Int)] 25)) (u.heap.size + 1) (some ⟨u.heap.size, 0, none⟩) [x] :=
  ⟨by simp, fun y hy => by rw [List.mem_singleton.1 hy]; exact h, fun j y hj => by
    obtain rfl : j = 0 := by
      have := (List.getElem?_eq_some_iff.1 hj).1
      simp at this
      exact this
    obtain rfl : x = y := by simpa using hj
    refine ⟨_, rfl, Nat.lt_succ_self _, ?_⟩
    have := news_in u x _ rfl
    exact this⟩
theorem set_len (l : List In) (x : In) : (setL l x).length ≤ 2 * l.length + 1 := by
  unfold setL
  have h1 := List.length_filter_le (fun y => aheadI y x) l
  have h2 := List.length_filter_le (fun y => aheadI x y) l
  simp only [List.length_append, List.length_singleton]
  omega
theorem set_ok {l : List In} {x : In} (h : ∀ y ∈ l, y.ok) (hx : x.ok) : ∀ y ∈ setL l x, y.ok := by
  intro y hy
  unfold setL at hy
  simp only [List.mem_append, List.mem_singleton] at hy
  rcases hy with (hy | rfl) | hy
  · exact filter_ok h y hy
  · exact hx
  · exact filter_ok h y hy
set_option maxHeartbeats 8000000 in
set_option maxRecDepth 100000 in
theorem rSet_any : SetC 23 := by
  intro A cap B l x w hr hB hlen hx
  have HR := Lib.hid hr
  have HBW := Lib.hid hB
  have HL := Lib.hid hlen
  have HXO := Lib.hid hx
  have KC := Lib.hid (fun W h2 h3 => rCheck_any A cap B l W h2 h3)
  clear hr hB hx
  obtain ⟨i0, hi0, hz0, hz1, hz2⟩ := info_parts ininfo
  have H9 := Lib.hid hz0
  have H10 := Lib.hid hz1
  have H11 := Lib.hid hz2
  have H12 := Lib.hid hi0
  clear hz0 hz1 hz2 hi0
  unfold iv
  go_enter Try.func23, Try.ntmps23
  go_upto_region 1 with (fail)
  refine name_one (Q := fun X => Code.wp _ _ _ _ X) ?_
  intro W0 hq1 hB0 hz
  have RX_0 : Hid (IRow W0 w.heap.size x) := Lib.hid hq1
  have BB_0 := Lib.hid hB0
  clear hq1 hB0 hz
  have KC0 := Lib.hid (KC.out W0 (HR.out.below BB_0.out HBW.out) (Nat.le_trans HBW.out BB_0.out.size))
  obtain ⟨ci, ce, hce⟩ : ∃ i e, chkL l = (i, e) := ⟨_, _, rfl⟩
  have HCE := Lib.hid hce
  rw [hce] at KC0
  clear hce KC
  go_upto_region 2 with (go_at_call 22; with_reducible refine (KC0.out).mono ?_; rintro e W1 ⟨rfl, hB⟩; have RX_1 := Lib.hid (IRow.below RX_0.out hB RX_0.out.lt); have BB_1 := Lib.hid (BB_0.out.trans (hB.mono BB_0.out.size)); clear hB RX_0 BB_0)
  by_cases hbad : ce ≠ 0
  · have hbi : ((ce : Int) != 0) = true := by simp; omega
    have HE : Hid (setE l x = ce ∧ setR l x = []) := Lib.hid (by
      have h1 : setE l x = ce := by unfold setE; rw [HCE.out, if_pos hbad]
      exact ⟨h1, by unfold setR; rw [h1, if_neg hbad]⟩)
    clear hbad
    go_wp2_with fail
    exact bodyPost_ret (v := .tuple #[.slice none 0 0, .int .i64 (ce : Int)]) (results_tt Try.results23 _ _ _ _ _ rfl rfl) rfl ⟨⟨none, 0, by rw [HE.out.1, HE.out.2]; rfl, by rw [HE.out.2]; exact Rd.nil _ _ _⟩, BB_1.out⟩
  obtain rfl : ce = 0 := by omega
  simp only [show ((0 : Nat) : Int) = 0 from rfl]
  clear hbad KC0
  have KC1 := Lib.hid (rCheck_any (some ⟨W1.heap.size, 0, none⟩) 1 (W1.heap.size + 1) [x] _ (rd_one W1 x HXO.out) (by simp))
  obtain ⟨di, de, hde⟩ : ∃ i e, chkL [x] = (i, e) := ⟨_, _, rfl⟩
  have HDE := Lib.hid hde
  rw [hde] at KC1
  clear hde
  go_upto_region 5 with (first
    | (go_at_call 22; refine (KC1.out).mono ?_; rintro e W2 ⟨rfl, hB⟩; have RX_2 := Lib.hid (IRow.below (IRow.below RX_1.out ((Below.refl _ _).alloc (Nat.le_refl _) _) RX_1.out.lt) hB (by have := RX_1.out.lt; simp; omega)); have BB_2 := Lib.hid ((BB_1.out.alloc BB_1.out.size _).trans (hB.mono (Nat.le_trans BB_1.out.size (by simp)))); clear hB RX_1 BB_1)
    | ((with_reducible show wpList _ _ _ (⟨some 20, .load 25 (.tmp 3), _, _, _, _⟩ :: _) _ _); refine wpList_load_v (by rfl) 25 _ rfl w.heap.size (by exact rfl) _ Try.underlying25 25 ([.int .i64 x.a, .int .i64 x.k, .int .u8 (x.v : Int)]) RX_1.out (by kernel_rfl) ?_))
  by_cases hbad : de ≠ 0
  · have hbi : ((de : Int) != 0) = true := by simp; omega
    have HE : Hid (setE l x = de ∧ setR l x = []) := Lib.hid (by
      have h1 : setE l x = de := by unfold setE; rw [HCE.out, if_neg (by simp), HDE.out]
      exact ⟨h1, by unfold setR; rw [h1, if_neg hbad]⟩)
    clear hbad
    go_wp2_with fail
    exact bodyPost_ret (v := .tuple #[.slice none 0 0, .int .i64 (de : Int)]) (results_tt Try.results23 _ _ _ _ _ rfl rfl) rfl ⟨⟨none, 0, by rw [HE.out.1, HE.out.2]; rfl, by rw [HE.out.2]; exact Rd.nil _ _ _⟩, BB_2.out⟩
  obtain rfl : de = 0 := by omega
  simp only [show ((0 : Nat) : Int) = 0 from rfl]
  have HE : Hid (setE l x = 0 ∧ setR l x = setL l x) := Lib.hid (by
    have h1 : setE l x = 0 := by unfold setE; rw [HCE.out, if_neg (by simp), HDE.out]
    exact ⟨h1, by unfold setR; rw [h1, if_pos rfl]⟩)
  clear hbad KC1
  go_wp2_with fail
  go_loopw [8, 9] (fun ov iv wr => ∃ (k : Nat) (out : List In), k ≤ l.length ∧ iv = .int .i64 (k : Int) ∧ out ++ (l.drop k).filter (fun y => aheadI y x) = l.filter (fun y => aheadI y x) ∧ out.length ≤ k ∧ OwnI wr (w.heap.size + 1) ov out ∧ IRow wr w.heap.size x ∧ Below w.heap.size w wr) (fun _ iv _ => l.length - (intOf iv).toNat)
  case atStart => exact ⟨0, [], by omega, rfl, rfl, by simp, OwnI.nil _ _, RX_2.out, BB_2.out⟩
  case round =>
    clear RX_2 BB_2
    obtain ⟨k, out, hk, rfl, hf, ho, q1, q2, q3⟩ := hrel
    obtain ⟨u, hu⟩ : ∃ W, wr = W := ⟨_, rfl⟩
    rw [hu] at q1 q2 q3 ⊢
    have OW_u := Lib.hid q1
    have RX_u := Lib.hid q2
    have BB_u := Lib.hid q3
    have HF := Lib.hid hf
    have HO := Lib.hid ho
    clear q2 q3 hf hu ho
    obtain ⟨oA, ocap, rfl⟩ := q1.form
    clear q1
    by_cases hlt : k < l.length
    · obtain ⟨y, hy⟩ : ∃ y, l[k]? = some y := ⟨l[k], List.getElem?_eq_getElem hlt⟩
      obtain ⟨a, hA, hab, hok, hcc, _⟩ := (HR.out.below BB_u.out HBW.out).get hy
      subst hA
      have HC := Lib.hid hcc
      have hab2 := Lib.hid hab
      have BU := Lib.hid (Nat.le_trans HBW.out BB_u.out.size)
      have d1 : (k : Int) < (l.length : Int) := by omega
      have hdr := drop_at l k y hy
      have HDR := Lib.hid hdr
      have HLT := Lib.hid (And.intro hlt HO.out)
      have KA := Lib.hid (fun W => rAhead_any y x W hok HXO.out)
      obtain ⟨ah, hah⟩ : ∃ z, aheadI y x = z := ⟨_, rfl⟩
      have HAH := Lib.hid hah
      rw [hah] at KA
      clear hdr hy hcc hok hlt hab hah
      go_upto_region 11 with fail
      refine wp_region_noPanic ?_
      refine wp_region_held_drew (S := fun X => Below u.heap.size u X) (by kernel_rfl) ((Below.refl _ u).drew) (fun hHeld => ?_)
      refine' take_ 0 rfl (by kernel_rfl) (by kernel_rfl) (by kernel_rfl) (fun _ _ _ h => h) (by rfl) (fun wS hSw => ?_) hHeld ?_
      rotate_left
      focus (go_simp; (try with_reducible rfl); done)
      try simp only [Act.put, List.setIfInBounds_toArray, List.set_cons_zero, List.set_cons_succ]
      refine' take_ 1 rfl (by kernel_rfl) (by kernel_rfl) (by kernel_rfl) (fun _ _ _ h => h) (by rfl) (fun wS hSw => ?_) hHeld ?_
      rotate_left
      focus (go_simp; (try with_reducible rfl); done)
      try simp only [Act.put, List.setIfInBounds_toArray, List.set_cons_zero, List.set_cons_succ]
      refine' take_ 2 rfl (by kernel_rfl) (by kernel_rfl) (by kernel_rfl) (fun _ _ _ h => h) (by rfl) (fun wS hSw => ?_) hHeld ?_
      rotate_left
      focus (go_simp; (try with_reducible rfl); done)
      try simp only [Act.put, List.setIfInBounds_toArray, List.set_cons_zero, List.set_cons_succ]
      refine' take_ 3 rfl (by kernel_rfl) (by kernel_rfl) (by kernel_rfl) (fun _ _ _ h => h) (by rfl) (fun wS hSw => run_load_ad wS 25 _ _ rfl _ _ (HC.out.below hSw (by rw [add_block]; exact Nat.lt_of_lt_of_le hab2.out BU.out)) Try.underlying25 rfl (by kernel_rfl) _ _ _ _ _) hHeld ?_
      try simp only [Act.put, List.setIfInBounds_toArray, List.set_cons_zero, List.set_cons_succ]
      refine' take_ 4 rfl (by kernel_rfl) (by kernel_rfl) (by kernel_rfl) (fun _ _ _ h => h) (by rfl) (fun wS hSw => run_load_v wS 25 _ w.heap.size rfl _ Try.underlying25 25 (ic x) (IRow.below RX_u.out hSw RX_u.out.lt) (by kernel_rfl) _ _ _ _ _) hHeld ?_
      try simp only [Act.put, List.setIfInBounds_toArray, List.set_cons_zero, List.set_cons_succ]
      refine only_ 5 rfl (by kernel_rfl) (by rfl) (fun K hK => ?_)
      obtain ⟨Y, hY⟩ : ∃ Y, u.drew = Y := ⟨_, rfl⟩
      rw [hY] at hHeld ⊢
      clear hY
      refine wp_call_ret 21 _ _ rfl _ (by rfl) (by kernel_rfl) _ (KA.out _) (fun Y2 hB => ?_)
      have hH2 := hHeld.trans (hB.mono hHeld.size)
      refine hK.out _ _ hH2 (fun _ => ?_)
      clear hK K hB hHeld
      have hHeld := hH2
      clear hH2
      show wpAnyH _ _ _ _ _ _ _ (Act.put _ (some 39) _) _
      try simp only [Act.put, List.setIfInBounds_toArray, List.set_cons_zero, List.set_cons_succ]
      refine wpAnyH_done (by kernel_rfl) ?_ _
      refine NoPanic.normal ?_
      have OW_z := Lib.hid (OW_u.out.below hHeld (Nat.le_refl _))
      have RX_z := Lib.hid (IRow.below RX_u.out hHeld RX_u.out.lt)
      have BB_z := Lib.hid (BB_u.out.trans (hHeld.mono BB_u.out.size))
      have HC2 : Hid (CellsA Y2 (a.add (k * 3)) [.int .i64 y.a, .int .i64 y.k, .int .u8 (y.v : Int)]) := Lib.hid (HC.out.below hHeld (by rw [add_block]; exact Nat.lt_of_lt_of_le hab2.out BU.out))
      clear hHeld OW_u RX_u BB_u
      obtain ⟨z, hz⟩ : ∃ Y, Y2 = Y := ⟨_, rfl⟩
      rw [hz] at OW_z RX_z BB_z HC2 ⊢
      clear hz
      cases ah
      · have HST : Hid (out ++ (l.drop (k + 1)).filter (fun y => aheadI y x) = l.filter (fun y => aheadI y x)) := Lib.hid (by have h := HF.out; rw [HDR.out, List.filter_cons, if_neg (by rw [HAH.out]; decide)] at h; exact h)
        go_wp2_with fail
        go_roundw
        case rel => exact ⟨k + 1, out, by have := HLT.out.1; omega, by go_num, HST.out, by have := HLT.out.2; omega, OW_z.out, RX_z.out, BB_z.out⟩
        case measure =>
          simp [intOf]
          have := HLT.out.1
          (try omega)
      · have HST : Hid ((out ++ [y]) ++ (l.drop (k + 1)).filter (fun y => aheadI y x) = l.filter (fun y => aheadI y x)) := Lib.hid (by have h := HF.out; rw [HDR.out, List.filter_cons, if_pos HAH.out] at h; rw [← h]; simp)
        go_wp2_with (first
          | (at_builtin; (with_reducible show wpList _ _ _ (⟨some 46, _, _, _, _, _⟩ :: _) _ _); go_must (refine wpList_append_blk _ rfl (.tmp 40) (.tmp 45) 22 rfl (w.heap.size + 1) 25 i0 _ 3 24 Try.underlying22 H12.out H9.out H10.out H11.out rfl (by omega) (.slice oA out.length ocap) (out).length ((out).flatMap ic) rfl (OW_z.out.below ((Below.refl z.heap.size z).alloc (Nat.le_refl _) _) (Nat.le_refl _)) ⟨z.heap.size, 0, none⟩ 1 1 (ic y) rfl rfl (news_in z y _ rfl) (ic_one y) (by simp only [maxLen]; have := HLT.out.1; have := HLT.out.2; have := HL.out; omega) (by have := HLT.out.1; have := HLT.out.2; have := HL.out; omega) (by have := RX_z.out.lt; simp; omega) ?_); intro v3 w3 hown hgrow hblk; have OW_3 : Hid (OwnI w3 (w.heap.size + 1) v3 (out ++ [y])) := Lib.hid (OwnI.snoc hown); have BB_3 : Hid (Below w.heap.size w w3) := Lib.hid (below_gb (BB_z.out.alloc BB_z.out.size _) hgrow (Nat.le_trans BB_z.out.size (by simp)) (fun b hb => Nat.le_of_succ_le (World.ownsRow.lt OW_z.out b hb).1)); have RX_3 : Hid (IRow w3 w.heap.size x) := Lib.hid ((hgrow.block w.heap.size (by have := RX_z.out.lt; simp; omega) (fun e => by have := (World.ownsRow.lt OW_z.out w.heap.size e.symm).1; omega)).trans (IRow.below RX_z.out ((Below.refl _ _).alloc (Nat.le_refl _) _) RX_z.out.lt)); clear hown hgrow hblk)
          | ((with_reducible show wpList _ _ _ (⟨some 44, .load 25 (.tmp 43), _, _, _, _⟩ :: _) _ _); refine wpList_load_addr rfl 25 _ rfl (a.add (k * 3)) rfl _ _ HC2.out Try.underlying25 rfl (by kernel_rfl) ?_))
        go_roundw
        case rel => exact ⟨k + 1, out ++ [y], by have := HLT.out.1; omega, by go_num, HST.out, by have := HLT.out.2; simp; omega, OW_3.out, RX_3.out, BB_3.out⟩
        case measure =>
          simp [intOf]
          have := HLT.out.1
          (try omega)
    · obtain rfl : k = l.length := by omega
      have d1 : ¬ (l.length : Int) < (l.length : Int) := by omega
      have HOUT : Hid (out = l.filter (fun y => aheadI y x)) := Lib.hid (by have h := HF.out; rw [List.drop_length] at h; simpa using h)
      clear hlt hk
      have HLO := Lib.hid (show out.length ≤ l.length from HO.out)
      clear HF HO
      go_wp2_with (first
        | (at_builtin; (with_reducible show wpList _ _ _ (⟨some 50, _, _, _, _, _⟩ :: _) _ _); go_must (refine wpList_append_blk _ rfl (.tmp 47) (.tmp 49) 22 rfl (w.heap.size + 1) 25 i0 _ 3 24 Try.underlying22 H12.out H9.out H10.out H11.out rfl (by omega) (.slice oA out.length ocap) (out).length ((out).flatMap ic) rfl (OW_u.out.below ((Below.refl u.heap.size u).alloc (Nat.le_refl _) _) (Nat.le_refl _)) ⟨u.heap.size, 0, none⟩ 1 1 (ic x) rfl rfl (news_in u x _ rfl) (ic_one x) (by simp only [maxLen]; have := HLO.out; have := HL.out; omega) (by have := HLO.out; have := HL.out; omega) (by have := RX_u.out.lt; simp; omega) ?_); intro v4 w4 hown hgrow hblk; have OW_4 : Hid (OwnI w4 (w.heap.size + 1) v4 (out ++ [x])) := Lib.hid (OwnI.snoc hown); have BB_4 : Hid (Below w.heap.size w w4) := Lib.hid (below_gb (BB_u.out.alloc BB_u.out.size _) hgrow (Nat.le_trans BB_u.out.size (by simp)) (fun b hb => Nat.le_of_succ_le (World.ownsRow.lt OW_u.out b hb).1)); have RX_4 : Hid (IRow w4 w.heap.size x) := Lib.hid ((hgrow.block w.heap.size (by have := RX_u.out.lt; simp; omega) (fun e => by have := (World.ownsRow.lt OW_u.out w.heap.size e.symm).1; omega)).trans (IRow.below RX_u.out ((Below.refl _ _).alloc (Nat.le_refl _) _) RX_u.out.lt)); clear hown hgrow hblk)
        | ((with_reducible show wpList _ _ _ (⟨some 48, .load 25 (.tmp 3), _, _, _, _⟩ :: _) _ _); refine wpList_load_v (by rfl) 25 _ rfl w.heap.size (by exact rfl) _ Try.underlying25 25 ([.int .i64 x.a, .int .i64 x.k, .int .u8 (x.v : Int)]) RX_u.out (by kernel_rfl) ?_))
      go_loopw [8, 10] (fun ov iv wr => ∃ (k : Nat) (out : List In), k ≤ l.length ∧ iv = .int .i64 (k : Int) ∧ out ++ (l.drop k).filter (fun y => aheadI x y) = setL l x ∧ out.length ≤ l.length + 1 + k ∧ OwnI wr (w.heap.size + 1) ov out ∧ IRow wr w.heap.size x ∧ Below w.heap.size w wr) (fun _ iv _ => l.length - (intOf iv).toNat)
      case atStart => exact ⟨0, out ++ [x], by omega, rfl, by rw [HOUT.out]; rfl, by have := HLO.out; simp; omega, OW_4.out, RX_4.out, BB_4.out⟩
      case round =>
        clear RX_4 BB_4
        clear OW_4 OW_u RX_u BB_u HOUT HLO
        obtain ⟨k, out, hk, rfl, hf, ho, q1, q2, q3⟩ := hrel
        obtain ⟨u, hu⟩ : ∃ W, wr = W := ⟨_, rfl⟩
        rw [hu] at q1 q2 q3 ⊢
        have OW_u := Lib.hid q1
        have RX_u := Lib.hid q2
        have BB_u := Lib.hid q3
        have HF := Lib.hid hf
        have HO := Lib.hid ho
        clear q2 q3 hf hu ho
        obtain ⟨oA, ocap, rfl⟩ := q1.form
        clear q1
        by_cases hlt : k < l.length
        · obtain ⟨y, hy⟩ : ∃ y, l[k]? = some y := ⟨l[k], List.getElem?_eq_getElem hlt⟩
          obtain ⟨a, hA, hab, hok, hcc, _⟩ := (HR.out.below BB_u.out HBW.out).get hy
          subst hA
          have HC := Lib.hid hcc
          have hab2 := Lib.hid hab
          have BU := Lib.hid (Nat.le_trans HBW.out BB_u.out.size)
          have d1 : (k : Int) < (l.length : Int) := by omega
          have hdr := drop_at l k y hy
          have HDR := Lib.hid hdr
          have HLT := Lib.hid (And.intro hlt HO.out)
          have KA := Lib.hid (fun W => rAhead_any x y W HXO.out hok)
          obtain ⟨ah, hah⟩ : ∃ z, aheadI x y = z := ⟨_, rfl⟩
          have HAH := Lib.hid hah
          rw [hah] at KA
          clear hdr hy hcc hok hlt hab hah
          go_upto_region 17 with fail
          refine wp_region_noPanic ?_
          refine wp_region_held_drew (S := fun X => Below u.heap.size u X) (by kernel_rfl) ((Below.refl _ u).drew) (fun hHeld => ?_)
          refine' take_ 0 rfl (by kernel_rfl) (by kernel_rfl) (by kernel_rfl) (fun _ _ _ h => h) (by rfl) (fun wS hSw => run_load_v wS 25 _ w.heap.size rfl _ Try.underlying25 25 (ic x) (IRow.below RX_u.out hSw RX_u.out.lt) (by kernel_rfl) _ _ _ _ _) hHeld ?_
          try simp only [Act.put, List.setIfInBounds_toArray, List.set_cons_zero, List.set_cons_succ]
          refine' take_ 1 rfl (by kernel_rfl) (by kernel_rfl) (by kernel_rfl) (fun _ _ _ h => h) (by rfl) (fun wS hSw => ?_) hHeld ?_
          rotate_left
          focus (go_simp; (try with_reducible rfl); done)
          try simp only [Act.put, List.setIfInBounds_toArray, List.set_cons_zero, List.set_cons_succ]
          refine' take_ 2 rfl (by kernel_rfl) (by kernel_rfl) (by kernel_rfl) (fun _ _ _ h => h) (by rfl) (fun wS hSw => ?_) hHeld ?_
          rotate_left
          focus (go_simp; (try with_reducible rfl); done)
          try simp only [Act.put, List.setIfInBounds_toArray, List.set_cons_zero, List.set_cons_succ]
          refine' take_ 3 rfl (by kernel_rfl) (by kernel_rfl) (by kernel_rfl) (fun _ _ _ h => h) (by rfl) (fun wS hSw => ?_) hHeld ?_
          rotate_left
          focus (go_simp; (try with_reducible rfl); done)
          try simp only [Act.put, List.setIfInBounds_toArray, List.set_cons_zero, List.set_cons_succ]
          refine' take_ 4 rfl (by kernel_rfl) (by kernel_rfl) (by kernel_rfl) (fun _ _ _ h => h) (by rfl) (fun wS hSw => run_load_ad wS 25 _ _ rfl _ _ (HC.out.below hSw (by rw [add_block]; exact Nat.lt_of_lt_of_le hab2.out BU.out)) Try.underlying25 rfl (by kernel_rfl) _ _ _ _ _) hHeld ?_
          try simp only [Act.put, List.setIfInBounds_toArray, List.set_cons_zero, List.set_cons_succ]
          refine only_ 5 rfl (by kernel_rfl) (by rfl) (fun K hK => ?_)
          obtain ⟨Y, hY⟩ : ∃ Y, u.drew = Y := ⟨_, rfl⟩
          rw [hY] at hHeld ⊢
          clear hY
          refine wp_call_ret 21 _ _ rfl _ (by rfl) (by kernel_rfl) _ (KA.out _) (fun Y2 hB => ?_)
          have hH2 := hHeld.trans (hB.mono hHeld.size)
          refine hK.out _ _ hH2 (fun _ => ?_)
          clear hK K hB hHeld
          have hHeld := hH2
          clear hH2
          show wpAnyH _ _ _ _ _ _ _ (Act.put _ (some 62) _) _
          try simp only [Act.put, List.setIfInBounds_toArray, List.set_cons_zero, List.set_cons_succ]
          refine wpAnyH_done (by kernel_rfl) ?_ _
          refine NoPanic.normal ?_
          have OW_z := Lib.hid (OW_u.out.below hHeld (Nat.le_refl _))
          have RX_z := Lib.hid (IRow.below RX_u.out hHeld RX_u.out.lt)
          have BB_z := Lib.hid (BB_u.out.trans (hHeld.mono BB_u.out.size))
          have HC2 : Hid (CellsA Y2 (a.add (k * 3)) [.int .i64 y.a, .int .i64 y.k, .int .u8 (y.v : Int)]) := Lib.hid (HC.out.below hHeld (by rw [add_block]; exact Nat.lt_of_lt_of_le hab2.out BU.out))
          clear hHeld OW_u RX_u BB_u
          obtain ⟨z, hz⟩ : ∃ Y, Y2 = Y := ⟨_, rfl⟩
          rw [hz] at OW_z RX_z BB_z HC2 ⊢
          clear hz
          cases ah
          · have HST : Hid (out ++ (l.drop (k + 1)).filter (fun y => aheadI x y) = setL l x) := Lib.hid (by have h := HF.out; rw [HDR.out, List.filter_cons, if_neg (by rw [HAH.out]; decide)] at h; exact h)
            go_wp2_with fail
            go_roundw
            case rel => exact ⟨k + 1, out, by have := HLT.out.1; omega, by go_num, HST.out, by have := HLT.out.2; omega, OW_z.out, RX_z.out, BB_z.out⟩
            case measure =>
              simp [intOf]
              have := HLT.out.1
              (try omega)
          · have HST : Hid ((out ++ [y]) ++ (l.drop (k + 1)).filter (fun y => aheadI x y) = setL l x) := Lib.hid (by have h := HF.out; rw [HDR.out, List.filter_cons, if_pos HAH.out] at h; rw [← h]; simp)
            go_wp2_with (first
              | (at_builtin; (with_reducible show wpList _ _ _ (⟨some 69, _, _, _, _, _⟩ :: _) _ _); go_must (refine wpList_append_blk _ rfl (.tmp 63) (.tmp 68) 22 rfl (w.heap.size + 1) 25 i0 _ 3 24 Try.underlying22 H12.out H9.out H10.out H11.out rfl (by omega) (.slice oA out.length ocap) (out).length ((out).flatMap ic) rfl (OW_z.out.below ((Below.refl z.heap.size z).alloc (Nat.le_refl _) _) (Nat.le_refl _)) ⟨z.heap.size, 0, none⟩ 1 1 (ic y) rfl rfl (news_in z y _ rfl) (ic_one y) (by simp only [maxLen]; have := HLT.out.1; have := HLT.out.2; have := HL.out; omega) (by have := HLT.out.1; have := HLT.out.2; have := HL.out; omega) (by have := RX_z.out.lt; simp; omega) ?_); intro v3 w3 hown hgrow hblk; have OW_3 : Hid (OwnI w3 (w.heap.size + 1) v3 (out ++ [y])) := Lib.hid (OwnI.snoc hown); have BB_3 : Hid (Below w.heap.size w w3) := Lib.hid (below_gb (BB_z.out.alloc BB_z.out.size _) hgrow (Nat.le_trans BB_z.out.size (by simp)) (fun b hb => Nat.le_of_succ_le (World.ownsRow.lt OW_z.out b hb).1)); have RX_3 : Hid (IRow w3 w.heap.size x) := Lib.hid ((hgrow.block w.heap.size (by have := RX_z.out.lt; simp; omega) (fun e => by have := (World.ownsRow.lt OW_z.out w.heap.size e.symm).1; omega)).trans (IRow.below RX_z.out ((Below.refl _ _).alloc (Nat.le_refl _) _) RX_z.out.lt)); clear hown hgrow hblk)
              | ((with_reducible show wpList _ _ _ (⟨some 67, .load 25 (.tmp 66), _, _, _, _⟩ :: _) _ _); refine wpList_load_addr rfl 25 _ rfl (a.add (k * 3)) rfl _ _ HC2.out Try.underlying25 rfl (by kernel_rfl) ?_))
            go_roundw
            case rel => exact ⟨k + 1, out ++ [y], by have := HLT.out.1; omega, by go_num, HST.out, by have := HLT.out.2; simp; omega, OW_3.out, RX_3.out, BB_3.out⟩
            case measure =>
              simp [intOf]
              have := HLT.out.1
              (try omega)
        · obtain rfl : k = l.length := by omega
          have d1 : ¬ (l.length : Int) < (l.length : Int) := by omega
          have HOUT : Hid (out = setL l x) := Lib.hid (by have h := HF.out; rw [List.drop_length] at h; simpa using h)
          clear hlt hk
          go_wp2_with fail
          refine bodyPost_ret (v := .tuple #[.slice oA out.length ocap, .int .i64 0]) (results_tt Try.results23 _ _ _ _ _ rfl rfl) rfl ⟨?_, BB_u.out⟩
          have hsl := set_len l x
          obtain ⟨A', cap', e, hrd⟩ := OW_u.out.rd (by rw [HOUT.out]; omega) (by rw [HOUT.out]; exact set_ok HR.out.ok HXO.out)
          rw [HOUT.out] at e hrd ⊢
          rw [HE.out.1, HE.out.2]
          exact ⟨A', cap', by rw [← e]; rfl, hrd⟩
end Go.Proofs.Ytimlhckihkjifaa
