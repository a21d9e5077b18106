/-
  LexCovers, its walk: it answers true for all slices of bytes and texts. Conditions: the listed variables hold what they hold.
-/
import Derived.Test.YtmebcenjghagoaaGreatDoorCovM
import Derived.Test.YtmebcenjghagoaaGreatDoorWorks
namespace Go.Proofs.YtmebcenjghagoaaGreatDoor
open Go.RowKit

theorem pair0 (a b : ByteArray) (w : World) : (Instr.index 28 (.agg #[.string a, .string b]) (.int .i64 0)).run Tryz.prog w = .ok (.string a) w := by kernel_rfl
theorem pair1 (a b : ByteArray) (w : World) : (Instr.index 28 (.agg #[.string a, .string b]) (.int .i64 1)).run Tryz.prog w = .ok (.string b) w := by kernel_rfl
theorem ag_next (bs : List UInt8) (pre : List Tk) (x : Tk) (i : Nat) (h : agS 0 pre = ⟨bs.toArray⟩) (hi : pre.length = i) : agS 0 (pre ++ [x]) = ⟨((bs ++ x.t.data.toList) ++ (sepS i).data.toList).toArray⟩ := by
  rw [agS_snoc, h, Nat.zero_add, hi]
  apply ByteArray.ext
  simp [ByteArray.data_append]
theorem sep_cell (W : World) (i r : Nat) (h : i % 2 = r) : (W.alloc (.cells #[.string ⟨#[32]⟩, .string ⟨#[10]⟩] 9)).cell? ⟨W.heap.size, r, none⟩ = some (.string (sepS i)) := by
  rw [World.cell?_alloc_mark]
  unfold sepS
  subst h
  rcases Nat.mod_two_eq_zero_or_one i with h | h <;> rw [h] <;> rfl
theorem cut300 (raw : ByteArray) (m : Nat) (h : m ≤ 300) : (raw.extract 0 m).size ≤ 2000 := by
  rw [ByteArray.size_extract]
  omega
set_option maxRecDepth 100000 in
set_option maxHeartbeats 16000000 in
theorem covers_any (A : Option Addr) (n c : Nat) (l : List Nat) (raw : ByteArray) (w : World) (hL : LaidL w) (hl : l.length = n) (h256 : ∀ x ∈ l, x < 256) (hA : RdB w w.heap.size A l) :
    Calls Tryz.prog 4 #[.slice A n c, .string raw] w fun e w' => e = .returned (.bool true) ∧ Below w.heap.size w w' := by
  have HL := Lib.hid hL
  have hlt := hL.lt
  have HA := Lib.hid hA
  have Hl := Lib.hid hl
  clear hL hA hl
  go_enter Tryz.func4, Tryz.ntmps4
  go_wp2_with fail
  refine (works_any _ HL.out).mono ?_
  rintro e w1 ⟨rfl, hb1⟩
  have B1 := Lib.hid hb1.drew
  have HR := Lib.hid (HA.out.below B1.out (Nat.le_refl _))
  have HM := Lib.hid (made_any A n c l w1.drew Hl.out h256 ⟨HR.out.none_, fun a ha hne => Nat.lt_of_lt_of_le (HR.out.low a ha hne) B1.out.size, HR.out.cells⟩)
  clear hb1 HR HA
  obtain ⟨m, hm⟩ : ∃ m : Nat, min (raw.size : Int) 300 = (m : Int) := ⟨(min (raw.size : Int) 300).toNat, by omega⟩
  have hm1 : m ≤ raw.size := by omega
  have hm2 : m ≤ 300 := by omega
  go_wp2_with fail
  refine wp_region_noPanic ?_
  refine wp_region_held_drew (S := (fun _ => True)) (by kernel_rfl) trivial (fun hHeld => ?_)
  refine' take_ 0 rfl (by kernel_rfl) (by kernel_rfl) (by kernel_rfl) (fun _ _ _ h => h) (by rfl) (fun wS hSw => ?_) hHeld ?_
  rotate_left
  focus (go_simp; (try with_reducible rfl); done)
  try simp only [Act.put, List.setIfInBounds_toArray, List.set_cons_zero, List.set_cons_succ]
  refine' take_ 2 rfl (by kernel_rfl) (by kernel_rfl) (by kernel_rfl) (fun _ _ _ h => h) (by rfl) (fun wS hSw => ?_) hHeld ?_
  rotate_left
  focus (go_simp; (try with_reducible rfl); done)
  try simp only [Act.put, List.setIfInBounds_toArray, List.set_cons_zero, List.set_cons_succ]
  refine' take_ 3 rfl (by kernel_rfl) (by kernel_rfl) (by kernel_rfl) (fun _ _ _ h => h) (by rfl) (fun wS hSw => ?_) hHeld ?_
  rotate_left
  focus (go_simp; (try with_reducible rfl); done)
  try simp only [Act.put, List.setIfInBounds_toArray, List.set_cons_zero, List.set_cons_succ]
  refine' take_ 4 rfl (by kernel_rfl) (by kernel_rfl) (by kernel_rfl) (fun _ _ _ h => h) (by rfl) (fun wS hSw => ?_) hHeld ?_
  rotate_left
  focus (go_simp; (try with_reducible rfl); done)
  try simp only [Act.put, List.setIfInBounds_toArray, List.set_cons_zero, List.set_cons_succ]
  refine' take_ 5 rfl (by kernel_rfl) (by kernel_rfl) (by kernel_rfl) (fun _ _ _ h => h) (by rfl) (fun wS hSw => ?_) hHeld ?_
  rotate_left
  focus (go_simp; (try with_reducible rfl); done)
  try simp only [Act.put, List.setIfInBounds_toArray, List.set_cons_zero, List.set_cons_succ]
  refine' take_ 6 rfl (by kernel_rfl) (by kernel_rfl) (by kernel_rfl) (fun _ _ _ h => h) (by rfl) (fun wS hSw => ?_) hHeld ?_
  rotate_left
  focus (go_simp; (try with_reducible rfl); done)
  try simp only [Act.put, List.setIfInBounds_toArray, List.set_cons_zero, List.set_cons_succ]
  refine' take_ 8 rfl (by kernel_rfl) (by kernel_rfl) (by kernel_rfl) (fun _ _ _ h => h) (by rfl) (fun wS hSw => ?_) hHeld ?_
  rotate_left
  focus (go_simp; (try with_reducible rfl); done)
  try simp only [Act.put, List.setIfInBounds_toArray, List.set_cons_zero, List.set_cons_succ]
  refine only_ 1 rfl (by kernel_rfl) (by rfl) (fun K hK => ?_)
  go_simp
  refine HM.out.mono ?_
  rintro e w2 ⟨s0, rfl, hs0, hb2⟩
  have B2 := Lib.hid (B1.out.trans (hb2.mono B1.out.size))
  clear hb2 HM
  go_simp
  refine hK.out _ _ trivial (fun hHeld2 => ?_)
  clear hK K hHeld
  have hHeld := hHeld2
  clear hHeld2
  try simp only [Act.put, List.setIfInBounds_toArray, List.set_cons_zero, List.set_cons_succ]
  refine' take_ 7 rfl (by kernel_rfl) (by kernel_rfl) (by kernel_rfl) (fun _ _ _ h => h) (by rfl) (fun wS hSw => ?_) hHeld ?_
  rotate_left
  focus (go_simp; (try with_reducible rfl); done)
  try simp only [Act.put, List.setIfInBounds_toArray, List.set_cons_zero, List.set_cons_succ]
  refine wpAnyH_done (by kernel_rfl) ?_ _
  refine NoPanic.normal ?_
  have hs1 := cut300 raw m hm2
  generalize raw.extract 0 m = s1 at *
  clear hm hm1 hm2
  go_wp2
  go_loopw [25] (fun i wr => ∃ k : Nat, k ≤ 2 ∧ i = .int .i64 k ∧ Below w.heap.size w wr) (fun i _ => 2 - (intOf i).toNat)
  case atStart => exact ⟨0, Nat.zero_le _, rfl, B2.out⟩
  case round =>
    obtain ⟨k, hk, rfl, hbr⟩ := hrel
    have HB := Lib.hid hbr
    clear hbr
    obtain ⟨wo, rfl⟩ : ∃ wo, wo = wr := ⟨_, rfl⟩
    by_cases hk2 : k = 2
    · subst hk2
      go_wp2
      go_ret
      exact ⟨rfl, HB.out⟩
    obtain ⟨S, hsz, hpr⟩ : ∃ S : ByteArray, S.size ≤ 2000 ∧ (Instr.index 28 (.agg #[.string s0, .string s1]) (.int .i64 (k : Int))).run Tryz.prog wo = .ok (.string S) wo := by
      rcases (by omega : k = 0 ∨ k = 1) with rfl | rfl
      · exact ⟨s0, hs0, pair0 s0 s1 wo⟩
      · exact ⟨s1, hs1, pair1 s0 s1 wo⟩
    have hk1 : (k : Int) < 2 := by omega
    clear hk2
    go_wp2_with fail
    refine (Lex_any S wo (HL.out.below HB.out hlt) (by omega)).mono ?_
    rintro e w4 ⟨v4, ev4, rfl, ho4, he4, hb4⟩
    have B4 := Lib.hid (HB.out.trans (hb4.mono HB.out.size))
    clear hb4
    by_cases hbad : (lexS S).2.1 ≠ 0
    · obtain ⟨b4, rfl, r4⟩ := he4.row hbad
      rw [lexS_fault S hbad] at ho4
      obtain ⟨A4, c4, rfl⟩ := ho4.form
      clear ho4 r4 hbad
      go_wp2
      exact ⟨⟨k + 1, by omega, by go_num, B4.out⟩, by simp only [intOf]; omega⟩
    have hok : (lexS S).2.1 = 0 := by omega
    have hnil := he4.nil hok
    subst hnil
    have HC0 := Lib.hid (lexS_cov S hok)
    have HAN := Lib.hid (lexS_anew S hsz hok)
    have hln := lexS_len S
    generalize (lexS S).1 = toks at *
    obtain ⟨nt, hnt⟩ : ∃ k, toks.length = k := ⟨_, rfl⟩
    have HO4 := Lib.hid ho4
    obtain ⟨A4, c4, rfl⟩ := ho4.form
    rw [hnt] at hln ⊢
    have Hnt := Lib.hid hnt
    clear hnt ho4 he4 hbad hok
    go_wp2
    go_loopw [9, 11] (fun at_ iv wr => ∃ (pre rest : List Tk) (q i : Nat) (bs : List UInt8), at_ = .int .i64 q ∧ iv = .int .i64 i ∧ Hid (pre.length = i) ∧ Hid (toks = pre ++ rest) ∧ Hid (Cov S q rest) ∧ Lib.IsBuilderF 36 5 w4.heap.size w4.heap.size (Lib.byteCells bs) wr ∧ Hid (agS 0 pre = ⟨bs.toArray⟩) ∧ Below w4.heap.size w4 wr) (fun _ iv _ => nt - (intOf iv).toNat)
    case atStart => exact ⟨[], toks, 0, 0, [], rfl, rfl, rfl, rfl, HC0.out, Or.inl ⟨Nat.le_refl _, _, alloc_at _ _ _ rfl, World.ownsRowF_of (World.ownsRow_nil _ _ _ _), by intro h; cases h⟩, rfl, (Below.refl _ _).alloc (Nat.le_refl _) _⟩
    case round =>
      obtain ⟨pre, rest, q, i, bs, rfl, rfl, HPI, HT, HCv, hbu, HAG, hbr⟩ := hrel
      have HBU := Lib.hid hbu
      have HBR := Lib.hid hbr
      have hz := hbr.size
      have hbl : bs.length ≤ 5000 := by
        have h1 := HAN.out.2.2.1
        rw [HT.out, agS_app, ByteArray.size_append, HAG.out] at h1
        have h2 : (⟨bs.toArray⟩ : ByteArray).size = bs.length := by simp [ByteArray.size]
        omega
      clear hbu hbr
      cases rest with
      | nil =>
        as_aux_lemma =>
          have hq : q = S.size := HCv.out
          have hi : i = nt := by rw [← Hnt.out, HT.out, List.append_nil, HPI.out]
          have hpre : pre = toks := by rw [HT.out, List.append_nil]
          have HAT : Hid (agS 0 toks = ⟨bs.toArray⟩) := by rw [Hid, ← hpre]; exact HAG.out
          subst hq hi
          clear hpre HPI HT HCv HAG
          obtain ⟨wq, rfl⟩ : ∃ wq, wq = wr := ⟨_, rfl⟩
          have HST := Lib.hid (Tryz.Builder_String_any_f w4.heap.size w4.heap.size bs wq HBU.out hz)
          rw [← HAT.out] at HST
          obtain ⟨a1, a2, a3, a4⟩ := HAN.out
          have HA4 := Lib.hid a4
          obtain ⟨T2, hT2⟩ : ∃ T, agS 0 toks = T := ⟨_, rfl⟩
          rw [hT2] at HST a1 a2 a3 HA4
          clear a4 hT2 HAT HAN
          go_wp2_with fail
          refine HST.out.mono ?_
          rintro e w5 ⟨rfl, _, hbe⟩
          have B5 := Lib.hid (HBR.out.trans hbe)
          clear hbe HST
          go_wp2_with fail
          refine (Lex_any T2 w5 (HL.out.below (B4.out.trans (B5.out.mono B4.out.size)) hlt) (by omega)).mono ?_
          rintro e w6 ⟨v6, ev6, rfl, ho6, he6, hb6⟩
          have B6 := Lib.hid (B5.out.trans (hb6.mono B5.out.size))
          have hnil6 := he6.nil (by rw [a1])
          subst hnil6
          clear hb6 he6
          generalize (lexS T2).1 = M at *
          have HO6 := Lib.hid ho6
          obtain ⟨A6, c6, rfl⟩ := ho6.form
          rw [Hnt.out] at a2 HA4
          rw [a2]
          have HM := Lib.hid a2
          have HQ4 := Lib.hid (HO4.out.below B6.out (Nat.le_refl _)).at_.1
          have HQ6 := Lib.hid HO6.out.at_.1
          clear a1 a2 a3 ho6
          go_wp2
          go_loopw [14] (fun jv wr => ∃ (j m : Nat), j ≤ i ∧ jv = .int .i64 j ∧ wr = w6.drewN m) (fun jv _ => i - (intOf jv).toNat)
          case atStart => exact ⟨0, 0, Nat.zero_le _, rfl, rfl⟩
          case round =>
            obtain ⟨j, m, hj, rfl, rfl⟩ := hrel
            by_cases hjo : j < i
            · have j1 : (j : Int) < (i : Int) := by omega
              obtain ⟨x, hx⟩ : ∃ x, toks[j]? = some x := ⟨_, List.getElem?_eq_getElem (by rw [Hnt.out]; exact hjo)⟩
              obtain ⟨y, hy⟩ : ∃ y, M[j]? = some y := ⟨_, List.getElem?_eq_getElem (by rw [HM.out]; exact hjo)⟩
              obtain ⟨b4, rfl⟩ : ∃ a, A4 = some a := by
                cases A4 with
                | none => rw [HQ4.out.none_ rfl] at hx; cases hx
                | some a => exact ⟨a, rfl⟩
              obtain ⟨b6, rfl⟩ : ∃ a, A6 = some a := by
                cases A6 with
                | none => rw [HQ6.out.none_ rfl] at hy; cases hy
                | some a => exact ⟨a, rfl⟩
              obtain ⟨n1, n2, n3, n4⟩ := HA4.out j x y hx hy
              obtain ⟨d0, d1, d2, d3, d4⟩ := HQ4.out.cells b4 rfl j x hx
              obtain ⟨g0, g1, g2, g3, g4⟩ := HQ6.out.cells b6 rfl j y hy
              rw [n1] at g0
              rw [n2] at g3
              rw [n3] at g4
              clear d1 d2 g1 n1 n2 n3 hx hy
              obtain ⟨z, hz0⟩ : ∃ z, j / 2 = z := ⟨_, rfl⟩
              rw [hz0] at n4
              have z1 : (j : Int) / 2 = (z : Int) := by omega
              have z2 : (j : Int).tdiv 2 = (z : Int) := by rw [Int.tdiv_eq_ediv_of_nonneg (by omega)]; exact z1
              have z3 : IntKind.i64.wrap (1 + (z : Int)) = 1 + (z : Int) := IntWalk.i64_in _ (by omega)
              by_cases hyl : y.l = 1 + z
              · rw [hyl] at g2
                rw [show ((1 + z : Nat) : Int) = 1 + (z : Int) from by omega] at g2
                clear n4 hyl hz0
                go_wp2
                (try simp only [List.append_eq, List.cons_append, List.nil_append])
                go_quiet (fail)
                go_wp2
                exact ⟨⟨j + 1, m + nq, by omega, by go_num, rfl⟩, by simp only [intOf]; omega⟩
              · have h1 : ((y.l : Int) != 1 + (z : Int)) = true := by simp; omega
                have h2 : decide ((j : Int) < (i : Int) - 1) = false := by
                  simp
                  rcases Nat.lt_or_ge (j + 1) i with h | h
                  · exact absurd (n4 h) hyl
                  · omega
                clear n4 hyl hz0
                go_wp2
                (try simp only [List.append_eq, List.cons_append, List.nil_append])
                go_quiet (fail)
                go_wp2
                exact ⟨⟨j + 1, m + nq, by omega, by go_num, rfl⟩, by simp only [intOf]; omega⟩
            · have j1 : ¬ (j : Int) < (i : Int) := by omega
              go_wp2
              exact ⟨⟨k + 1, by omega, by go_num, B4.out.trans (below_drewN B6.out m |>.mono B4.out.size)⟩, by simp only [intOf]; omega⟩
      | cons x l' =>
        have hgo : i < nt := by rw [← Hnt.out, HT.out, List.length_append, HPI.out, List.length_cons]; omega
        have hx : toks[i]? = some x := by rw [HT.out, List.getElem?_append_right (by rw [HPI.out]; exact Nat.le_refl _), HPI.out, Nat.sub_self]; rfl
        have hlast : l'.isEmpty = true ↔ i + 1 = nt := by
          rw [← Hnt.out, HT.out, List.length_append, HPI.out, List.length_cons]
          cases l' <;> simp
        obtain ⟨a4, rfl⟩ : ∃ a, A4 = some a := by
          cases A4 with
          | none => rw [HO4.out.at_.1.none_ rfl] at hx; cases hx
          | some a => exact ⟨a, rfl⟩
        obtain ⟨d0, d1, d2, d3, d4⟩ := (HO4.out.below HBR.out (Nat.le_refl _)).at_.1.cells a4 rfl i x hx
        have tk := HCv.out.tok
        have HTK := Lib.hid tk
        have HBA := Lib.hid (fun w => (bare_any _ tk.bare w).mono (R' := fun e w' => e = .returned (.bool true) ∧ w' = w) (by rintro e w' ⟨rfl, rfl⟩; exact ⟨rfl, rfl⟩))
        have HLI := Lib.hid (fun w => (Line_any S (x.p : Int) (by omega) w).mono (R' := fun e w' => e = .returned (.int .i64 (lineS S x.p : Nat)) ∧ w' = w) (by rintro e w' ⟨rfl, rfl⟩; exact ⟨rfl, rfl⟩))
        have t1 := tk.ge
        have t2 := tk.le
        have t3 := tk.text
        rw [tk.line] at d2
        obtain ⟨r, hr⟩ : ∃ r, i % 2 = r := ⟨_, rfl⟩
        have hr0 : r < 2 := by omega
        have hr1 : (i : Int) % 2 = (r : Int) := by omega
        have hr2 : (i : Int).tmod 2 = (r : Int) := by rw [Int.tmod_eq_emod_of_nonneg (by omega)]; exact hr1
        have k1 : (i : Int) < (nt : Int) := by omega
        have HX := Lib.hid (fun (q' : Nat) (bs' : List UInt8) => (⟨x, q', bs', HCv.out.2.2.2.2⟩ : ∃ y : Tk, ∃ _ : Nat, ∃ _ : List UInt8, Cov S (y.p + y.t.size) l'))
        clear HX
        have HCn := Lib.hid HCv.out.2.2.2.2
        have HAn := Lib.hid (ag_next bs pre x i HAG.out HPI.out)
        have HTn : Hid (toks = (pre ++ [x]) ++ l') := by rw [Hid, HT.out]; simp
        have hkind := tk.kind
        have hempty := tk.empty
        have hnum := tk.num
        obtain ⟨xk, xp, xl, xt, xn⟩ := x
        simp only at *
        have e1 : decide (xp < q) = false := by simp; omega
        have e2 : decide ((S.size : Int) < (xp : Int) + (xt.size : Int)) = false := by simp; omega
        have e3 : ((xp : Int) + (xt.size : Int)).toNat = xp + xt.size := by omega
        have e4 : (xp : Int) + (xt.size : Int) ≤ (S.size : Int) := by omega
        have hxs : xt.size ≤ 2000 := by omega
        clear hx tk HCv HAG HT
        obtain ⟨b0, hb0⟩ : ∃ b0 : Bool, decide (i + 1 = nt) = b0 := ⟨_, rfl⟩
        have f0 : xk = 0 ↔ i + 1 = nt := by rw [← hlast]; exact iff_of_eq hkind
        have f00 : xt.size = 0 ↔ xk = 0 := iff_of_eq hempty
        have f1 : ((xk : Int) == 0) = b0 := by
          rw [← hb0, Bool.eq_iff_iff, decide_eq_true_iff, ← f0]
          simp
        have f2 : ((i : Int) == (nt : Int) - 1) = b0 := by
          rw [← hb0, Bool.eq_iff_iff, decide_eq_true_iff]
          simp
          omega
        have f5 : xt.toList.isEmpty = b0 := by
          rw [← hb0, Bool.eq_iff_iff, decide_eq_true_iff, ← f0, ← f00, Lib.toList_data, Lib.size_eq]
          exact List.isEmpty_iff.trans List.length_eq_zero_iff.symm
        have f4 : (xt.toList == []) = b0 := by rw [← f5]; cases xt.toList <;> rfl
        clear hkind hempty hlast f00
        by_cases hk2 : xk = 2
        · have hb1 : b0 = false := by
            rw [← hb0, decide_eq_false_iff_not, ← f0]
            omega
          subst hb1
          subst hk2
          clear hnum f1 f0 hb0
          as_aux_lemma =>
            go_wp2
            simp only [List.append_eq, List.cons_append, List.nil_append]
            go_quiet ((first | (go_at_call 14; exact Calls.quiet_of_same (HBA.out _)) | (go_at_call 10; exact Calls.quiet_of_same (HLI.out _))))
            have HW1 := Lib.hid (fun o => writeString_k w4.heap.size w4.heap.size (Lib.byteCells bs) xt ((wr.alloc o).drewN nq) (show Lib.IsBuilderF 36 5 _ _ _ ((wr.alloc o).drewN nq) from HBU.out.alloc o) (by rw [Lib.byteCells_length]; omega) (by simp; omega))
            go_wp2_with fail
            refine (HW1.out _).mono ?_
            rintro e w5 ⟨rfl, hb5, hbe5, _⟩
            have BE5 := Lib.hid ((below_drewN (HBR.out.alloc hz _) nq).trans hbe5)
            have HW2 := Lib.hid (writeString_k w4.heap.size w4.heap.size _ (sepS i) (w5.alloc (.cells #[.string ⟨#[32]⟩, .string ⟨#[10]⟩] 9)) (Lib.IsBuilderF.alloc (Or.inr hb5) _) (by rw [List.length_append, Lib.byteCells_length, Lib.strCells_length, sepS_size]; omega) (by have := BE5.out.size; simp; omega))
            have hsp := sep_cell w5 i r hr
            clear hb5 hbe5 HW1
            go_wp2_with fail
            refine HW2.out.mono ?_
            rintro e w6 ⟨rfl, hb6, hbe6, _⟩
            have BE6 := Lib.hid ((BE5.out.alloc BE5.out.size _).trans hbe6)
            have HB6 := Lib.hid hb6
            clear hb6 hbe6 HW2 hsp
            go_wp2
            exact ⟨⟨pre ++ [⟨2, xp, xl, xt, xn⟩], l', xp + xt.size, i + 1, (bs ++ xt.data.toList) ++ (sepS i).data.toList, by go_num, by go_num, (by rw [Hid, List.length_append, HPI.out]; rfl), HTn, HCn, Or.inr (by rw [Lib.byteCells_append, Lib.byteCells_append, ← Lib.strCells_eq, ← Lib.strCells_eq]; exact HB6.out), HAn, BE6.out⟩, by simp only [intOf]; omega⟩
        · have hn0 := hnum hk2
          have f6 : ((xk : Int) != 2) = true := by simp; omega
          clear hnum f0 hb0
          subst hn0
          as_aux_lemma =>
            go_wp2
            simp only [List.append_eq, List.cons_append, List.nil_append]
            go_quiet ((first | (go_at_call 14; exact Calls.quiet_of_same (HBA.out _)) | (go_at_call 10; exact Calls.quiet_of_same (HLI.out _))))
            have HW1 := Lib.hid (fun o => writeString_k w4.heap.size w4.heap.size (Lib.byteCells bs) xt ((wr.alloc o).drewN nq) (show Lib.IsBuilderF 36 5 _ _ _ ((wr.alloc o).drewN nq) from HBU.out.alloc o) (by rw [Lib.byteCells_length]; omega) (by simp; omega))
            go_wp2_with fail
            refine (HW1.out _).mono ?_
            rintro e w5 ⟨rfl, hb5, hbe5, _⟩
            have BE5 := Lib.hid ((below_drewN (HBR.out.alloc hz _) nq).trans hbe5)
            have HW2 := Lib.hid (writeString_k w4.heap.size w4.heap.size _ (sepS i) (w5.alloc (.cells #[.string ⟨#[32]⟩, .string ⟨#[10]⟩] 9)) (Lib.IsBuilderF.alloc (Or.inr hb5) _) (by rw [List.length_append, Lib.byteCells_length, Lib.strCells_length, sepS_size]; omega) (by have := BE5.out.size; simp; omega))
            have hsp := sep_cell w5 i r hr
            clear hb5 hbe5 HW1
            go_wp2_with fail
            refine HW2.out.mono ?_
            rintro e w6 ⟨rfl, hb6, hbe6, _⟩
            have BE6 := Lib.hid ((BE5.out.alloc BE5.out.size _).trans hbe6)
            have HB6 := Lib.hid hb6
            clear hb6 hbe6 HW2 hsp
            go_wp2
            exact ⟨⟨pre ++ [⟨xk, xp, xl, xt, 0⟩], l', xp + xt.size, i + 1, (bs ++ xt.data.toList) ++ (sepS i).data.toList, by go_num, by go_num, (by rw [Hid, List.length_append, HPI.out]; rfl), HTn, HCn, Or.inr (by rw [Lib.byteCells_append, Lib.byteCells_append, ← Lib.strCells_eq, ← Lib.strCells_eq]; exact HB6.out), HAn, BE6.out⟩, by simp only [intOf]; omega⟩
end Go.Proofs.YtmebcenjghagoaaGreatDoor
