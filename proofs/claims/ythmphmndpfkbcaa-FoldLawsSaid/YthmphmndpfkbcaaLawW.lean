/-
  FoldLaws' walk. Made by wip/genfoldlaws2.py.
-/
import Derived.Test.YthmphmndpfkbcaaLawF
import Derived.Deep.DeepCutAuto
namespace Go.Proofs.Ythmphmndpfkbcaa
open Go.RowKit
theorem un_last (a : Int) (w : World) (ha : -2147483648 ≤ a) (ha2 : a ≤ 2147483647) :
    Calls Try.prog 16 #[.int .i64 7, .int .i64 1, .int .i32 a] w fun e w' => e = .returned (.int .i32 (wrapT 1 a)) ∧ Below w.heap.size w w' := by
  have h : unV 7 1 a = wrapT 1 a := by simp [unV]
  rw [← h]
  exact un7 1 a w ha ha2
theorem un_last2 (a : Int) (w : World) (ha : -2147483648 ≤ a) (ha2 : a ≤ 2147483647) :
    Calls Try.prog 16 #[.int .i64 8, .int .i64 2, .int .i32 a] w fun e w' => e = .returned (.int .i32 a) ∧ Below w.heap.size w w' := by
  have h : unV 8 2 a = a := by simp [unV]
  have := un8 2 a w ha ha2
  rw [h] at this
  exact this
/-- The division, whatever the divisor. -/
theorem divs {t a b : Int} (A : Of t a) (B : Of t b) : ∃ q r : Int, (∀ w : World, Calls Try.prog 14 #[.int .i64 10, .int .i64 t, .int .i32 a, .int .i32 b] w fun e w' => e = .returned (.tuple #[.int .i32 q, .bool (b != 0)]) ∧ Below w.heap.size w w') ∧
    (∀ w : World, Calls Try.prog 14 #[.int .i64 11, .int .i64 t, .int .i32 a, .int .i32 b] w fun e w' => e = .returned (.tuple #[.int .i32 r, .bool (b != 0)]) ∧ Below w.heap.size w w') ∧
    ((b != 0) = true → ∃ p, binFine 9 t q b p = true ∧ binFine 12 t p r a = true ∧ (r ≠ 0 → (decide (r < 0) != decide (a < 0)) = false)) := by
  by_cases hb : b = 0
  · subst hb
    refine ⟨0, 0, fun w => ?_, fun w => ?_, fun h => by simp at h⟩
    · exact bin_no 10 t a 0 w ⟨.inl rfl, rfl⟩
    · exact bin_no 11 t a 0 w ⟨.inr rfl, rfl⟩
  · obtain ⟨q, r, p, q1, q2, q3, q4, q5⟩ := quots A B hb
    have h1 : (b != 0) = true := by simpa using hb
    refine ⟨q, r, fun w => ?_, fun w => ?_, fun _ => ⟨p, q3, q4, q5⟩⟩
    · rw [h1]
      exact bin_at 10 t a b q w q1
    · rw [h1]
      exact bin_at 11 t a b r w q2
set_option maxRecDepth 100000 in
set_option maxHeartbeats 16000000 in
theorem laws_walk (first second : Int) (f1 : -2147483648 ≤ first) (f2 : first ≤ 2147483647) (g1 : -2147483648 ≤ second) (g2 : second ≤ 2147483647) (w : World) :
    Calls Try.prog 4 #[.int .i32 first, .int .i32 second] w fun e w' => e = .returned (.bool true) ∧ Below w.heap.size w w' := by
  have kf : IntKind.i64.wrap first = first := IntWalk.i64_in _ (by omega)
  have kg : IntKind.i64.wrap second = second := IntWalk.i64_in _ (by omega)
  go_enter Try.func4, Try.ntmps4
  go_wp2_with (go_at_call 6; refine (works_any _).mono ?_; rintro e w0 ⟨rfl, hb0⟩)
  have HB0 := Lib.hid hb0
  have hz0 := hb0.size
  clear hb0
  go_loopw [5] (fun iv wr => ∃ t : Int, 1 ≤ t ∧ t ≤ 3 ∧ iv = .int .i64 t ∧ Below w.heap.size w wr) (fun iv _ => (3 - intOf iv).toNat)
  case atStart => exact ⟨1, by decide, by decide, rfl, HB0.out⟩
  case round =>
    obtain ⟨t, t1, t2, rfl, hbr⟩ := hrel
    have HB := Lib.hid hbr
    clear hbr HB0 hz0
    by_cases hlt : t ≤ 2
    · have ht12 : t = 1 ∨ t = 2 := by omega
      obtain ⟨a, hwa⟩ : ∃ a, wrapT t first = a := ⟨_, rfl⟩
      obtain ⟨b, hwb⟩ : ∃ b, wrapT t second = b := ⟨_, rfl⟩
      have A : Of t a := hwa ▸ Of.wrap ht12 first
      have B : Of t b := hwb ▸ Of.wrap ht12 second
      obtain ⟨s, ng, na, hna, s1, s2, s3, s4, s5, s6, s7, hs⟩ := sums A B
      obtain ⟨lt, gt, eq, c1, c2, c3, l0, g0, e0, hsum, c4, c5, c6, hcmp, c7, c8⟩ := comps A B
      obtain ⟨n, o, x, tw, hf, b1, b2, b3, b4, b5, b6, b7, b8, hhf, h1, h2⟩ := bitss A B
      rw [← hs] at b6
      obtain ⟨q, r, dq, dr, hbs⟩ := divs A B
      have DQ := Lib.hid dq
      have DR := Lib.hid dr
      have HBS := Lib.hid hbs
      clear dq dr hbs
      obtain ⟨a1, a2⟩ := A.bd
      obtain ⟨n1, n2⟩ := hna
      obtain ⟨m1, m2⟩ := hhf
      have HWA := Lib.hid hwa
      have HWB := Lib.hid hwb
      have HAA := Lib.hid A.wr
      have S1 := Lib.hid s1
      have S2 := Lib.hid s2
      have S3 := Lib.hid s3
      have S4 := Lib.hid s4
      have S5 := Lib.hid s5
      have S6 := Lib.hid s6
      have S7 := Lib.hid s7
      have C1 := Lib.hid c1
      have C2 := Lib.hid c2
      have C3 := Lib.hid c3
      have C4 := Lib.hid c4
      have C5 := Lib.hid c5
      have C6 := Lib.hid c6
      have C7 := Lib.hid c7
      have C8 := Lib.hid c8
      have B1 := Lib.hid b1
      have B2 := Lib.hid b2
      have B3 := Lib.hid b3
      have B4 := Lib.hid b4
      have B5 := Lib.hid b5
      have B6 := Lib.hid b6
      have B7 := Lib.hid b7
      have B8 := Lib.hid b8
      have lt1 : lt ≤ 1 := by omega
      have gt1 : gt ≤ 1 := by omega
      have e1 : -2147483648 ≤ eq := by omega
      have e2 : eq ≤ 2147483647 := by omega
      have eq1 : eq ≤ 1 := by omega
      have hsb : (lt + gt + eq != 1) = false := by
        rw [hsum]
        rfl
      have ka : IntKind.i64.wrap a = a := IntWalk.i64_in _ (by omega)
      have kh : IntKind.i64.wrap hf = hf := IntWalk.i64_in _ (by omega)
      have kh2 : IntKind.i64.wrap (hf * 2) = hf * 2 := IntWalk.i64_in _ (by omega)
      have HC : Hid (((lt == 1) = true ∧ decide (b ≤ a) = false) ∨ ((lt == 1) = false)) := by
        rcases hcmp with ⟨h, rfl⟩ | ⟨h, rfl⟩
        · exact .inl ⟨rfl, decide_eq_false (by omega)⟩
        · exact .inr rfl
      clear hwa hwb s1 s2 s3 s4 s5 s6 s7 hs c1 c2 c3 c4 c5 c6 c7 c8 b1 b2 b3 b4 b5 b6 b7 b8 hcmp hsum A B ht12
      go_upto_if 108 with ((first | (go_at_call 13; with_reducible refine (wrap_at t first a _ HWA.out).mono ?_; rintro e w' ⟨rfl, rfl⟩) | (go_at_call 13; with_reducible refine (wrap_at t second b _ HWB.out).mono ?_; rintro e w' ⟨rfl, rfl⟩) | (go_at_call 13; with_reducible refine (wrap_at t a a _ HAA.out).mono ?_; rintro e w' ⟨rfl, rfl⟩) | (go_at_call 14; with_reducible refine (bin_at 12 t a b s _ S1.out).mono ?_; rintro e wz ⟨rfl, hbz⟩; have HB2 := Lib.hid (HB.out.trans (hbz.mono HB.out.size)); clear HB hbz; have HB := HB2; clear HB2) | (go_at_call 15; with_reducible refine (lawBin 13 t s b a _ S2.out).mono ?_; rintro e wz ⟨rfl, hbz⟩; have HB2 := Lib.hid (HB.out.trans (hbz.mono HB.out.size)); clear HB hbz; have HB := HB2; clear HB2) | (go_at_call 16; with_reducible refine (un_at 5 t a na _ (by decide) (by decide) a1 a2 HAA.out S5.out).mono ?_; rintro e wz ⟨rfl, hbz⟩; have HB2 := Lib.hid (HB.out.trans (hbz.mono HB.out.size)); clear HB hbz; have HB := HB2; clear HB2) | (go_at_call 16; with_reducible refine (un_at 5 t na a _ (by decide) (by decide) n1 n2 S6.out S7.out).mono ?_; rintro e wz ⟨rfl, hbz⟩; have HB2 := Lib.hid (HB.out.trans (hbz.mono HB.out.size)); clear HB hbz; have HB := HB2; clear HB2) | (go_at_call 16; with_reducible refine (un_at 4 t a ng _ (by decide) (by decide) a1 a2 HAA.out S3.out).mono ?_; rintro e wz ⟨rfl, hbz⟩; have HB2 := Lib.hid (HB.out.trans (hbz.mono HB.out.size)); clear HB hbz; have HB := HB2; clear HB2) | (go_at_call 15; with_reducible refine (lawBin 13 t 0 a ng _ S4.out).mono ?_; rintro e wz ⟨rfl, hbz⟩; have HB2 := Lib.hid (HB.out.trans (hbz.mono HB.out.size)); clear HB hbz; have HB := HB2; clear HB2) | (go_at_call 14; with_reducible refine (DQ.out _).mono ?_; rintro e wz ⟨rfl, hbz⟩; have HB2 := Lib.hid (HB.out.trans (hbz.mono HB.out.size)); clear HB hbz; have HB := HB2; clear HB2) | (go_at_call 14; with_reducible refine (DR.out _).mono ?_; rintro e wz ⟨rfl, hbz⟩; have HB2 := Lib.hid (HB.out.trans (hbz.mono HB.out.size)); clear HB hbz; have HB := HB2; clear HB2)))
      go_cut [11, 13, 14, 15] from 34 to 279 (fun _ _ _ _ wx => ∃ W : World, W = wx ∧ Below w.heap.size w W)
      case first =>
        as_aux_lemma =>
          cases hb0 : (b != 0)
          · go_wp2_with fail
            go_meet
            case rel => exact ⟨_, rfl, HB.out⟩
          · obtain ⟨p, q3, q4, q5⟩ := HBS.out hb0
            have Q3 := Lib.hid q3
            have Q4 := Lib.hid q4
            clear HBS q3 q4
            cases hr0 : (r != 0)
            · clear q5
              go_wp2_with (first | (go_at_call 14; with_reducible refine (bin_at 9 t q b p _ Q3.out).mono ?_; rintro e wz ⟨rfl, hbz⟩; have HB2 := Lib.hid (HB.out.trans (hbz.mono HB.out.size)); clear HB hbz; have HB := HB2; clear HB2) | (go_at_call 15; with_reducible refine (lawBin 12 t p r a _ Q4.out).mono ?_; rintro e wz ⟨rfl, hbz⟩; have HB2 := Lib.hid (HB.out.trans (hbz.mono HB.out.size)); clear HB hbz; have HB := HB2; clear HB2))
              go_meet
              case rel => exact ⟨_, rfl, HB.out⟩
            · have q6 := q5 (by simpa using hr0)
              clear q5
              by_cases ha0 : a < 0
              · have hr1 : r < 0 := by
                  simp [ha0] at q6
                  exact q6
                clear q6
                go_wp2_with (first | (go_at_call 14; with_reducible refine (bin_at 9 t q b p _ Q3.out).mono ?_; rintro e wz ⟨rfl, hbz⟩; have HB2 := Lib.hid (HB.out.trans (hbz.mono HB.out.size)); clear HB hbz; have HB := HB2; clear HB2) | (go_at_call 15; with_reducible refine (lawBin 12 t p r a _ Q4.out).mono ?_; rintro e wz ⟨rfl, hbz⟩; have HB2 := Lib.hid (HB.out.trans (hbz.mono HB.out.size)); clear HB hbz; have HB := HB2; clear HB2))
                go_meet
                case rel => exact ⟨_, rfl, HB.out⟩
              · have hr1 : 0 ≤ r := by
                  simp [ha0] at q6
                  omega
                have ha1 : 0 ≤ a := by omega
                have hr2 : decide (r < 0) = false := decide_eq_false (by omega)
                have ha2 : decide (a < 0) = false := decide_eq_false (by omega)
                clear q6 ha0
                go_wp2_with (first | (go_at_call 14; with_reducible refine (bin_at 9 t q b p _ Q3.out).mono ?_; rintro e wz ⟨rfl, hbz⟩; have HB2 := Lib.hid (HB.out.trans (hbz.mono HB.out.size)); clear HB hbz; have HB := HB2; clear HB2) | (go_at_call 15; with_reducible refine (lawBin 12 t p r a _ Q4.out).mono ?_; rintro e wz ⟨rfl, hbz⟩; have HB2 := Lib.hid (HB.out.trans (hbz.mono HB.out.size)); clear HB hbz; have HB := HB2; clear HB2))
                go_meet
                case rel => exact ⟨_, rfl, HB.out⟩
      case rest =>
        as_aux_lemma =>
          obtain ⟨W, rfl, hbw⟩ := hcut
          clear HB HBS DQ DR
          have HB := Lib.hid hbw
          clear hbw
          go_upto_region 21 with ((first | (go_at_call 14; with_reducible refine (bin_at 16 t a b lt _ C1.out).mono ?_; rintro e wz ⟨rfl, hbz⟩; have HB2 := Lib.hid (HB.out.trans (hbz.mono HB.out.size)); clear HB hbz; have HB := HB2; clear HB2) | (go_at_call 14; with_reducible refine (bin_at 18 t a b gt _ C2.out).mono ?_; rintro e wz ⟨rfl, hbz⟩; have HB2 := Lib.hid (HB.out.trans (hbz.mono HB.out.size)); clear HB hbz; have HB := HB2; clear HB2) | (go_at_call 14; with_reducible refine (bin_at 20 t a b eq _ C3.out).mono ?_; rintro e wz ⟨rfl, hbz⟩; have HB2 := Lib.hid (HB.out.trans (hbz.mono HB.out.size)); clear HB hbz; have HB := HB2; clear HB2)))
          go_cut [207] from 34 to 206 (fun s wx => ∃ W : World, W = wx ∧ s = .bool false ∧ Below w.heap.size w W)
          case first =>
            as_aux_lemma =>
              rcases HC.out with ⟨k1, k2⟩ | k1
              · clear HC
                go_wp2_with (first | (go_at_call 15; with_reducible refine (lawBin 17 t a b (lt + eq) _ C4.out).mono ?_; rintro e wz ⟨rfl, hbz⟩; have HB2 := Lib.hid (HB.out.trans (hbz.mono HB.out.size)); clear HB hbz; have HB := HB2; clear HB2) | (go_at_call 15; with_reducible refine (lawBin 19 t a b (gt + eq) _ C5.out).mono ?_; rintro e wz ⟨rfl, hbz⟩; have HB2 := Lib.hid (HB.out.trans (hbz.mono HB.out.size)); clear HB hbz; have HB := HB2; clear HB2) | (go_at_call 15; with_reducible refine (lawBin 21 t a b (lt + gt) _ C6.out).mono ?_; rintro e wz ⟨rfl, hbz⟩; have HB2 := Lib.hid (HB.out.trans (hbz.mono HB.out.size)); clear HB hbz; have HB := HB2; clear HB2) | (go_at_call 16; with_reducible refine (un_at 6 t eq (lt + gt) _ (by decide) (by decide) e1 e2 C7.out C8.out).mono ?_; rintro e wz ⟨rfl, hbz⟩; have HB2 := Lib.hid (HB.out.trans (hbz.mono HB.out.size)); clear HB hbz; have HB := HB2; clear HB2))
                go_meet
                case rel => exact ⟨_, rfl, rfl, HB.out⟩
              · clear HC
                go_wp2_with (first | (go_at_call 15; with_reducible refine (lawBin 17 t a b (lt + eq) _ C4.out).mono ?_; rintro e wz ⟨rfl, hbz⟩; have HB2 := Lib.hid (HB.out.trans (hbz.mono HB.out.size)); clear HB hbz; have HB := HB2; clear HB2) | (go_at_call 15; with_reducible refine (lawBin 19 t a b (gt + eq) _ C5.out).mono ?_; rintro e wz ⟨rfl, hbz⟩; have HB2 := Lib.hid (HB.out.trans (hbz.mono HB.out.size)); clear HB hbz; have HB := HB2; clear HB2) | (go_at_call 15; with_reducible refine (lawBin 21 t a b (lt + gt) _ C6.out).mono ?_; rintro e wz ⟨rfl, hbz⟩; have HB2 := Lib.hid (HB.out.trans (hbz.mono HB.out.size)); clear HB hbz; have HB := HB2; clear HB2) | (go_at_call 16; with_reducible refine (un_at 6 t eq (lt + gt) _ (by decide) (by decide) e1 e2 C7.out C8.out).mono ?_; rintro e wz ⟨rfl, hbz⟩; have HB2 := Lib.hid (HB.out.trans (hbz.mono HB.out.size)); clear HB hbz; have HB := HB2; clear HB2))
                go_meet
                case rel => exact ⟨_, rfl, rfl, HB.out⟩
          case rest =>
            as_aux_lemma =>
              obtain ⟨W, rfl, rfl, hbw⟩ := hcut
              clear HB HC
              have HB := Lib.hid hbw
              clear hbw
              go_wp2_with (first | (go_at_call 14; with_reducible refine (bin_at 22 t a b n _ B1.out).mono ?_; rintro e wz ⟨rfl, hbz⟩; have HB2 := Lib.hid (HB.out.trans (hbz.mono HB.out.size)); clear HB hbz; have HB := HB2; clear HB2) | (go_at_call 14; with_reducible refine (bin_at 24 t a b o _ B2.out).mono ?_; rintro e wz ⟨rfl, hbz⟩; have HB2 := Lib.hid (HB.out.trans (hbz.mono HB.out.size)); clear HB hbz; have HB := HB2; clear HB2) | (go_at_call 14; with_reducible refine (bin_at 23 t a b x _ B3.out).mono ?_; rintro e wz ⟨rfl, hbz⟩; have HB2 := Lib.hid (HB.out.trans (hbz.mono HB.out.size)); clear HB hbz; have HB := HB2; clear HB2) | (go_at_call 14; with_reducible refine (bin_at 14 t a 1 tw _ B4.out).mono ?_; rintro e wz ⟨rfl, hbz⟩; have HB2 := Lib.hid (HB.out.trans (hbz.mono HB.out.size)); clear HB hbz; have HB := HB2; clear HB2) | (go_at_call 14; with_reducible refine (bin_at 15 t a 1 hf _ B5.out).mono ?_; rintro e wz ⟨rfl, hbz⟩; have HB2 := Lib.hid (HB.out.trans (hbz.mono HB.out.size)); clear HB hbz; have HB := HB2; clear HB2) | (go_at_call 15; with_reducible refine (lawBin 12 t n o s _ B6.out).mono ?_; rintro e wz ⟨rfl, hbz⟩; have HB2 := Lib.hid (HB.out.trans (hbz.mono HB.out.size)); clear HB hbz; have HB := HB2; clear HB2) | (go_at_call 15; with_reducible refine (lawBin 13 t o n x _ B7.out).mono ?_; rintro e wz ⟨rfl, hbz⟩; have HB2 := Lib.hid (HB.out.trans (hbz.mono HB.out.size)); clear HB hbz; have HB := HB2; clear HB2) | (go_at_call 15; with_reducible refine (lawBin 12 t a a tw _ B8.out).mono ?_; rintro e wz ⟨rfl, hbz⟩; have HB2 := Lib.hid (HB.out.trans (hbz.mono HB.out.size)); clear HB hbz; have HB := HB2; clear HB2))
              go_roundw
              case rel => exact ⟨t + 1, by omega, by omega, by go_num, HB.out⟩
              case measure =>
                have u1 : intOf (.int .i64 (t + 1)) = t + 1 := rfl
                have u2 : intOf (.int .i64 t) = t := rfl
                rw [u1, u2]
                omega
    · obtain rfl : t = 3 := by omega
      go_wp2_with (first | (go_at_call 16; with_reducible refine (un_last first _ f1 f2).mono ?_; rintro e wz ⟨rfl, hbz⟩; have HB2 := Lib.hid (HB.out.trans (hbz.mono HB.out.size)); clear HB hbz; have HB := HB2; clear HB2) | (go_at_call 16; with_reducible refine (un_last2 first _ f1 f2).mono ?_; rintro e wz ⟨rfl, hbz⟩; have HB2 := Lib.hid (HB.out.trans (hbz.mono HB.out.size)); clear HB hbz; have HB := HB2; clear HB2) | (go_at_call 13; with_reducible refine (wrap_at 1 first (wrapT 1 first) _ rfl).mono ?_; rintro e w' ⟨rfl, rfl⟩))
      go_ret
      exact ⟨rfl, HB.out⟩
end Go.Proofs.Ythmphmndpfkbcaa
