/-
  The walk of the law WireOrder: it answers true and changes nothing that was there. Condition: the listed variables hold what they hold.
-/
import Derived.Test.YtmmdkoomceikiaaDoorWorks
import Derived.Test.YtmmdkoomceikiaaDoorLex
import Derived.Deep.RegionWith
namespace Go.Proofs.YtmmdkoomceikiaaDoor
open Go.RowKit

theorem P_own (N : Nat) (base : Nat) (w0 w : World) (hb : Below base w0 w) (hbase : base ≤ w.heap.size) (hL : Laid w) (hN : N < 18446744073709551616) :
    Calls Tryd.prog 17 #[.slice none 0 0, .int .u64 N] w fun e w' => ∃ A c, e = .returned (.slice A (numB N).length c) ∧ RdB w' w'.heap.size A (numB N) ∧ Below base w0 w' ∧ Below w.heap.size w w' ∧ Laid w' :=
  (P_any none 0 0 [] N hN w hL rfl (Nat.le_refl _) (RdB.nil_ w _) (Nat.zero_le _)).mono fun e w' ⟨v, he, ho, hb'⟩ => by
    obtain ⟨A, c, rfl, _, _, _, hr, _⟩ := ho.form
    exact ⟨A, c, he, hr, hb.trans (hb'.mono hbase), hb', hL.below hb' hL.lt⟩
theorem PI_own (N : Int) (base : Nat) (w0 w : World) (hb : Below base w0 w) (hbase : base ≤ w.heap.size) (hL : Laid w) (hN : -9223372036854775808 ≤ N) (hN' : N ≤ 9223372036854775807) :
    Calls Tryd.prog 19 #[.slice none 0 0, .int .i64 N] w fun e w' => ∃ A c, e = .returned (.slice A (numB (zig N)).length c) ∧ Below base w0 w' ∧ Laid w' :=
  (PI_any none 0 0 [] N hN hN' w hL rfl (Nat.le_refl _) (RdB.nil_ w _) (Nat.zero_le _)).mono fun e w' ⟨v, he, ho, hb'⟩ => by
    obtain ⟨A, c, rfl, _⟩ := ho.form
    exact ⟨A, c, he, hb.trans (hb'.mono hbase), hL.below hb' hL.lt⟩

theorem zig_half (x : Nat) : zig ((x : Int) / 2) = x / 2 * 2 := by
  unfold zig; rw [if_pos (by omega)]; omega
theorem zig_neg_half (x : Nat) : zig (-((x : Int) / 2) - 1) = x / 2 * 2 + 1 := by
  unfold zig; rw [if_neg (by omega)]; omega
theorem or_one (x : Nat) (h : x < 4611686018427387904) : bits .or .u64 (x : Int) 1 = ((x / 2 * 2 + 1 : Nat) : Int) := by
  have e := u64_or_nat x 1 (by omega) (by omega)
  rw [show (1 : Int) = ((1 : Nat) : Int) from rfl, e]
  congr 1
  have h1 : x ||| 1 = (x / 2 * 2 ||| 1) := by
    apply Nat.eq_of_testBit_eq
    intro i
    rw [Nat.testBit_or, Nat.testBit_or]
    rcases i with _ | i
    · simp
    · have : (x / 2 * 2).testBit (i + 1) = x.testBit (i + 1) := by
        rw [Nat.testBit_succ, Nat.testBit_succ]
        congr 1
        omega
      rw [this]
  rw [h1, nat_join 1 (x / 2 * 2) 1 (by omega) (by omega)]

theorem ofB_toList (l : List Nat) : (ofB l).toList = l.map UInt8.ofNat := ByteArray.toList_mk _
theorem ofB_less (x y : Nat) (h : x < y) (hy : y < 4611686018427387904) : Op.bytesLess (ofB (numB x)).toList (ofB (numB y)).toList = true := by
  rw [ofB_toList, ofB_toList, bytesLess_lexN _ _ (numB_lt x) (numB_lt y), numB_less x y h hy]
theorem lexB_irrefl (x : Nat) : Op.bytesLess (ofB (numB x)).toList (ofB (numB x)).toList = false := by
  rw [ofB_toList, bytesLess_lexN _ _ (numB_lt x) (numB_lt x), lexN_irrefl]
theorem map_inj256 : ∀ l m : List Nat, (∀ x ∈ l, x < 256) → (∀ x ∈ m, x < 256) → l.map UInt8.ofNat = m.map UInt8.ofNat → l = m
  | [], [], _, _, _ => rfl
  | [], _ :: _, _, _, h => by simp at h
  | _ :: _, [], _, _, h => by simp at h
  | a :: l, b :: m, h1, h2, h => by
    simp only [List.map_cons, List.cons.injEq] at h
    have ha := h1 a (List.mem_cons_self ..)
    have hb := h2 b (List.mem_cons_self ..)
    have e := congrArg UInt8.toNat h.1
    rw [UInt8.toNat_ofNat_of_lt' ha, UInt8.toNat_ofNat_of_lt' hb] at e
    rw [e, map_inj256 l m (fun y hy => h1 y (List.mem_cons_of_mem _ hy)) (fun y hy => h2 y (List.mem_cons_of_mem _ hy)) h.2]
theorem ofB_neq (x y : Nat) (h : x < y) (hy : y < 4611686018427387904) : ((ofB (numB x)).toList == (ofB (numB y)).toList) = false := by
  rw [ofB_toList, ofB_toList, beq_eq_false_iff_ne]
  intro e
  exact numB_ne x y h hy (map_inj256 _ _ (numB_lt x) (numB_lt y) e)
theorem Laid.drew {w : World} (h : Laid w) : Laid w.drew := ⟨h.s0, h.s1, h.s2, h.s3, h.et⟩

set_option maxRecDepth 100000 in
set_option maxHeartbeats 4000000 in
/-- At x < y, in the order of the arguments. -/
theorem order_lt (a b : Nat) (w : World) (hL : Laid w) (x y : Nat) (hx : (a : Int) % 4611686018427387904 = (x : Int)) (hy : (b : Int) % 4611686018427387904 = (y : Int))
    (hxm : x < 4611686018427387904) (hym : y < 4611686018427387904) (h : x < y) :
    Calls Tryd.prog 6 #[.int .u64 a, .int .u64 b] w fun e w' => e = .returned (.bool true) ∧ Below w.heap.size w w' := by
  have hW := Lib.hid (works_any w hL)
  have HL := Lib.hid hL
  clear hL
  go_enter Tryd.func6, Tryd.ntmps6
  go_wp2_with (go_at_call 16; refine hW.out.mono ?_; rintro e w1 ⟨rfl, hb1⟩)
  rw [hx, hy]
  have B1 := Lib.hid hb1.drew
  have L1 := Lib.hid (HL.out.below hb1 HL.out.lt).drew
  clear hb1 hx hy
  have f1 := ofB_less x y h hym
  have f2 := ofB_neq x y h hym
  have f3 : ¬ (ofB (numB y)).size < (ofB (numB x)).size := by rw [ofB_size, ofB_size]; have := len_mono x y (by omega) hym; omega
  have f4 : ((x : Int) == (y : Int)) = false := by rw [beq_eq_false_iff_ne]; omega
  have f5 := or_one x hxm
  have g1 : (numB (zig ((x : Int) / 2))).length ≤ (numB (zig (-((x : Int) / 2) - 1))).length := by rw [zig_half, zig_neg_half]; exact len_mono _ _ (by omega) (by omega)
  have g2 : (numB (zig (-((x : Int) / 2) - 1))).length ≤ (numB (x / 2 * 2 + 1)).length := by rw [zig_neg_half]; exact Nat.le_refl _
  have tok1 : True := trivial
  go_region_with (first
    | (go_at_call 17; have _t := tok1; refine (P_own x w.heap.size w _ B1.out B1.out.size L1.out (by omega)).mono ?_; rintro e w2 ⟨A1, c1, rfl, hr1, hb2, _, hl2⟩; have cv1 := conv_rd w2 _ A1 c1 (numB x) hr1 (numB_lt x); have R1 := Lib.hid hr1; have B2 := Lib.hid hb2; have L2 := Lib.hid hl2; clear tok1 _t hr1 hb2 hl2)
    | (go_at_call 17; refine (P_own y w.heap.size w _ B2.out B2.out.size L2.out (by omega)).mono ?_; rintro e w3 ⟨A2, c2, rfl, hr2, hb3, hb23, hl3⟩; have cv2 := conv_rd w3 _ A2 c2 (numB y) hr2 (numB_lt y); have cv1' := conv_rd w3 _ A1 c1 (numB x) (R1.out.below hb23 (Nat.le_refl _)) (numB_lt x); have B3 := Lib.hid hb3; have L3 := Lib.hid hl3; clear hr2 hb3 hb23 hl3))
  all_goals
    clear cv1 cv2 cv1'
    go_wp2_with fail
    refine (PI_own ((x : Int) / 2) w.heap.size w _ B3.out B3.out.size L3.out (by omega) (by omega)).mono ?_
    rintro e w4 ⟨A3, c3, rfl, hb4, hl4⟩
    have B4 := Lib.hid hb4
    have L4 := Lib.hid hl4
    clear hb4 hl4
    go_wp2_with fail
    refine (PI_own (-((x : Int) / 2) - 1) w.heap.size w _ B4.out B4.out.size L4.out (by omega) (by omega)).mono ?_
    rintro e w5 ⟨A4, c4, rfl, hb5, hl5⟩
    have B5 := Lib.hid hb5
    have L5 := Lib.hid hl5
    clear hb5 hl5
    go_wp2_with fail
    refine (PI_own (-((x : Int) / 2) - 1) w.heap.size w _ B5.out B5.out.size L5.out (by omega) (by omega)).mono ?_
    rintro e w6 ⟨A5, c5, rfl, hb6, hl6⟩
    have B6 := Lib.hid hb6
    have L6 := Lib.hid hl6
    clear hb6 hl6
    go_wp2_with fail
    refine (P_own (x / 2 * 2 + 1) w.heap.size w _ B6.out B6.out.size L6.out (by omega)).mono ?_
    rintro e w7 ⟨A6, c6, rfl, _, hb7, _, _⟩
    have B7 := Lib.hid hb7
    clear hb7
    go_wp2
    go_ret
    exact ⟨rfl, B7.out⟩
set_option maxRecDepth 100000 in
set_option maxHeartbeats 4000000 in
/-- At y < x: they are exchanged. -/
theorem order_gt (a b : Nat) (w : World) (hL : Laid w) (x y : Nat) (hx : (a : Int) % 4611686018427387904 = (x : Int)) (hy : (b : Int) % 4611686018427387904 = (y : Int))
    (hxm : x < 4611686018427387904) (hym : y < 4611686018427387904) (h : y < x) :
    Calls Tryd.prog 6 #[.int .u64 a, .int .u64 b] w fun e w' => e = .returned (.bool true) ∧ Below w.heap.size w w' := by
  have hW := Lib.hid (works_any w hL)
  have HL := Lib.hid hL
  clear hL
  go_enter Tryd.func6, Tryd.ntmps6
  go_wp2_with (go_at_call 16; refine hW.out.mono ?_; rintro e w1 ⟨rfl, hb1⟩)
  rw [hx, hy]
  have B1 := Lib.hid hb1.drew
  have L1 := Lib.hid (HL.out.below hb1 HL.out.lt).drew
  clear hb1 hx hy
  have f1 := ofB_less y x h hxm
  have f2 := ofB_neq y x h hxm
  have f3 : ¬ (ofB (numB x)).size < (ofB (numB y)).size := by rw [ofB_size, ofB_size]; have := len_mono y x (by omega) hxm; omega
  have f4 : ((y : Int) == (x : Int)) = false := by rw [beq_eq_false_iff_ne]; omega
  have f5 := or_one y hym
  have g1 : (numB (zig ((y : Int) / 2))).length ≤ (numB (zig (-((y : Int) / 2) - 1))).length := by rw [zig_half, zig_neg_half]; exact len_mono _ _ (by omega) (by omega)
  have g2 : (numB (zig (-((y : Int) / 2) - 1))).length ≤ (numB (y / 2 * 2 + 1)).length := by rw [zig_neg_half]; exact Nat.le_refl _
  have tok1 : True := trivial
  go_region_with (first
    | (go_at_call 17; have _t := tok1; refine (P_own y w.heap.size w _ B1.out B1.out.size L1.out (by omega)).mono ?_; rintro e w2 ⟨A1, c1, rfl, hr1, hb2, _, hl2⟩; have cv1 := conv_rd w2 _ A1 c1 (numB y) hr1 (numB_lt y); have R1 := Lib.hid hr1; have B2 := Lib.hid hb2; have L2 := Lib.hid hl2; clear tok1 _t hr1 hb2 hl2)
    | (go_at_call 17; refine (P_own x w.heap.size w _ B2.out B2.out.size L2.out (by omega)).mono ?_; rintro e w3 ⟨A2, c2, rfl, hr2, hb3, hb23, hl3⟩; have cv2 := conv_rd w3 _ A2 c2 (numB x) hr2 (numB_lt x); have cv1' := conv_rd w3 _ A1 c1 (numB y) (R1.out.below hb23 (Nat.le_refl _)) (numB_lt y); have B3 := Lib.hid hb3; have L3 := Lib.hid hl3; clear hr2 hb3 hb23 hl3))
  all_goals
    clear cv1 cv2 cv1'
    go_wp2_with fail
    refine (PI_own ((y : Int) / 2) w.heap.size w _ B3.out B3.out.size L3.out (by omega) (by omega)).mono ?_
    rintro e w4 ⟨A3, c3, rfl, hb4, hl4⟩
    have B4 := Lib.hid hb4
    have L4 := Lib.hid hl4
    clear hb4 hl4
    go_wp2_with fail
    refine (PI_own (-((y : Int) / 2) - 1) w.heap.size w _ B4.out B4.out.size L4.out (by omega) (by omega)).mono ?_
    rintro e w5 ⟨A4, c4, rfl, hb5, hl5⟩
    have B5 := Lib.hid hb5
    have L5 := Lib.hid hl5
    clear hb5 hl5
    go_wp2_with fail
    refine (PI_own (-((y : Int) / 2) - 1) w.heap.size w _ B5.out B5.out.size L5.out (by omega) (by omega)).mono ?_
    rintro e w6 ⟨A5, c5, rfl, hb6, hl6⟩
    have B6 := Lib.hid hb6
    have L6 := Lib.hid hl6
    clear hb6 hl6
    go_wp2_with fail
    refine (P_own (y / 2 * 2 + 1) w.heap.size w _ B6.out B6.out.size L6.out (by omega)).mono ?_
    rintro e w7 ⟨A6, c6, rfl, _, hb7, _, _⟩
    have B7 := Lib.hid hb7
    clear hb7
    go_wp2
    go_ret
    exact ⟨rfl, B7.out⟩
set_option maxRecDepth 100000 in
set_option maxHeartbeats 4000000 in
/-- At equal ones. -/
theorem order_eq (a b : Nat) (w : World) (hL : Laid w) (x y : Nat) (hx : (a : Int) % 4611686018427387904 = (x : Int)) (hy : (b : Int) % 4611686018427387904 = (y : Int))
    (hxm : x < 4611686018427387904) (hym : y < 4611686018427387904) (h : x = y) :
    Calls Tryd.prog 6 #[.int .u64 a, .int .u64 b] w fun e w' => e = .returned (.bool true) ∧ Below w.heap.size w w' := by
  have hW := Lib.hid (works_any w hL)
  have HL := Lib.hid hL
  clear hL
  go_enter Tryd.func6, Tryd.ntmps6
  go_wp2_with (go_at_call 16; refine hW.out.mono ?_; rintro e w1 ⟨rfl, hb1⟩)
  rw [hx, hy]
  have B1 := Lib.hid hb1.drew
  have L1 := Lib.hid (HL.out.below hb1 HL.out.lt).drew
  clear hb1 hx hy
  subst h
  have f1 := lexB_irrefl x
  have f5 := or_one x hxm
  have g1 : (numB (zig ((x : Int) / 2))).length ≤ (numB (zig (-((x : Int) / 2) - 1))).length := by rw [zig_half, zig_neg_half]; exact len_mono _ _ (by omega) (by omega)
  have g2 : (numB (zig (-((x : Int) / 2) - 1))).length ≤ (numB (x / 2 * 2 + 1)).length := by rw [zig_neg_half]; exact Nat.le_refl _
  have tok1 : True := trivial
  go_region_with (first
    | (go_at_call 17; have _t := tok1; refine (P_own x w.heap.size w _ B1.out B1.out.size L1.out (by omega)).mono ?_; rintro e w2 ⟨A1, c1, rfl, hr1, hb2, _, hl2⟩; have cv1 := conv_rd w2 _ A1 c1 (numB x) hr1 (numB_lt x); have R1 := Lib.hid hr1; have B2 := Lib.hid hb2; have L2 := Lib.hid hl2; clear tok1 _t hr1 hb2 hl2)
    | (go_at_call 17; refine (P_own x w.heap.size w _ B2.out B2.out.size L2.out (by omega)).mono ?_; rintro e w3 ⟨A2, c2, rfl, hr2, hb3, hb23, hl3⟩; have cv2 := conv_rd w3 _ A2 c2 (numB x) hr2 (numB_lt x); have cv1' := conv_rd w3 _ A1 c1 (numB x) (R1.out.below hb23 (Nat.le_refl _)) (numB_lt x); have B3 := Lib.hid hb3; have L3 := Lib.hid hl3; clear hr2 hb3 hb23 hl3))
  all_goals
    clear cv1 cv2 cv1'
    go_wp2_with fail
    refine (PI_own ((x : Int) / 2) w.heap.size w _ B3.out B3.out.size L3.out (by omega) (by omega)).mono ?_
    rintro e w4 ⟨A3, c3, rfl, hb4, hl4⟩
    have B4 := Lib.hid hb4
    have L4 := Lib.hid hl4
    clear hb4 hl4
    go_wp2_with fail
    refine (PI_own (-((x : Int) / 2) - 1) w.heap.size w _ B4.out B4.out.size L4.out (by omega) (by omega)).mono ?_
    rintro e w5 ⟨A4, c4, rfl, hb5, hl5⟩
    have B5 := Lib.hid hb5
    have L5 := Lib.hid hl5
    clear hb5 hl5
    go_wp2_with fail
    refine (PI_own (-((x : Int) / 2) - 1) w.heap.size w _ B5.out B5.out.size L5.out (by omega) (by omega)).mono ?_
    rintro e w6 ⟨A5, c5, rfl, hb6, hl6⟩
    have B6 := Lib.hid hb6
    have L6 := Lib.hid hl6
    clear hb6 hl6
    go_wp2_with fail
    refine (P_own (x / 2 * 2 + 1) w.heap.size w _ B6.out B6.out.size L6.out (by omega)).mono ?_
    rintro e w7 ⟨A6, c6, rfl, _, hb7, _, _⟩
    have B7 := Lib.hid hb7
    clear hb7
    go_wp2
    go_ret
    exact ⟨rfl, B7.out⟩
theorem order_any (a b : Nat) (w : World) (hL : Laid w) : Calls Tryd.prog 6 #[.int .u64 a, .int .u64 b] w fun e w' => e = .returned (.bool true) ∧ Below w.heap.size w w' := by
  have hx : (a : Int) % 4611686018427387904 = ((a % 4611686018427387904 : Nat) : Int) := by omega
  have hy : (b : Int) % 4611686018427387904 = ((b % 4611686018427387904 : Nat) : Int) := by omega
  have hxm : a % 4611686018427387904 < 4611686018427387904 := Nat.mod_lt _ (by omega)
  have hym : b % 4611686018427387904 < 4611686018427387904 := Nat.mod_lt _ (by omega)
  rcases Nat.lt_trichotomy (a % 4611686018427387904) (b % 4611686018427387904) with h | h | h
  · exact order_lt a b w hL _ _ hx hy hxm hym h
  · exact order_eq a b w hL _ _ hx hy hxm hym h
  · exact order_gt a b w hL _ _ hx hy hxm hym h
end Go.Proofs.YtmmdkoomceikiaaDoor
