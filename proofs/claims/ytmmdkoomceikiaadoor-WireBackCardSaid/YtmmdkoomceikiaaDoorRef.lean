/-
  The document's own answers (ploverref01.Num, Int, Truth, Text) by their contracts: the texts of the same bytes. No condition but that a text is shorter than 2^46 bytes.
-/
import Derived.Test.YtmmdkoomceikiaaDoorWorks
import Derived.Test.YtmmdkoomceikiaaDoorLex
namespace Go.Proofs.YtmmdkoomceikiaaDoor
open Go.RowKit

/-- M divided k times by 256. -/
def qq (M k : Nat) : Nat := M / 256 ^ k
theorem qq_zero (M : Nat) : qq M 0 = M := by simp [qq]
theorem qq_succ (M k : Nat) : qq M k / 256 = qq M (k + 1) := by
  unfold qq
  rw [Nat.div_div_eq_div_mul, ← Nat.pow_succ]
theorem qq_le (M k : Nat) : qq M k ≤ M := Nat.div_le_self _ _
/-- The lowest k bytes, the highest first. -/
def dgs (M : Nat) : Nat → List Nat
  | 0 => []
  | k + 1 => (qq M k % 256) :: dgs M k
theorem dgs_length (M k : Nat) : (dgs M k).length = k := by
  induction k with
  | zero => rfl
  | succ k ih => simp [dgs, ih]
theorem dgs_lt (M k : Nat) : ∀ x ∈ dgs M k, x < 256 := by
  induction k with
  | zero => intro x hx; cases hx
  | succ k ih =>
    intro x hx
    simp only [dgs, List.mem_cons] at hx
    rcases hx with rfl | hx
    · exact Nat.mod_lt _ (by omega)
    · exact ih x hx
theorem ofB_append (l m : List Nat) : ofB l ++ ofB m = ofB (l ++ m) := by
  unfold ofB
  rw [ByteArray.mk_append_mk, ← List.map_append]
theorem ofB_get (b : Nat) (l : List Nat) (hb : b < 256) (h : 0 < (ofB (b :: l)).size) : (ofB (b :: l))[0].toNat = b := by
  show (UInt8.ofNat b).toNat = b
  exact UInt8.toNat_ofNat_of_lt' hb
theorem ofB_tail (b : Nat) (l : List Nat) (n : Nat) (hn : n = l.length + 1) : (ofB (b :: l)).extract 1 n = ofB l := by
  subst hn
  unfold ofB
  rw [ByteArray.extract_mk]
  congr 2
  simp only [List.map_cons, List.drop_succ_cons, List.drop_zero, Nat.add_sub_cancel]
  rw [List.take_of_length_le (by simp)]
theorem conv_one (w : World) (x : Nat) (hx : x < 256) : (convert 43 9 (.slice (some ⟨w.heap.size, 0, none⟩) 1 1)).run Tryd.prog (w.alloc (.cells #[.int .u8 (x : Int)] 5)) = .ok (.string (ofB [x])) (w.alloc (.cells #[.int .u8 (x : Int)] 5)) :=
  conv_rd _ (w.heap.size + 1) (some ⟨w.heap.size, 0, none⟩) 1 [x] ⟨fun h => (by cases h), fun a ha _ => (by cases ha; simp), fun a ha j y hy => by
    cases ha
    rcases j with _ | j
    · simp at hy; subst hy; simp [Addr.add]
    · simp at hy⟩ (by intro y hy; simp at hy; omega)

theorem conv_oneD (w : World) (x : Nat) (hx : x < 256) : (convert 43 9 (.slice (some ⟨w.heap.size, 0, none⟩) 1 1)).run Tryd.prog (w.alloc (.cells #[.int .u8 (x : Int)] 5)).drew = .ok (.string (ofB [x])) (w.alloc (.cells #[.int .u8 (x : Int)] 5)).drew :=
  conv_rd _ (w.heap.size + 1) (some ⟨w.heap.size, 0, none⟩) 1 [x] ⟨fun h => (by cases h), fun a ha _ => (by cases ha; simp), fun a ha j y hy => by
    cases ha
    rcases j with _ | j
    · simp at hy; subst hy; simp [Addr.add]
    · simp at hy⟩ (by intro y hy; simp at hy; omega)
theorem size_any (n : Nat) (w : World) : Calls Tryd.prog 47 #[.int .u64 n] w fun e w' => e = .returned (.int .i64 (szc (cls n) : Nat)) ∧ w = w' := by
  rcases cls_ways n with ⟨h, hc⟩ | ⟨h, h', hc⟩ | ⟨h, h', hc⟩ | ⟨h, hc⟩
  · rw [hc]
    clear hc
    have a1 : (n : Int) < 64 := by omega
    go_enter Tryd.func47, Tryd.ntmps47
    go_wp2
    go_ret
    exact ⟨rfl, rfl⟩
  · rw [hc]
    clear hc
    have a1 : ¬ (n : Int) < 64 := by omega
    have a2 : (n : Int) < 16384 := by omega
    go_enter Tryd.func47, Tryd.ntmps47
    go_wp2
    go_ret
    exact ⟨rfl, rfl⟩
  · rw [hc]
    clear hc
    have a1 : ¬ (n : Int) < 64 := by omega
    have a2 : ¬ (n : Int) < 16384 := by omega
    have a3 : (n : Int) < 1073741824 := by omega
    go_enter Tryd.func47, Tryd.ntmps47
    go_wp2
    go_ret
    exact ⟨rfl, rfl⟩
  · rw [hc]
    clear hc
    have a1 : ¬ (n : Int) < 64 := by omega
    have a2 : ¬ (n : Int) < 16384 := by omega
    have a3 : ¬ (n : Int) < 1073741824 := by omega
    go_enter Tryd.func47, Tryd.ntmps47
    go_wp2
    go_ret
    exact ⟨rfl, rfl⟩

theorem numB_dgs (N M : Nat) (hM : N % pow62 = M) (h : M < 4611686018427387904) (z c : Nat) (hc : cls M = c) (hz : szc c = z + 1) : numB N = (qq M z % 256 + 64 * c) :: dgs M z ∧ qq M z % 256 < 64 := by
  have e : numB N = numB M := by simp only [numB, hM, show M % pow62 = M from Nat.mod_eq_of_lt h]
  rw [e]
  rcases numB_form M h with ⟨c1, a1, f1⟩ | ⟨c1, a1, b1, f1⟩ | ⟨c1, a1, b1, f1⟩ | ⟨c1, a1, f1⟩ <;> rw [c1] at hc <;> subst hc
  · obtain rfl : z = 0 := by simp [szc] at hz; omega
    rw [f1]
    simp only [dgs, qq, Nat.pow_zero, Nat.div_one, List.cons.injEq, and_true]
    omega
  · obtain rfl : z = 1 := by simp [szc] at hz; omega
    rw [f1]
    simp only [dgs, qq, Nat.pow_zero, Nat.div_one, Nat.pow_one, List.cons.injEq, and_true]
    omega
  · obtain rfl : z = 3 := by simp [szc] at hz; omega
    rw [f1]
    simp only [row8, List.drop_succ_cons, List.drop_zero, dgs, qq, Nat.pow_zero, Nat.div_one, Nat.reducePow, List.cons.injEq, and_true]
    omega
  · obtain rfl : z = 7 := by simp [szc] at hz; omega
    rw [f1]
    simp only [row8, dgs, qq, Nat.pow_zero, Nat.div_one, Nat.reducePow, List.cons.injEq, and_true]
    omega

set_option maxRecDepth 100000 in
set_option maxHeartbeats 4000000 in
theorem Num_any (N : Nat) (hN : N < 18446744073709551616) (w : World) : Calls Tryd.prog 18 #[.int .u64 N] w fun e w' => e = .returned (.string (ofB (numB N))) ∧ Below w.heap.size w w' := by
  have hm : (N : Int) % 4611686018427387904 = ((N % pow62 : Nat) : Int) := by unfold pow62; omega
  have hM : N % pow62 < 4611686018427387904 := Nat.mod_lt _ (by decide)
  have hMM : Hid (N % pow62 = N % pow62) := rfl
  revert hMM
  generalize hM0 : N % pow62 = M at hm hM
  intro _
  have HM := Lib.hid hM0
  clear hM0
  rcases cls_ways M with ⟨h, hc⟩ | ⟨h, h', hc⟩ | ⟨h, h', hc⟩ | ⟨h, hc⟩
  · have hnb := numB_dgs N M HM.out hM 0 0 hc rfl
    have C := Lib.hid (size_any M w)
    rw [hc, show szc 0 = 1 from rfl] at C
    clear hc
    have HN := Lib.hid hnb.1
    have hb0 := hnb.2
    clear hnb
    go_enter Tryd.func18, Tryd.ntmps18
    go_wp2_with fail
    refine C.out.mono ?_
    rintro e w' ⟨rfl, rfl⟩
    go_wp2
    refine wp_loop_rounds 1 ?_
    iterate 1 (rw [rounds_succ]; go_wp2)
    go_loopw [0, 6, 7] (fun n s i wr => ∃ k : Nat, k ≤ 1 ∧ i = .int .i64 k ∧ n = .int .u64 (qq M k) ∧ s = .string (ofB (dgs M k)) ∧ Below w.heap.size w wr) (fun _ _ i _ => 1 - (intOf i).toNat)
    case atStart => exact ⟨0, by omega, rfl, by rw [qq_zero], rfl, Below.refl _ _⟩
    case round =>
      obtain ⟨k, hk, rfl, rfl, rfl, hbw⟩ := hrel
      have HB := Lib.hid hbw
      clear hbw
      by_cases hlt : k < 1
      · have hq1 : ((qq M k : Nat) : Int) % 256 = ((qq M k % 256 : Nat) : Int) := by omega
        have hq2 : ((qq M k : Nat) : Int) / 256 = ((qq M (k + 1) : Nat) : Int) := by rw [← qq_succ]; omega
        have hdl : qq M k % 256 < 256 := Nat.mod_lt _ (by omega)
        have hcv := conv_one wr (qq M k % 256) hdl
        have hs2 : (ofB (dgs M k)).size = k := by rw [ofB_size, dgs_length]
        have hs1 : (ofB [qq M k % 256]).size = 1 := rfl
        have HE := Lib.hid (ofB_append [qq M k % 256] (dgs M k))
        have HD := Lib.hid (show dgs M (k + 1) = [qq M k % 256] ++ dgs M k from rfl)
        generalize qq M k % 256 = dg at *
        have hq3 : qq M (k + 1) < 4611686018427387904 := Nat.lt_of_le_of_lt (qq_le M (k + 1)) hM
        go_wp2
        go_roundw
        case rel => exact ⟨k + 1, by omega, by go_num, rfl, by rw [HE.out, HD.out], HB.out.alloc HB.out.size _⟩
        case measure => simp [intOf]; omega
      · obtain rfl : k = 1 := by omega
        have hsz : (ofB (dgs M 1)).size = 1 := by rw [ofB_size, dgs_length]
        have hg0 : ∀ h : 0 < (ofB (dgs M 1)).size, ((ofB (dgs M 1))[0]'h).toNat = qq M 0 % 256 := fun h => ofB_get (qq M 0 % 256) (dgs M 0) (by omega) h
        have hg1 : (ofB (dgs M 1)).extract 1 1 = ofB (dgs M 0) := ofB_tail _ _ _ (by rw [dgs_length])
        have hg2 : (ofB (dgs M 0)).size = 0 := by rw [ofB_size, dgs_length]
        have hb1 : qq M 0 % 256 < 64 := hb0
        generalize qq M 0 % 256 = b0 at *
        have hcv := conv_oneD wr (b0 + 64 * 0) (by omega)
        have HB2 := Lib.hid HB.out
        have hs1 : (ofB [b0 + 64 * 0]).size = 1 := rfl
        have HF := Lib.hid (ofB_append [b0 + 64 * 0] (dgs M 0))
        generalize ofB (dgs M 0) = ST at *
        generalize ofB (dgs M 1) = SS at *
        generalize hSH : ofB [b0 + 64 * 0] = SH at *
        have HSH := Lib.hid hSH
        clear hSH
        have hbc : ((b0 + 64 * 0 : Nat) : Int) = (b0 : Int) := by omega
        rw [hbc] at hcv
        clear hbc
        go_wp2
        go_region
        go_wp2
        go_ret
        exact ⟨by rw [HN.out, ← HSH.out]; rfl, (HB2.out.alloc HB2.out.size _).drew⟩
  · have hnb := numB_dgs N M HM.out hM 1 1 hc rfl
    have C := Lib.hid (size_any M w)
    rw [hc, show szc 1 = 2 from rfl] at C
    clear hc
    have HN := Lib.hid hnb.1
    have hb0 := hnb.2
    clear hnb
    go_enter Tryd.func18, Tryd.ntmps18
    go_wp2_with fail
    refine C.out.mono ?_
    rintro e w' ⟨rfl, rfl⟩
    go_wp2
    refine wp_loop_rounds 2 ?_
    iterate 2 (rw [rounds_succ]; go_wp2)
    go_loopw [0, 6, 7] (fun n s i wr => ∃ k : Nat, k ≤ 2 ∧ i = .int .i64 k ∧ n = .int .u64 (qq M k) ∧ s = .string (ofB (dgs M k)) ∧ Below w.heap.size w wr) (fun _ _ i _ => 2 - (intOf i).toNat)
    case atStart => exact ⟨0, by omega, rfl, by rw [qq_zero], rfl, Below.refl _ _⟩
    case round =>
      obtain ⟨k, hk, rfl, rfl, rfl, hbw⟩ := hrel
      have HB := Lib.hid hbw
      clear hbw
      by_cases hlt : k < 2
      · have hq1 : ((qq M k : Nat) : Int) % 256 = ((qq M k % 256 : Nat) : Int) := by omega
        have hq2 : ((qq M k : Nat) : Int) / 256 = ((qq M (k + 1) : Nat) : Int) := by rw [← qq_succ]; omega
        have hdl : qq M k % 256 < 256 := Nat.mod_lt _ (by omega)
        have hcv := conv_one wr (qq M k % 256) hdl
        have hs2 : (ofB (dgs M k)).size = k := by rw [ofB_size, dgs_length]
        have hs1 : (ofB [qq M k % 256]).size = 1 := rfl
        have HE := Lib.hid (ofB_append [qq M k % 256] (dgs M k))
        have HD := Lib.hid (show dgs M (k + 1) = [qq M k % 256] ++ dgs M k from rfl)
        generalize qq M k % 256 = dg at *
        have hq3 : qq M (k + 1) < 4611686018427387904 := Nat.lt_of_le_of_lt (qq_le M (k + 1)) hM
        go_wp2
        go_roundw
        case rel => exact ⟨k + 1, by omega, by go_num, rfl, by rw [HE.out, HD.out], HB.out.alloc HB.out.size _⟩
        case measure => simp [intOf]; omega
      · obtain rfl : k = 2 := by omega
        have hsz : (ofB (dgs M 2)).size = 2 := by rw [ofB_size, dgs_length]
        have hg0 : ∀ h : 0 < (ofB (dgs M 2)).size, ((ofB (dgs M 2))[0]'h).toNat = qq M 1 % 256 := fun h => ofB_get (qq M 1 % 256) (dgs M 1) (by omega) h
        have hg1 : (ofB (dgs M 2)).extract 1 2 = ofB (dgs M 1) := ofB_tail _ _ _ (by rw [dgs_length])
        have hg2 : (ofB (dgs M 1)).size = 1 := by rw [ofB_size, dgs_length]
        have hb1 : qq M 1 % 256 < 64 := hb0
        generalize qq M 1 % 256 = b0 at *
        have hcv := conv_oneD wr (b0 + 64 * 1) (by omega)
        have HB2 := Lib.hid HB.out
        have hs1 : (ofB [b0 + 64 * 1]).size = 1 := rfl
        have HF := Lib.hid (ofB_append [b0 + 64 * 1] (dgs M 1))
        generalize ofB (dgs M 1) = ST at *
        generalize ofB (dgs M 2) = SS at *
        generalize hSH : ofB [b0 + 64 * 1] = SH at *
        have HSH := Lib.hid hSH
        clear hSH
        have hbc : ((b0 + 64 * 1 : Nat) : Int) = (b0 : Int) + 64 := by omega
        rw [hbc] at hcv
        clear hbc
        go_wp2
        go_region
        go_wp2
        go_ret
        exact ⟨by rw [HF.out, HN.out]; rfl, (HB2.out.alloc HB2.out.size _).drew⟩
  · have hnb := numB_dgs N M HM.out hM 3 2 hc rfl
    have C := Lib.hid (size_any M w)
    rw [hc, show szc 2 = 4 from rfl] at C
    clear hc
    have HN := Lib.hid hnb.1
    have hb0 := hnb.2
    clear hnb
    go_enter Tryd.func18, Tryd.ntmps18
    go_wp2_with fail
    refine C.out.mono ?_
    rintro e w' ⟨rfl, rfl⟩
    go_wp2
    refine wp_loop_rounds 3 ?_
    iterate 3 (rw [rounds_succ]; go_wp2)
    go_loopw [0, 6, 7] (fun n s i wr => ∃ k : Nat, k ≤ 4 ∧ i = .int .i64 k ∧ n = .int .u64 (qq M k) ∧ s = .string (ofB (dgs M k)) ∧ Below w.heap.size w wr) (fun _ _ i _ => 4 - (intOf i).toNat)
    case atStart => exact ⟨0, by omega, rfl, by rw [qq_zero], rfl, Below.refl _ _⟩
    case round =>
      obtain ⟨k, hk, rfl, rfl, rfl, hbw⟩ := hrel
      have HB := Lib.hid hbw
      clear hbw
      by_cases hlt : k < 4
      · have hq1 : ((qq M k : Nat) : Int) % 256 = ((qq M k % 256 : Nat) : Int) := by omega
        have hq2 : ((qq M k : Nat) : Int) / 256 = ((qq M (k + 1) : Nat) : Int) := by rw [← qq_succ]; omega
        have hdl : qq M k % 256 < 256 := Nat.mod_lt _ (by omega)
        have hcv := conv_one wr (qq M k % 256) hdl
        have hs2 : (ofB (dgs M k)).size = k := by rw [ofB_size, dgs_length]
        have hs1 : (ofB [qq M k % 256]).size = 1 := rfl
        have HE := Lib.hid (ofB_append [qq M k % 256] (dgs M k))
        have HD := Lib.hid (show dgs M (k + 1) = [qq M k % 256] ++ dgs M k from rfl)
        generalize qq M k % 256 = dg at *
        have hq3 : qq M (k + 1) < 4611686018427387904 := Nat.lt_of_le_of_lt (qq_le M (k + 1)) hM
        go_wp2
        go_roundw
        case rel => exact ⟨k + 1, by omega, by go_num, rfl, by rw [HE.out, HD.out], HB.out.alloc HB.out.size _⟩
        case measure => simp [intOf]; omega
      · obtain rfl : k = 4 := by omega
        have hsz : (ofB (dgs M 4)).size = 4 := by rw [ofB_size, dgs_length]
        have hg0 : ∀ h : 0 < (ofB (dgs M 4)).size, ((ofB (dgs M 4))[0]'h).toNat = qq M 3 % 256 := fun h => ofB_get (qq M 3 % 256) (dgs M 3) (by omega) h
        have hg1 : (ofB (dgs M 4)).extract 1 4 = ofB (dgs M 3) := ofB_tail _ _ _ (by rw [dgs_length])
        have hg2 : (ofB (dgs M 3)).size = 3 := by rw [ofB_size, dgs_length]
        have hb1 : qq M 3 % 256 < 64 := hb0
        generalize qq M 3 % 256 = b0 at *
        have hcv := conv_oneD wr (b0 + 64 * 2) (by omega)
        have HB2 := Lib.hid HB.out
        have hs1 : (ofB [b0 + 64 * 2]).size = 1 := rfl
        have HF := Lib.hid (ofB_append [b0 + 64 * 2] (dgs M 3))
        generalize ofB (dgs M 3) = ST at *
        generalize ofB (dgs M 4) = SS at *
        generalize hSH : ofB [b0 + 64 * 2] = SH at *
        have HSH := Lib.hid hSH
        clear hSH
        have hbc : ((b0 + 64 * 2 : Nat) : Int) = (b0 : Int) + 128 := by omega
        rw [hbc] at hcv
        clear hbc
        go_wp2
        go_region
        go_wp2
        go_ret
        exact ⟨by rw [HF.out, HN.out]; rfl, (HB2.out.alloc HB2.out.size _).drew⟩
  · have hnb := numB_dgs N M HM.out hM 7 3 hc rfl
    have C := Lib.hid (size_any M w)
    rw [hc, show szc 3 = 8 from rfl] at C
    clear hc
    have HN := Lib.hid hnb.1
    have hb0 := hnb.2
    clear hnb
    go_enter Tryd.func18, Tryd.ntmps18
    go_wp2_with fail
    refine C.out.mono ?_
    rintro e w' ⟨rfl, rfl⟩
    go_wp2
    refine wp_loop_rounds 4 ?_
    iterate 4 (rw [rounds_succ]; go_wp2)
    go_loopw [0, 6, 7] (fun n s i wr => ∃ k : Nat, k ≤ 8 ∧ i = .int .i64 k ∧ n = .int .u64 (qq M k) ∧ s = .string (ofB (dgs M k)) ∧ Below w.heap.size w wr) (fun _ _ i _ => 8 - (intOf i).toNat)
    case atStart => exact ⟨0, by omega, rfl, by rw [qq_zero], rfl, Below.refl _ _⟩
    case round =>
      obtain ⟨k, hk, rfl, rfl, rfl, hbw⟩ := hrel
      have HB := Lib.hid hbw
      clear hbw
      by_cases hlt : k < 8
      · have hq1 : ((qq M k : Nat) : Int) % 256 = ((qq M k % 256 : Nat) : Int) := by omega
        have hq2 : ((qq M k : Nat) : Int) / 256 = ((qq M (k + 1) : Nat) : Int) := by rw [← qq_succ]; omega
        have hdl : qq M k % 256 < 256 := Nat.mod_lt _ (by omega)
        have hcv := conv_one wr (qq M k % 256) hdl
        have hs2 : (ofB (dgs M k)).size = k := by rw [ofB_size, dgs_length]
        have hs1 : (ofB [qq M k % 256]).size = 1 := rfl
        have HE := Lib.hid (ofB_append [qq M k % 256] (dgs M k))
        have HD := Lib.hid (show dgs M (k + 1) = [qq M k % 256] ++ dgs M k from rfl)
        generalize qq M k % 256 = dg at *
        have hq3 : qq M (k + 1) < 4611686018427387904 := Nat.lt_of_le_of_lt (qq_le M (k + 1)) hM
        go_wp2
        go_roundw
        case rel => exact ⟨k + 1, by omega, by go_num, rfl, by rw [HE.out, HD.out], HB.out.alloc HB.out.size _⟩
        case measure => simp [intOf]; omega
      · obtain rfl : k = 8 := by omega
        have hsz : (ofB (dgs M 8)).size = 8 := by rw [ofB_size, dgs_length]
        have hg0 : ∀ h : 0 < (ofB (dgs M 8)).size, ((ofB (dgs M 8))[0]'h).toNat = qq M 7 % 256 := fun h => ofB_get (qq M 7 % 256) (dgs M 7) (by omega) h
        have hg1 : (ofB (dgs M 8)).extract 1 8 = ofB (dgs M 7) := ofB_tail _ _ _ (by rw [dgs_length])
        have hg2 : (ofB (dgs M 7)).size = 7 := by rw [ofB_size, dgs_length]
        have hb1 : qq M 7 % 256 < 64 := hb0
        generalize qq M 7 % 256 = b0 at *
        have hcv := conv_oneD wr (b0 + 64 * 3) (by omega)
        have HB2 := Lib.hid HB.out
        have hs1 : (ofB [b0 + 64 * 3]).size = 1 := rfl
        have HF := Lib.hid (ofB_append [b0 + 64 * 3] (dgs M 7))
        generalize ofB (dgs M 7) = ST at *
        generalize ofB (dgs M 8) = SS at *
        generalize hSH : ofB [b0 + 64 * 3] = SH at *
        have HSH := Lib.hid hSH
        clear hSH
        have hbc : ((b0 + 64 * 3 : Nat) : Int) = (b0 : Int) + 192 := by omega
        rw [hbc] at hcv
        clear hbc
        go_wp2
        go_region
        go_wp2
        go_ret
        exact ⟨by rw [HF.out, HN.out]; rfl, (HB2.out.alloc HB2.out.size _).drew⟩

theorem Int_any (n : Int) (hn : -9223372036854775808 ≤ n) (hn' : n ≤ 9223372036854775807) (w : World) : Calls Tryd.prog 20 #[.int .i64 n] w fun e w' => e = .returned (.string (ofB (numB (zig n)))) ∧ Below w.heap.size w w' := by
  rcases Int.lt_or_le n 0 with h | h
  · have C := Lib.hid (Num_any (zig n) (zig_lt n hn hn') w)
    have hz : ((zig n : Nat) : Int) = 2 * -(n + 1) + 1 := by unfold zig; rw [if_neg (by omega)]; omega
    rw [hz] at C
    clear hz
    go_enter Tryd.func20, Tryd.ntmps20
    go_wp2_with fail
    refine C.out.mono ?_
    rintro e w1 ⟨rfl, hb⟩
    go_wp2
    go_ret
    exact ⟨rfl, hb⟩
  · have C := Lib.hid (Num_any (zig n) (zig_lt n hn hn') w)
    have hz : ((zig n : Nat) : Int) = 2 * n := by unfold zig; rw [if_pos h]; omega
    rw [hz] at C
    clear hz
    go_enter Tryd.func20, Tryd.ntmps20
    go_wp2_with fail
    refine C.out.mono ?_
    rintro e w1 ⟨rfl, hb⟩
    go_wp2
    go_ret
    exact ⟨rfl, hb⟩
theorem Truth_any (t : Bool) (w : World) : Calls Tryd.prog 22 #[.bool t] w fun e w' => e = .returned (.string (ofB (truB t))) ∧ w = w' := by
  cases t
  · go_enter Tryd.func22, Tryd.ntmps22
    go_wp2
    go_ret
    exact ⟨rfl, rfl⟩
  · go_enter Tryd.func22, Tryd.ntmps22
    go_wp2
    go_ret
    exact ⟨rfl, rfl⟩
theorem ofB_sb (s : ByteArray) : ofB (sb s) = s := by
  apply ByteArray.ext
  apply Array.ext'
  simp [ofB, sb, Function.comp_def]
theorem Text_any (s : ByteArray) (hs : s.size ≤ 35184372088832) (w : World) : Calls Tryd.prog 24 #[.string s] w fun e w' => e = .returned (.string (ofB (numB s.size ++ sb s))) ∧ Below w.heap.size w w' := by
  have C := Lib.hid (Num_any s.size (by omega) w)
  have hl := (length_numB_bd s.size).2
  have HE : Hid (ofB (numB s.size) ++ s = ofB (numB s.size ++ sb s)) := by
    have := ofB_append (numB s.size) (sb s)
    rw [ofB_sb] at this
    exact this
  have hsz : (ofB (numB s.size)).size ≤ 8 := by rw [ofB_size]; exact hl
  generalize ofB (numB s.size) = NS at *
  go_enter Tryd.func24, Tryd.ntmps24
  go_wp2_with fail
  refine C.out.mono ?_
  rintro e w1 ⟨rfl, hb⟩
  go_wp2
  go_ret
  exact ⟨by rw [← HE.out]; rfl, hb⟩
end Go.Proofs.YtmmdkoomceikiaaDoor
