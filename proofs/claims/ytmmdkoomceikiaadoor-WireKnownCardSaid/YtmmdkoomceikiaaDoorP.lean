/-
  wire.P by its contract: b's bytes, and behind them those of the number, in new memory. Condition: the listed variables hold what they hold; b has fewer than 2^46 bytes.
-/
import Derived.Test.YtmmdkoomceikiaaDoorBytes
namespace Go.Proofs.YtmmdkoomceikiaaDoor
open Go.RowKit

def rowArr (T : Nat) : Array Value := #[.int .u8 ((T : Int) / 72057594037927936 % 256), .int .u8 ((T : Int) / 281474976710656 % 256), .int .u8 ((T : Int) / 1099511627776 % 256), .int .u8 ((T : Int) / 4294967296 % 256), .int .u8 ((T : Int) / 16777216 % 256), .int .u8 ((T : Int) / 65536 % 256), .int .u8 ((T : Int) / 256 % 256), .int .u8 ((T : Int) % 256)]
theorem rowArr_eq (T : Nat) : rowArr T = (bvals (row8 T)).toArray := by
  simp [rowArr, bvals, row8]
theorem row_cells (w : World) (t : TypeId) (T k : Nat) : ∀ (j x : Nat), ((row8 T).drop k)[j]? = some x → (w.alloc (.cells (rowArr T) t)).cell? ((⟨w.heap.size, k, none⟩ : Addr).add j) = some (.int .u8 (x : Int)) := by
  intro j x hx
  rw [List.getElem?_drop] at hx
  have e : (⟨w.heap.size, k, none⟩ : Addr).add j = ⟨w.heap.size, k + j, none⟩ := by
    unfold Addr.add
    by_cases h : j = 0 <;> simp [h]
  rw [e, World.cell?_alloc_mark, rowArr_eq]
  simp [bvals, hx]
theorem tag0 (M : Nat) (h : M < 18446744073709551616) (hc : cls M = 0) : bits .or .u64 (M : Int) 0 = ((tagged M : Nat) : Int) := by
  have e := u64_or_nat M 0 h (by omega)
  rw [show (0 : Int) = ((0 : Nat) : Int) from rfl, e]
  simp [tagged, hc]
theorem tag_ (M c s : Nat) (k : Nat) (hM : M < 2 ^ s) (hs : s = 8 * szc c - 2) (hc : cls M = c) (hk : k = c * 2 ^ s) (hk' : k < 18446744073709551616) (hM' : M < 18446744073709551616) : bits .or .u64 (M : Int) (k : Int) = ((tagged M : Nat) : Int) := by
  have e := u64_or_nat M k hM' hk'
  rw [e]
  congr 1
  rw [Nat.or_comm, nat_join s k M (by rw [hk]; exact Nat.mul_mod_left _ _) hM, tagged, hc, ← hs, hk, Nat.add_comm]
theorem numB_of (N M T c k : Nat) (hM : N % pow62 = M) (hT : tagged M = T) (hc : cls M = c) (hk : 8 - szc c = k) : numB N = (row8 T).drop k := by
  rw [numB, hM, hT, hc, hk]

set_option maxHeartbeats 1000000 in
theorem P_any (A : Option Addr) (n c : Nat) (l : List Nat) (N : Nat) (hN : N < 18446744073709551616) (w : World) (hL : Laid w) (hl : l.length = n) (hn : n ≤ c) (hA : RdB w w.heap.size A l) (hsz : n ≤ 70368744177664) :
    Calls Tryd.prog 17 #[.slice A n c, .int .u64 N] w fun e w' => ∃ v, e = .returned v ∧ Own w' w.heap.size v (l ++ numB N) ∧ Below w.heap.size w w' := by
  have hm := mask62 N hN
  have hM : N % pow62 < 4611686018427387904 := Nat.mod_lt _ (by decide)
  have hMM : Hid (N % pow62 = N % pow62) := rfl
  revert hMM
  generalize hM0 : N % pow62 = M at hm hM
  intro _
  have HM := Lib.hid hM0
  clear hM0
  have HL := Lib.hid hl
  clear hl
  have HA := Lib.hid hA
  clear hA
  rcases cls_ways M with ⟨h, hc⟩ | ⟨h, h', hc⟩ | ⟨h, h', hc⟩ | ⟨h, hc⟩
  · have hs0 := hL.s0
    have C := Lib.hid (classOf_any M w hL)
    rw [hc] at C
    have hT := tag0 M (by omega) hc
    have HB := Lib.hid (numB_of N M _ 0 7 HM.out rfl hc rfl)
    clear hc
    generalize tagged M = T at hT HB
    go_enter Tryd.func17, Tryd.ntmps17
    go_wp2_with (go_at_call 45; refine C.out.mono ?_; rintro e w' ⟨rfl, rfl⟩)
    refine wp_loop_rounds 9 ?_
    iterate 9 (rw [rounds_succ]; go_wp2_with fail)
    refine (behind_any A n c l ⟨w.heap.size, 7, none⟩ 1 1 ((row8 T).drop 7) _ HL.out hn ((HA.out.below ((Below.refl _ _).alloc (Nat.le_refl _) _) (Nat.le_refl _)).more (by simp)) rfl (by omega) (row_cells w 80 T 7) (by omega)).mono ?_
    rintro e w' ⟨v, rfl, hv, hb⟩
    go_wp2
    go_ret
    refine ⟨v, rfl, ?_, ?_⟩
    · rw [HB.out]
      exact hv.mono (by simp)
    · exact ((Below.refl _ _).alloc (Nat.le_refl _) _).trans (hb.mono (by simp))
  · have hs0 := hL.s1
    have C := Lib.hid (classOf_any M w hL)
    rw [hc] at C
    have hT : bits .or .u64 (M : Int) 16384 = ((tagged M : Nat) : Int) := tag_ M 1 14 16384 (by omega) rfl hc rfl (by omega) (by omega)
    have HB := Lib.hid (numB_of N M _ 1 6 HM.out rfl hc rfl)
    clear hc
    generalize tagged M = T at hT HB
    go_enter Tryd.func17, Tryd.ntmps17
    go_wp2_with (go_at_call 45; refine C.out.mono ?_; rintro e w' ⟨rfl, rfl⟩)
    refine wp_loop_rounds 9 ?_
    iterate 9 (rw [rounds_succ]; go_wp2_with fail)
    refine (behind_any A n c l ⟨w.heap.size, 6, none⟩ 2 2 ((row8 T).drop 6) _ HL.out hn ((HA.out.below ((Below.refl _ _).alloc (Nat.le_refl _) _) (Nat.le_refl _)).more (by simp)) rfl (by omega) (row_cells w 80 T 6) (by omega)).mono ?_
    rintro e w' ⟨v, rfl, hv, hb⟩
    go_wp2
    go_ret
    refine ⟨v, rfl, ?_, ?_⟩
    · rw [HB.out]
      exact hv.mono (by simp)
    · exact ((Below.refl _ _).alloc (Nat.le_refl _) _).trans (hb.mono (by simp))
  · have hs0 := hL.s2
    have C := Lib.hid (classOf_any M w hL)
    rw [hc] at C
    have hT : bits .or .u64 (M : Int) 2147483648 = ((tagged M : Nat) : Int) := tag_ M 2 30 2147483648 (by omega) rfl hc rfl (by omega) (by omega)
    have HB := Lib.hid (numB_of N M _ 2 4 HM.out rfl hc rfl)
    clear hc
    generalize tagged M = T at hT HB
    go_enter Tryd.func17, Tryd.ntmps17
    go_wp2_with (go_at_call 45; refine C.out.mono ?_; rintro e w' ⟨rfl, rfl⟩)
    refine wp_loop_rounds 9 ?_
    iterate 9 (rw [rounds_succ]; go_wp2_with fail)
    refine (behind_any A n c l ⟨w.heap.size, 4, none⟩ 4 4 ((row8 T).drop 4) _ HL.out hn ((HA.out.below ((Below.refl _ _).alloc (Nat.le_refl _) _) (Nat.le_refl _)).more (by simp)) rfl (by omega) (row_cells w 80 T 4) (by omega)).mono ?_
    rintro e w' ⟨v, rfl, hv, hb⟩
    go_wp2
    go_ret
    refine ⟨v, rfl, ?_, ?_⟩
    · rw [HB.out]
      exact hv.mono (by simp)
    · exact ((Below.refl _ _).alloc (Nat.le_refl _) _).trans (hb.mono (by simp))
  · have hs0 := hL.s3
    have C := Lib.hid (classOf_any M w hL)
    rw [hc] at C
    have hT : bits .or .u64 (M : Int) 13835058055282163712 = ((tagged M : Nat) : Int) := tag_ M 3 62 13835058055282163712 (by omega) rfl hc rfl (by omega) (by omega)
    have HB := Lib.hid (numB_of N M _ 3 0 HM.out rfl hc rfl)
    clear hc
    generalize tagged M = T at hT HB
    go_enter Tryd.func17, Tryd.ntmps17
    go_wp2_with (go_at_call 45; refine C.out.mono ?_; rintro e w' ⟨rfl, rfl⟩)
    refine wp_loop_rounds 9 ?_
    iterate 9 (rw [rounds_succ]; go_wp2_with fail)
    refine (behind_any A n c l ⟨w.heap.size, 0, none⟩ 8 8 ((row8 T).drop 0) _ HL.out hn ((HA.out.below ((Below.refl _ _).alloc (Nat.le_refl _) _) (Nat.le_refl _)).more (by simp)) rfl (by omega) (row_cells w 80 T 0) (by omega)).mono ?_
    rintro e w' ⟨v, rfl, hv, hb⟩
    go_wp2
    go_ret
    refine ⟨v, rfl, ?_, ?_⟩
    · rw [HB.out]
      exact hv.mono (by simp)
    · exact ((Below.refl _ _).alloc (Nat.le_refl _) _).trans (hb.mono (by simp))
end Go.Proofs.YtmmdkoomceikiaaDoor
