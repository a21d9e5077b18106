/-
  internal/strconv.ParseUint(t, 16, 32) at a row of digits to the base 16, and the public ParseUint at both bases, by contracts. Condition: the listed variable strconv.ErrRange holds an error.
-/
import Derived.Test.YtmebcenjghagoaaGreatDoorPu
import Derived.Lib.Walk
import Derived.Lib.ConvBytes
import Derived.Lib.ParseIntBMem
import Derived.Laws.Strings3
import Derived.Laws.Closers25
import Derived.Laws.Closers25b
import Derived.BigCall
import Derived.BigGuard
namespace Go.Proofs.YtmebcenjghagoaaGreatDoor
open Go.RowKit

theorem or_low (c : Nat) (h : 97 ≤ c ∧ c ≤ 102) : bits .or .u8 (c : Int) 32 = (c : Int) := by
  rcases (by omega : c = 97 ∨ c = 98 ∨ c = 99 ∨ c = 100 ∨ c = 101 ∨ c = 102) with rfl | rfl | rfl | rfl | rfl | rfl <;> decide
theorem or_up (c : Nat) (h : 65 ≤ c ∧ c ≤ 70) : bits .or .u8 (c : Int) 32 = (c : Int) + 32 := by
  rcases (by omega : c = 65 ∨ c = 66 ∨ c = 67 ∨ c = 68 ∨ c = 69 ∨ c = 70) with rfl | rfl | rfl | rfl | rfl | rfl <;> decide
def puV (r : Option Nat) : Value := match r with | some v => .tuple #[.int .u64 (v : Int), .nilIface] | none => .tuple #[.int .u64 4294967295, .iface 133 (.int .i64 1)]
set_option maxHeartbeats 32000000 in
set_option maxRecDepth 100000 in
theorem ipu16 (t : ByteArray) (hne : t.size ≠ 0) (hmax : t.size ≤ 70368744177664) (hd : ∀ i, i < t.size → ofK 8 (bAt t i) = true) (w : World) :
    Calls Tryz.prog 82 #[.string t, .int .i64 16, .int .i64 32] w fun e w' => e = .returned (puV (puS t 16 0 t.size 0)) ∧ w' = Lib.bytesWorld w 5 t := by
  have hemp : t.toList.isEmpty = false := by
    rw [← decide_eq_emptyBytes]
    exact decide_eq_false (fun h => hne (by rw [h]; rfl))
  have hcv := Lib.run_convert_string_bytes (P := Tryz.prog) w 9 22 5 t (u := .string) Tryz.underlying9 Tryz.underlying22 Tryz.underlying5
  have hB : ∀ j (hj : j < t.size), (Lib.bytesWorld w 5 t).cell? ⟨w.heap.size, j, none⟩ = some (.int .u8 (bAt t j : Nat)) := fun j hj => by
    rw [Lib.bytesWorld_cell w 5 t j hj, ← bAt_eq t j hj]
    congr 3
    simp [List.getD, hj]
    rfl
  obtain ⟨W1, hW1⟩ : ∃ W1, W1 = Lib.bytesWorld w 5 t := ⟨_, rfl⟩
  rw [← hW1] at hcv hB ⊢
  clear hW1
  have HB := Lib.hid hB
  have HD := Lib.hid hd
  clear hB hd
  have hmv : IntKind.u64.wrap (IntKind.u64.wrap 4294967296 - 1) = 4294967295 := by
    rw [IntKind.wrap_u64, IntKind.wrap_u64]
    decide
  go_enter Tryz.func82, Tryz.ntmps82
  go_wp2
  go_loop [12, 13, 101] (fun vu vn vi => ∃ (k acc : Nat) (a : Int), vu = .bool false ∧ vn = .int .u64 a ∧ vi = .int .i64 k ∧ k ≤ t.size ∧ Hid (a = (acc : Int) ∧ acc ≤ 4294967295 ∧ puS t 16 0 t.size 0 = puS t 16 k t.size acc))
    (fun _ _ vi => t.size - (intOf vi).toNat)
  case atStart => exact ⟨0, 0, 0, rfl, rfl, rfl, by omega, rfl, by omega, rfl⟩
  case round =>
    obtain ⟨k, acc, a, rfl, rfl, rfl, hk, hh⟩ := hrel
    obtain ⟨ha, hacc, hdec⟩ := hh.out
    clear hh
    have a0 : 0 ≤ a := by omega
    have a1 : a ≤ 4294967295 := by omega
    by_cases hkn : k < t.size
    · have hc := HB.out k hkn
      have hdk := HD.out k hkn
      rw [(ofK_all _).2.2.2, Bool.or_eq_true] at hdk
      have HO := Lib.hid (pu_over t 16 k t.size acc hkn)
      have HS := Lib.hid (pu_step t 16 k t.size acc hkn)
      have hc256 := bAt_lt t k
      generalize bAt t k = c at *
      rcases hdk with hdk | hdk
      · have hbd := isD_bd c hdk
        have hx := hexS_D c hdk
        have hx2 : (hexS c).toNat = c - 48 := by omega
        obtain ⟨hd0, hd1⟩ := hbd
        by_cases hov : 4294967295 < acc * 16 + (c - 48)
        · have HE : Hid (puS t 16 0 t.size 0 = none) := hdec.trans (HO.out (by rw [hx2]; exact hov))
          have iov : 4294967295 < a * 16 + ((c : Int) - 48) := by omega
          clear hov hx hx2 hdk HO HS hdec hacc ha
          go_wp2
          go_ret2
          exact ⟨by rw [HE.out]; rfl, rfl⟩
        · have HN : Hid (a * 16 + ((c : Int) - 48) = ((acc * 16 + (c - 48) : Nat) : Int) ∧ acc * 16 + (c - 48) ≤ 4294967295 ∧ puS t 16 0 t.size 0 = puS t 16 (k + 1) t.size (acc * 16 + (c - 48))) := by
            have := HS.out (by rw [hx2]; exact hov)
            rw [hx2] at this
            exact ⟨by omega, by omega, hdec.trans this⟩
          have iov : a * 16 + ((c : Int) - 48) ≤ 4294967295 := by omega
          clear hov hx hx2 hdk HO HS hdec hacc ha
          go_wp2
          refine ⟨⟨k + 1, acc * 16 + (c - 48), a * 16 + ((c : Int) - 48), rfl, (by first | rfl | (congr 1; omega)), (by first | rfl | (congr 1; omega)), by omega, HN⟩, by simp [intOf]; omega⟩
      · rcases isH_bd c hdk with ⟨hd0, hd1, hx⟩ | ⟨hd0, hd1, hx⟩
        · have hx2 : (hexS c).toNat = c - 87 := by omega
          have hor := or_low c ⟨hd0, hd1⟩
          have HL := Lib.hid (fun w => by have := Tryz.internal_strconv_lower (c : Int) w; rw [hor] at this; exact this)
          by_cases hov : 4294967295 < acc * 16 + (c - 87)
          · have HE : Hid (puS t 16 0 t.size 0 = none) := hdec.trans (HO.out (by rw [hx2]; exact hov))
            have iov : 4294967295 < a * 16 + ((c : Int) - 97 + 10) := by omega
            clear hov hx hx2 hdk HO HS hdec hacc ha hor
            go_wp2_with (go_at_call 84; refine (HL.out _).mono ?_; rintro e w' ⟨rfl, rfl⟩)
            go_ret2
            exact ⟨by rw [HE.out]; rfl, rfl⟩
          · have HN : Hid (a * 16 + ((c : Int) - 97 + 10) = ((acc * 16 + (c - 87) : Nat) : Int) ∧ acc * 16 + (c - 87) ≤ 4294967295 ∧ puS t 16 0 t.size 0 = puS t 16 (k + 1) t.size (acc * 16 + (c - 87))) := by
              have := HS.out (by rw [hx2]; exact hov)
              rw [hx2] at this
              exact ⟨by omega, by omega, hdec.trans this⟩
            have iov : a * 16 + ((c : Int) - 97 + 10) ≤ 4294967295 := by omega
            clear hov hx hx2 hdk HO HS hdec hacc ha hor
            go_wp2_with (go_at_call 84; refine (HL.out _).mono ?_; rintro e w' ⟨rfl, rfl⟩)
            refine ⟨⟨k + 1, acc * 16 + (c - 87), a * 16 + ((c : Int) - 97 + 10), rfl, (by first | rfl | (congr 1; omega)), (by first | rfl | (congr 1; omega)), by omega, HN⟩, by simp [intOf]; omega⟩
        · have hx2 : (hexS c).toNat = c - 55 := by omega
          have hor := or_up c ⟨hd0, hd1⟩
          have HL := Lib.hid (fun w => by have := Tryz.internal_strconv_lower (c : Int) w; rw [hor] at this; exact this)
          by_cases hov : 4294967295 < acc * 16 + (c - 55)
          · have HE : Hid (puS t 16 0 t.size 0 = none) := hdec.trans (HO.out (by rw [hx2]; exact hov))
            have iov : 4294967295 < a * 16 + ((c : Int) + 32 - 97 + 10) := by omega
            clear hov hx hx2 hdk HO HS hdec hacc ha hor
            go_wp2_with (go_at_call 84; refine (HL.out _).mono ?_; rintro e w' ⟨rfl, rfl⟩)
            go_ret2
            exact ⟨by rw [HE.out]; rfl, rfl⟩
          · have HN : Hid (a * 16 + ((c : Int) + 32 - 97 + 10) = ((acc * 16 + (c - 55) : Nat) : Int) ∧ acc * 16 + (c - 55) ≤ 4294967295 ∧ puS t 16 0 t.size 0 = puS t 16 (k + 1) t.size (acc * 16 + (c - 55))) := by
              have := HS.out (by rw [hx2]; exact hov)
              rw [hx2] at this
              exact ⟨by omega, by omega, hdec.trans this⟩
            have iov : a * 16 + ((c : Int) + 32 - 97 + 10) ≤ 4294967295 := by omega
            clear hov hx hx2 hdk HO HS hdec hacc ha hor
            go_wp2_with (go_at_call 84; refine (HL.out _).mono ?_; rintro e w' ⟨rfl, rfl⟩)
            refine ⟨⟨k + 1, acc * 16 + (c - 55), a * 16 + ((c : Int) + 32 - 97 + 10), rfl, (by first | rfl | (congr 1; omega)), (by first | rfl | (congr 1; omega)), by omega, HN⟩, by simp [intOf]; omega⟩
    · have hkk : k = t.size := by omega
      subst hkk
      have HE : Hid (puS t 16 0 t.size 0 = some acc) := hdec.trans (pu_end t 16 t.size t.size acc (by omega))
      subst ha
      clear hdec hacc a0 a1
      go_wp2
      go_ret2
      exact ⟨by rw [HE.out]; rfl, rfl⟩
end Go.Proofs.YtmebcenjghagoaaGreatDoor
