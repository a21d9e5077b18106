/-
  wire.PI, PT, PS by their contracts: b's bytes, and behind them those of the whole number, the truth, the text, in new memory. Condition: the listed variables hold what they hold; the lengths stay below 2^46 bytes.
-/
import Derived.Test.YtmmdkoomceikiaaDoorP
import Derived.Lib.AppendStr
namespace Go.Proofs.YtmmdkoomceikiaaDoor
open Go.RowKit

/-- A whole number as a number. -/
def zig (n : Int) : Nat := if 0 ≤ n then (2 * n).toNat else (-2 * n - 1).toNat
/-- A text's bytes. -/
def sb (s : ByteArray) : List Nat := s.data.toList.map UInt8.toNat
theorem length_sb (s : ByteArray) : (sb s).length = s.size := by simp [sb]
theorem len_sb (a : List Nat) (s : ByteArray) : (a ++ sb s).length = a.length + s.size := by rw [List.length_append, length_sb]
theorem zig_pos (n : Int) (h : 0 ≤ n) (h' : n ≤ 9223372036854775807) : bits .xor .u64 (n * 2) (n / 9223372036854775808) = ((zig n : Nat) : Int) := by
  obtain ⟨m, rfl⟩ := Int.eq_ofNat_of_zero_le h
  rw [show ((m : Int) / 9223372036854775808) = ((0 : Nat) : Int) from by omega, show ((m : Int) * 2) = ((m * 2 : Nat) : Int) from by omega, u64_xor_nat _ _ (by omega) (by omega)]
  simp [zig]
  omega
theorem xor_all (a : Nat) (h : a < 18446744073709551616) : a ^^^ 18446744073709551615 = 18446744073709551615 - a := by
  have e : (BitVec.ofNat 64 a ^^^ BitVec.allOnes 64).toNat = (~~~ BitVec.ofNat 64 a).toNat := by rw [BitVec.xor_allOnes]
  rw [BitVec.toNat_xor, BitVec.toNat_not, BitVec.toNat_ofNat, BitVec.toNat_allOnes] at e
  rw [Nat.mod_eq_of_lt (by omega)] at e
  omega
theorem zig_neg (n : Int) (h : n < 0) (h' : -9223372036854775808 ≤ n) : bits .xor .u64 (IntKind.u64.wrap (IntKind.u64.wrap n * 2)) (IntKind.u64.wrap (n / 9223372036854775808)) = ((zig n : Nat) : Int) := by
  have e1 : n / 9223372036854775808 = -1 := by omega
  have w1 : ∀ x : Int, IntKind.u64.wrap x = x % 18446744073709551616 := fun x => by simp [IntKind.wrap, IntKind.bits, IntKind.signed]
  rw [e1, w1, w1, w1]
  obtain ⟨a, ha⟩ : ∃ a : Nat, n % 18446744073709551616 * 2 % 18446744073709551616 = (a : Int) := Int.eq_ofNat_of_zero_le (by omega)
  rw [ha, show ((-1 : Int) % 18446744073709551616) = ((18446744073709551615 : Nat) : Int) from rfl, u64_xor_nat _ _ (by omega) (by omega), xor_all a (by omega)]
  have : ¬ 0 ≤ n := by omega
  simp only [zig, this, if_false]
  omega
theorem zig_lt (n : Int) (h : -9223372036854775808 ≤ n) (h' : n ≤ 9223372036854775807) : zig n < 18446744073709551616 := by
  unfold zig; split <;> omega

set_option maxHeartbeats 1000000 in
theorem PI_any (A : Option Addr) (n c : Nat) (l : List Nat) (N : Int) (hN : -9223372036854775808 ≤ N) (hN' : N ≤ 9223372036854775807) (w : World) (hL : Laid w) (hl : l.length = n) (hn : n ≤ c) (hA : RdB w w.heap.size A l) (hsz : n ≤ 70368744177664) :
    Calls Tryd.prog 19 #[.slice A n c, .int .i64 N] w fun e w' => ∃ v, e = .returned v ∧ Own w' w.heap.size v (l ++ numB (zig N)) ∧ Below w.heap.size w w' := by
  have C := Lib.hid (P_any A n c l (zig N) (zig_lt N hN hN') w hL hl hn hA hsz)
  have HL := Lib.hid hl
  clear hl hA
  rcases Int.lt_or_le N 0 with h | h
  · go_enter Tryd.func19, Tryd.ntmps19
    go_wp2_with fail
    rw [zig_neg N h hN]
    refine C.out.mono ?_
    rintro e w' ⟨v, rfl, hv, hb⟩
    go_wp2
    go_ret
    exact ⟨v, rfl, hv, hb⟩
  · go_enter Tryd.func19, Tryd.ntmps19
    go_wp2_with fail
    rw [zig_pos N h hN']
    refine C.out.mono ?_
    rintro e w' ⟨v, rfl, hv, hb⟩
    go_wp2
    go_ret
    exact ⟨v, rfl, hv, hb⟩

def truB (t : Bool) : List Nat := if t then [1] else [0]
set_option maxHeartbeats 1000000 in
theorem PT_any (A : Option Addr) (n c : Nat) (l : List Nat) (t : Bool) (w : World) (hl : l.length = n) (hn : n ≤ c) (hA : RdB w w.heap.size A l) (hsz : n ≤ 70368744177664) :
    Calls Tryd.prog 21 #[.slice A n c, .bool t] w fun e w' => ∃ v, e = .returned v ∧ Own w' w.heap.size v (l ++ truB t) ∧ Below w.heap.size w w' := by
  have HL := Lib.hid hl
  have HA := Lib.hid hA
  clear hl hA
  have one : ∀ (x : Nat) (j y : Nat), [x][j]? = some y → (w.alloc (.cells #[.int .u8 (x : Int)] 5)).cell? ((⟨w.heap.size, 0, none⟩ : Addr).add j) = some (.int .u8 (y : Int)) := by
    intro x j y h
    rcases j with _ | j
    · simp at h; subst h; simp [Addr.add]
    · simp at h
  have H1 := Lib.hid one
  clear one
  cases t
  · go_enter Tryd.func21, Tryd.ntmps21
    go_wp2_with fail
    refine (behind_any A n c l ⟨w.heap.size, 0, none⟩ 1 1 [0] _ HL.out hn ((HA.out.below ((Below.refl _ _).alloc (Nat.le_refl _) _) (Nat.le_refl _)).more (by simp)) rfl (by omega) (H1.out 0) (by omega)).mono ?_
    rintro e w' ⟨v, rfl, hv, hb⟩
    go_wp2
    go_ret
    exact ⟨v, rfl, hv.mono (by simp), ((Below.refl _ _).alloc (Nat.le_refl _) _).trans (hb.mono (by simp))⟩
  · go_enter Tryd.func21, Tryd.ntmps21
    go_wp2_with fail
    refine (behind_any A n c l ⟨w.heap.size, 0, none⟩ 1 1 [1] _ HL.out hn ((HA.out.below ((Below.refl _ _).alloc (Nat.le_refl _) _) (Nat.le_refl _)).more (by simp)) rfl (by omega) (H1.out 1) (by omega)).mono ?_
    rintro e w' ⟨v, rfl, hv, hb⟩
    go_wp2
    go_ret
    exact ⟨v, rfl, hv.mono (by simp), ((Below.refl _ _).alloc (Nat.le_refl _) _).trans (hb.mono (by simp))⟩

theorem strCells_sb (s : ByteArray) : Lib.strCells s = bvals (sb s) := by
  simp [Lib.strCells, bvals, sb, Function.comp_def]
set_option maxHeartbeats 1000000 in
theorem PS_any (A : Option Addr) (n c : Nat) (l : List Nat) (s : ByteArray) (w : World) (hL : Laid w) (hl : l.length = n) (hn : n ≤ c) (hA : RdB w w.heap.size A l) (hsz : n ≤ 35184372088832) (hs : s.size ≤ 35184372088832) :
    Calls Tryd.prog 23 #[.slice A n c, .string s] w fun e w' => ∃ v, e = .returned v ∧ Own w' w.heap.size v (l ++ (numB s.size ++ sb s)) ∧ Below w.heap.size w w' := by
  have C := Lib.hid (P_any A n c l s.size (by omega) w hL hl hn hA (by omega))
  have hq := length_numB_bd s.size
  have hlen : (l ++ numB s.size).length ≤ n + 8 := by rw [List.length_append, hl]; omega
  have HL := Lib.hid hl
  clear hl hA hq
  obtain ⟨i0, hi0, hz0, hz1, hz2⟩ := info_parts u8info
  have H9 := Lib.hid hz0
  have H10 := Lib.hid hz1
  have H11 := Lib.hid hz2
  have H12 := Lib.hid hi0
  clear hz0 hz1 hz2 hi0
  go_enter Tryd.func23, Tryd.ntmps23
  go_wp2_with fail
  refine C.out.mono ?_
  rintro e w1 ⟨v, rfl, hv, hb⟩
  have hbs := hb.size
  have hlt := hv.lt
  go_wp2_with (at_builtin; refine Lib.wpList_append_own_string _ rfl (.tmp 9) (.tmp 10) _ _ rfl w.heap.size 5 i0 Tryd.underlying43 Tryd.underlying9 H12.out H9.out H10.out H11.out v _ _ rfl hv s rfl (by simp only [maxLen]; omega) (by omega) hbs ?_; intro v2 w2 hown2 hg2 _)
  go_ret
  refine ⟨v2, rfl, ?_, hb.grown hg2 hbs (fun k hk => (hlt k hk).1)⟩
  have e1 : (l ++ numB s.size ++ sb s).length = (l ++ numB s.size).length + s.size := len_sb _ s
  rw [Own, ← List.append_assoc, e1, ← bvals_append (l ++ numB s.size) (sb s), ← strCells_sb]
  exact hown2
end Go.Proofs.YtmmdkoomceikiaaDoor
