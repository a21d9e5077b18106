/-
  Thing.laid by its contract: a thing's bytes behind those that are there. Condition: the listed variables hold what they hold; there are fewer than 2^40 bytes.
-/
import Derived.Test.YtmmdkoomceikiaaDoorBackM
import Derived.IntWalk
namespace Go.Proofs.YtmmdkoomceikiaaDoor
open Go.RowKit

/-- What becomes of a slice of bytes of one's own that is laid onto: it holds these bytes, nothing else that was there has changed, and it lies where it lay, or in new memory. -/
structure Onto (w w' : World) (base : Nat) (v v' : Value) (l : List Nat) : Prop where
  own : Own w' base v' l
  grown : w.grownBy w' v.ownBlock
  block : ∀ g, v'.ownBlock = some g → v.ownBlock = some g ∨ w.heap.size ≤ g
theorem Onto.of_below {w w' : World} {base B : Nat} {v v' : Value} {l : List Nat} (h : Own w' B v' l) (hb : Below w.heap.size w w') (hB : w.heap.size ≤ B) (hbase : base ≤ w.heap.size) : Onto w w' base v v' l :=
  ⟨h.mono (by omega), ⟨hb.os, hb.tape, hb.output, hb.size, fun k hk _ => hb.block k hk⟩, fun g hg => Or.inr (by have := (h.lt g hg).1; omega)⟩
theorem Own.parts {w : World} {base : Nat} {A : Option Addr} {n c : Nat} {l : List Nat} (h : Own w base (.slice A n c) l) : l.length = n ∧ n ≤ c ∧ RdB w w.heap.size A l := by
  obtain ⟨A', cap', e, h1, _, _, h4, _⟩ := h.form
  injection e with e1 e2 e3
  subst e1 e2 e3
  exact ⟨rfl, h1, h4⟩
theorem numB_mod (N : Nat) : numB (N % 4611686018427387904) = numB N := by
  have e : N % 4611686018427387904 % pow62 = N % pow62 := by unfold pow62; omega
  unfold numB
  rw [e]
theorem wrap64_lo (x : Int) : -9223372036854775808 ≤ wrap64 x := by unfold wrap64; omega
theorem wrap64_hi (x : Int) : wrap64 x ≤ 9223372036854775807 := by unfold wrap64; omega
theorem div4_bd (y : Int) (h1 : -9223372036854775808 ≤ y) (h2 : y ≤ 9223372036854775807) : -9223372036854775808 ≤ y / 4 ∧ y / 4 ≤ 9223372036854775807 := by omega
/-- A thing in a box of its own. -/
def boxed (w : World) (k N : Nat) (S : ByteArray) : World := w.alloc (.cells #[.int .u8 (k : Int), .int .u64 (N : Int), .string S] 58)
theorem boxed_size (w : World) (k N : Nat) (S : ByteArray) : (boxed w k N S).heap.size = w.heap.size + 1 := by simp [boxed]
theorem boxed_below (w : World) (k N : Nat) (S : ByteArray) : Below w.heap.size w (boxed w k N S) := (Below.refl _ _).alloc (Nat.le_refl _) _
theorem boxed_own {w : World} {base : Nat} {A : Option Addr} {n c : Nat} {l : List Nat} (h : Own w base (.slice A n c) l) (k N : Nat) (S : ByteArray) : RdB (boxed w k N S) (boxed w k N S).heap.size A l ∧ l.length = n ∧ n ≤ c := by
  obtain ⟨h1, h2, h3⟩ := (h.alloc (.cells #[.int .u8 (k : Int), .int .u64 (N : Int), .string S] 58)).parts
  exact ⟨h3, h1, h2⟩
theorem boxed_onto {w w' : World} {base : Nat} {v v' : Value} {l : List Nat} {k N : Nat} {S : ByteArray} (h : Own w' (boxed w k N S).heap.size v' l) (hb : Below (boxed w k N S).heap.size (boxed w k N S) w') (hbase : base ≤ w.heap.size) : Onto w w' base v v' l :=
  Onto.of_below h ((boxed_below w k N S).trans (hb.mono (by rw [boxed_size]; omega))) (by rw [boxed_size]; omega) hbase

set_option maxHeartbeats 1000000 in
theorem laid_0 (k N : Nat) (S : ByteArray) (q : Int) (A : Option Addr) (n c : Nat) (l : List Nat) (w : World) (base : Nat) (hL : Laid w) (hO : Own w base (.slice A n c) l) (hbase : base ≤ w.heap.size) (hsz : n ≤ 1099511627776) (hN : N < 18446744073709551616)
    (hk : (k : Int) % 6 = q) (n0 : (q == 0) = true) :
    Calls Tryd.prog 25 #[.agg #[.int .u8 k, .int .u64 N, .string S], .slice A n c] w fun e w' => ∃ v', e = .returned v' ∧ Onto w w' base (.slice A n c) v' (l ++ numB N) := by
  obtain ⟨hA, hl, hn⟩ := boxed_own hO k N S
  have C := Lib.hid (by have := P_any A n c l (N % 4611686018427387904) (by omega) (boxed w k N S) (hL.below (boxed_below w k N S) hL.lt) hl hn hA (by omega); rw [numB_mod] at this; exact this)
  have hL2 := Lib.hid hL
  clear hA hl hO hL
  go_enter Tryd.func25, Tryd.ntmps25
  go_wp2_with fail
  rw [show ((N : Int) % 4611686018427387904) = ((N % 4611686018427387904 : Nat) : Int) from by omega]
  refine C.out.mono ?_
  rintro e w' ⟨v, rfl, hv, hb⟩
  have HV := Lib.hid hv
  have HB := Lib.hid hb
  clear hv hb
  go_wp2
  go_ret
  exact ⟨v, rfl, boxed_onto HV.out HB.out hbase⟩

set_option maxHeartbeats 1000000 in
theorem laid_1 (k N : Nat) (S : ByteArray) (q : Int) (A : Option Addr) (n c : Nat) (l : List Nat) (w : World) (base : Nat) (hL : Laid w) (hO : Own w base (.slice A n c) l) (hbase : base ≤ w.heap.size) (hsz : n ≤ 1099511627776)
    (hk : (k : Int) % 6 = q) (n0 : (q == 0) = false) (n1 : (q == 1) = true) :
    Calls Tryd.prog 25 #[.agg #[.int .u8 k, .int .u64 N, .string S], .slice A n c] w fun e w' => ∃ v', e = .returned v' ∧ Onto w w' base (.slice A n c) v' (l ++ numB (zig (wrap64 N / 4))) := by
  obtain ⟨hA, hl, hn⟩ := boxed_own hO k N S
  have C := Lib.hid (PI_any A n c l (wrap64 N / 4) (div4_bd _ (wrap64_lo _) (wrap64_hi _)).1 (div4_bd _ (wrap64_lo _) (wrap64_hi _)).2 (boxed w k N S) (hL.below (boxed_below w k N S) hL.lt) hl hn hA (by omega))
  have hL2 := Lib.hid hL
  clear hA hl hO hL
  go_enter Tryd.func25, Tryd.ntmps25
  go_wp2_with fail
  refine C.out.mono ?_
  rintro e w' ⟨v, rfl, hv, hb⟩
  have HV := Lib.hid hv
  have HB := Lib.hid hb
  clear hv hb
  go_wp2
  go_ret
  exact ⟨v, rfl, boxed_onto HV.out HB.out hbase⟩

set_option maxHeartbeats 1000000 in
theorem laid_2 (k N : Nat) (S : ByteArray) (q : Int) (A : Option Addr) (n c : Nat) (l : List Nat) (w : World) (base : Nat) (hO : Own w base (.slice A n c) l) (hbase : base ≤ w.heap.size) (hsz : n ≤ 1099511627776)
    (hk : (k : Int) % 6 = q) (n0 : (q == 0) = false) (n1 : (q == 1) = false) (n2 : (q == 2) = true) :
    Calls Tryd.prog 25 #[.agg #[.int .u8 k, .int .u64 N, .string S], .slice A n c] w fun e w' => ∃ v', e = .returned v' ∧ Onto w w' base (.slice A n c) v' (l ++ [N % 256]) := by
  have hl := hO.parts.1
  have HO := Lib.hid (hO.alloc (.cells #[.int .u8 (k : Int), .int .u64 (N : Int), .string S] 58) |>.alloc (.cells #[.int .u8 ((N : Int) % 256)] 5))
  rw [Own, hl] at HO
  have HLen := Lib.hid hl
  obtain ⟨i0, hi0, hz0, hz1, hz2⟩ := info_parts u8info
  have H9 := Lib.hid hz0
  have H10 := Lib.hid hz1
  have H11 := Lib.hid hz2
  have H12 := Lib.hid hi0
  have G0 : Hid (w.grownBy ((w.alloc (.cells #[.int .u8 (k : Int), .int .u64 (N : Int), .string S] 58)).alloc (.cells #[.int .u8 ((N : Int) % 256)] 5)) (Value.slice A n c).ownBlock) := Lib.hid ((World.grownBy_alloc _ _ _).trans (World.grownBy_alloc _ _ _))
  clear hO hl hz0 hz1 hz2 hi0
  go_enter Tryd.func25, Tryd.ntmps25
  go_wp2_with (at_builtin; refine wpList_append_own_at _ rfl (.tmp 25) (.tmp 29) _ rfl base 5 i0 _ 1 1 Tryd.underlying43 H12.out H9.out H10.out H11.out rfl (by omega) (.slice A n c) n (bvals l) rfl HO.out ⟨w.heap.size + 1, 0, none⟩ 1 1 [.int .u8 ((N : Int) % 256)] rfl rfl (by have := cell_one_new (w.alloc (.cells #[.int .u8 (k : Int), .int .u64 (N : Int), .string S] 58)) (.int .u8 ((N : Int) % 256)) 5; simpa using this) (by intro u hu; simp at hu; subst hu; rfl) (by simp only [maxLen]; omega) (by omega) (by simp; omega) ?_; intro v1 w1 hown1 hg1 _ hblk1; have O1 := Lib.hid hown1; have G1 := Lib.hid hg1; have B1 := Lib.hid hblk1; clear hown1 hg1 hblk1)
  go_ret
  refine ⟨v1, rfl, ?_, G0.out.trans G1.out, fun g hg => ?_⟩
  · rw [Own, List.length_append, HLen.out, ← bvals_append]
    exact O1.out
  · rcases B1.out with h | h
    · exact Or.inl (by rw [← h]; exact hg)
    · rw [h] at hg
      injection hg with hg
      simp at hg
      exact Or.inr (by omega)

set_option maxHeartbeats 1000000 in
theorem laid_3 (k N : Nat) (S : ByteArray) (q : Int) (A : Option Addr) (n c : Nat) (l : List Nat) (w : World) (base : Nat) (hL : Laid w) (hO : Own w base (.slice A n c) l) (hbase : base ≤ w.heap.size) (hsz : n ≤ 1099511627776)
    (hk : (k : Int) % 6 = q) (n0 : (q == 0) = false) (n1 : (q == 1) = false) (n2 : (q == 2) = false) (n3 : (q == 3) = true) :
    Calls Tryd.prog 25 #[.agg #[.int .u8 k, .int .u64 N, .string S], .slice A n c] w fun e w' => ∃ v', e = .returned v' ∧ Onto w w' base (.slice A n c) v' (l ++ truB (N % 2 == 1)) := by
  obtain ⟨hA, hl, hn⟩ := boxed_own hO k N S
  have C := Lib.hid (PT_any A n c l (N % 2 == 1) (boxed w k N S) hl hn hA (by omega))
  have hL2 := Lib.hid hL
  clear hA hl hO hL
  go_enter Tryd.func25, Tryd.ntmps25
  go_wp2_with fail
  rw [show ((N : Int) % 2 == 1) = (N % 2 == 1) from by rw [Bool.eq_iff_iff]; simp; omega]
  refine C.out.mono ?_
  rintro e w' ⟨v, rfl, hv, hb⟩
  have HV := Lib.hid hv
  have HB := Lib.hid hb
  clear hv hb
  go_wp2
  go_ret
  exact ⟨v, rfl, boxed_onto HV.out HB.out hbase⟩

set_option maxHeartbeats 1000000 in
theorem laid_4 (k N : Nat) (S : ByteArray) (q : Int) (A : Option Addr) (n c : Nat) (l : List Nat) (w : World) (base : Nat) (hL : Laid w) (hO : Own w base (.slice A n c) l) (hbase : base ≤ w.heap.size) (hsz : n ≤ 1099511627776) (hS : S.size ≤ 9223372036854775807)
    (hk : (k : Int) % 6 = q) (n0 : (q == 0) = false) (n1 : (q == 1) = false) (n2 : (q == 2) = false) (n3 : (q == 3) = false) (n4 : (q == 4) = true) :
    Calls Tryd.prog 25 #[.agg #[.int .u8 k, .int .u64 N, .string S], .slice A n c] w fun e w' => ∃ v', e = .returned v' ∧ Onto w w' base (.slice A n c) v' (l ++ (numB (S.extract 0 (min (S.size : Int) 99).toNat).size ++ sb (S.extract 0 (min (S.size : Int) 99).toNat))) := by
  obtain ⟨hA, hl, hn⟩ := boxed_own hO k N S
  have C := Lib.hid (PS_any A n c l (S.extract 0 (min (S.size : Int) 99).toNat) (boxed w k N S) (hL.below (boxed_below w k N S) hL.lt) hl hn hA (by omega) (by rw [ByteArray.size_extract]; omega))
  have hL2 := Lib.hid hL
  clear hA hl hO hL
  go_enter Tryd.func25, Tryd.ntmps25
  go_wp2_with fail
  refine C.out.mono ?_
  rintro e w' ⟨v, rfl, hv, hb⟩
  have HV := Lib.hid hv
  have HB := Lib.hid hb
  clear hv hb
  go_wp2
  go_ret
  exact ⟨v, rfl, boxed_onto HV.out HB.out hbase⟩

set_option maxHeartbeats 1000000 in
theorem laid_5 (k N : Nat) (S : ByteArray) (q : Int) (A : Option Addr) (n c : Nat) (l : List Nat) (w : World) (base : Nat) (hL : Laid w) (hO : Own w base (.slice A n c) l) (hbase : base ≤ w.heap.size) (hsz : n ≤ 1099511627776) (hN : N < 18446744073709551616)
    (hk : (k : Int) % 6 = q) (n0 : (q == 0) = false) (n1 : (q == 1) = false) (n2 : (q == 2) = false) (n3 : (q == 3) = false) (n4 : (q == 4) = false) :
    Calls Tryd.prog 25 #[.agg #[.int .u8 k, .int .u64 N, .string S], .slice A n c] w fun e w' => ∃ v', e = .returned v' ∧ Onto w w' base (.slice A n c) v' (l ++ numB (N % 1000)) := by
  obtain ⟨hA, hl, hn⟩ := boxed_own hO k N S
  have C := Lib.hid (P_any A n c l (N % 1000) (by omega) (boxed w k N S) (hL.below (boxed_below w k N S) hL.lt) hl hn hA (by omega))
  have hL2 := Lib.hid hL
  clear hA hl hO hL
  go_enter Tryd.func25, Tryd.ntmps25
  go_wp2_with fail
  rw [show ((N : Int) % 1000) = ((N % 1000 : Nat) : Int) from by omega]
  refine C.out.mono ?_
  rintro e w' ⟨v, rfl, hv, hb⟩
  have HV := Lib.hid hv
  have HB := Lib.hid hb
  clear hv hb
  go_wp2
  go_ret
  exact ⟨v, rfl, boxed_onto HV.out HB.out hbase⟩

/-- A thing's bytes. -/
def thingB (k N : Nat) (S : ByteArray) : List Nat :=
  if k % 6 = 0 then numB N else if k % 6 = 1 then numB (zig (wrap64 N / 4)) else if k % 6 = 2 then [N % 256]
  else if k % 6 = 3 then truB (N % 2 == 1) else if k % 6 = 4 then numB (S.extract 0 (min (S.size : Int) 99).toNat).size ++ sb (S.extract 0 (min (S.size : Int) 99).toNat)
  else numB (N % 1000)
theorem laid_any (k N : Nat) (S : ByteArray) (A : Option Addr) (n c : Nat) (l : List Nat) (w : World) (base : Nat) (hL : Laid w) (hO : Own w base (.slice A n c) l) (hbase : base ≤ w.heap.size) (hsz : n ≤ 1099511627776) (hN : N < 18446744073709551616) (hS : S.size ≤ 9223372036854775807) :
    Calls Tryd.prog 25 #[.agg #[.int .u8 k, .int .u64 N, .string S], .slice A n c] w fun e w' => ∃ v', e = .returned v' ∧ Onto w w' base (.slice A n c) v' (l ++ thingB k N S) := by
  have h6 : k % 6 < 6 := Nat.mod_lt _ (by decide)
  unfold thingB
  by_cases h0 : k % 6 = 0
  · rw [if_pos h0]; exact laid_0 k N S 0 A n c l w base hL hO hbase hsz hN (by omega) rfl
  rw [if_neg h0]
  by_cases h1 : k % 6 = 1
  · rw [if_pos h1]; exact laid_1 k N S 1 A n c l w base hL hO hbase hsz (by omega) rfl rfl
  rw [if_neg h1]
  by_cases h2 : k % 6 = 2
  · rw [if_pos h2]; exact laid_2 k N S 2 A n c l w base hO hbase hsz (by omega) rfl rfl rfl
  rw [if_neg h2]
  by_cases h3 : k % 6 = 3
  · rw [if_pos h3]; exact laid_3 k N S 3 A n c l w base hL hO hbase hsz (by omega) rfl rfl rfl rfl
  rw [if_neg h3]
  by_cases h4 : k % 6 = 4
  · rw [if_pos h4]; exact laid_4 k N S 4 A n c l w base hL hO hbase hsz hS (by omega) rfl rfl rfl rfl rfl
  rw [if_neg h4]
  exact laid_5 k N S 5 A n c l w base hL hO hbase hsz hN (by omega) rfl rfl rfl rfl rfl
end Go.Proofs.YtmmdkoomceikiaaDoor
