/-
  Thing.back by its contract: it answers true if the thing is what is read, and the in goes on. Condition: the listed variables hold what they hold; the text is shorter than 2^46 bytes.
-/
import Derived.Test.YtmmdkoomceikiaaDoorThing
import Derived.Deep.RegionHeld3
namespace Go.Proofs.YtmmdkoomceikiaaDoor
open Go.RowKit

theorem tmod_nat (n : Nat) (m : Int) : ((n : Int)).tmod m = (n : Int) % m := Int.tmod_eq_emod_of_nonneg (Int.natCast_nonneg n)
theorem odd_eq (N : Nat) : (N % 2 == 1) = (((N : Int) % 2) == 1) := by rw [Bool.eq_iff_iff]; simp; omega
theorem wrap_u8 (x : Int) : IntKind.u8.wrap x = x % 256 := by simp [IntKind.wrap, IntKind.bits, IntKind.signed]
theorem boxed_c1 (w : World) (k N : Nat) (S : ByteArray) : (boxed w k N S).cell? ⟨w.heap.size, 1, none⟩ = some (.int .u64 (N : Int)) := by
  unfold boxed
  rw [cell_of_row _ w.heap.size 1 _ _ _ (heap_alloc_new w _)]; rfl
theorem boxed_c2 (w : World) (k N : Nat) (S : ByteArray) : (boxed w k N S).cell? ⟨w.heap.size, 2, none⟩ = some (.string S) := by
  unfold boxed
  rw [cell_of_row _ w.heap.size 2 _ _ _ (heap_alloc_new w _)]; rfl
theorem boxed_keep {w w1 : World} {b k N i : Nat} {S : ByteArray} {u : Value} (hb : b < w.heap.size) (hc : Chg b (boxed w k N S).drew w1) (h : (boxed w k N S).cell? ⟨w.heap.size, i, none⟩ = some u) : w1.cell? ⟨w.heap.size, i, none⟩ = some u := by
  have e := hc.other (k := w.heap.size) (by show w.heap.size < (boxed w k N S).heap.size; rw [boxed_size]; omega) (by omega)
  have e2 : w1.heap[w.heap.size]? = (boxed w k N S).heap[w.heap.size]? := e
  rw [← h]
  have h1 := heap_alloc_new w (.cells #[.int .u8 (k : Int), .int .u64 (N : Int), .string S] 58)
  have e3 : w1.heap[w.heap.size]? = some (.cells #[.int .u8 (k : Int), .int .u64 (N : Int), .string S] 58 (0, 0)) := e2.trans h1
  rw [cell_of_row w1 w.heap.size i _ _ _ e3, cell_of_row (boxed w k N S) w.heap.size i _ _ _ h1]
theorem boxed_in {w : World} {b : Nat} {s : ByteArray} {p : Nat} {F : Option (Int × Int)} (h : InS w b s p F) (k N : Nat) (S : ByteArray) : InS (boxed w k N S).drew b s p F := (h.below (boxed_below w k N S) (Nat.le_refl _)).drewN 1
theorem boxed_laid {w : World} (h : Laid w) (k N : Nat) (S : ByteArray) : Laid (boxed w k N S).drew := (h.below (boxed_below w k N S) h.lt).drewN 1
theorem boxed_chg {w w1 : World} {b k N : Nat} {S : ByteArray} (hc : Chg b (boxed w k N S).drew w1) : Chg b w w1 := ((Chg.alloc b w _).trans (Chg.drewN b _ 1)).trans hc

set_option maxHeartbeats 1000000 in
theorem back_0 (k N : Nat) (S : ByteArray) (q : Int) (b : Nat) (s : ByteArray) (st : St) (w : World) (hL : Laid w) (h : InS w b s st.p st.F) (hp : st.p ≤ s.size) (hs : s.size ≤ 70368744177664)
    (hk : (k : Int) % 6 = q) (n0 : (q == 0) = true) :
    Calls Tryd.prog 26 #[.agg #[.int .u8 k, .int .u64 N, .string S], .pointer (some ⟨b, 0, none⟩)] w fun e w' => ∃ t : Bool, e = .returned (.bool t) ∧ ((uS s st).1 = N % 4611686018427387904 → t = true) ∧ InS w' b s (uS s st).2.p (uS s st).2.F ∧ Chg b w w' := by
  have hbl := h.lt
  have C := Lib.hid (U_any b s st (boxed w k N S).drew (boxed_laid hL k N S) (boxed_in h k N S) hp hs)
  have c0 := boxed_c1 w k N S
  have C0 := Lib.hid c0
  have K1 := Lib.hid (fun (w1 : World) (hc : Chg b (boxed w k N S).drew w1) => boxed_keep (i := 1) hbl hc C0.out)
  have hbw : boxed w k N S = w.alloc (.cells #[.int .u8 (k : Int), .int .u64 (N : Int), .string S] 58) := rfl
  have HBW := Lib.hid hbw
  have CH := Lib.hid (fun (w1 : World) (hc : Chg b (boxed w k N S).drew w1) => boxed_chg hc)
  clear h hbw c0 hL
  go_enter Tryd.func26, Tryd.ntmps26
  go_wp2_with fail
  rw [← HBW.out]
  have c1 := C0.out
  clear HBW C0
  generalize boxed w k N S = W at *
  go_region_held3 (fun w' => w'.cell? ⟨w.heap.size, 1, none⟩ = some (.int .u64 (N : Int))) (go_keep) (first | (go_at_call 27; refine C.out.mono ?_; rintro e w1 ⟨rfl, hi, hch⟩; have kd := K1.out _ hch; have HI := Lib.hid hi; have HC := Lib.hid (CH.out _ hch); clear hi hch))
  all_goals
    go_wp2
    go_ret
    exact ⟨_, rfl, fun hx => by rw [hx]; simp [tmod_nat], HI.out, HC.out⟩

set_option maxHeartbeats 1000000 in
theorem back_1 (k N : Nat) (S : ByteArray) (q : Int) (b : Nat) (s : ByteArray) (st : St) (w : World) (hL : Laid w) (h : InS w b s st.p st.F) (hp : st.p ≤ s.size) (hs : s.size ≤ 70368744177664)
    (hk : (k : Int) % 6 = q) (n0 : (q == 0) = false) (n1 : (q == 1) = true) :
    Calls Tryd.prog 26 #[.agg #[.int .u8 k, .int .u64 N, .string S], .pointer (some ⟨b, 0, none⟩)] w fun e w' => ∃ t : Bool, e = .returned (.bool t) ∧ (unzig (uS s st).1 = wrap64 N / 4 → t = true) ∧ InS w' b s (uS s st).2.p (uS s st).2.F ∧ Chg b w w' := by
  have hbl := h.lt
  have C := Lib.hid (I_any b s st (boxed w k N S).drew (boxed_laid hL k N S) (boxed_in h k N S) hp hs)
  have c0 := boxed_c1 w k N S
  have C0 := Lib.hid c0
  have K1 := Lib.hid (fun (w1 : World) (hc : Chg b (boxed w k N S).drew w1) => boxed_keep (i := 1) hbl hc C0.out)
  have hbw : boxed w k N S = w.alloc (.cells #[.int .u8 (k : Int), .int .u64 (N : Int), .string S] 58) := rfl
  have HBW := Lib.hid hbw
  have CH := Lib.hid (fun (w1 : World) (hc : Chg b (boxed w k N S).drew w1) => boxed_chg hc)
  clear h hbw c0 hL
  go_enter Tryd.func26, Tryd.ntmps26
  go_wp2_with fail
  rw [← HBW.out]
  have c1 := C0.out
  clear HBW C0
  generalize boxed w k N S = W at *
  have hw : IntKind.i64.wrap (N : Int) = wrap64 N := (IntKind.wrap_i64 _).trans (by rw [wrap64])
  go_region_held3 (fun w' => w'.cell? ⟨w.heap.size, 1, none⟩ = some (.int .u64 (N : Int))) (go_keep) (first | (go_at_call 33; refine C.out.mono ?_; rintro e w1 ⟨rfl, hi, hch⟩; have kd := K1.out _ hch; have HI := Lib.hid hi; have HC := Lib.hid (CH.out _ hch); clear hi hch))
  all_goals
    go_wp2
    go_ret
    exact ⟨_, rfl, fun hx => by rw [hx]; simp, HI.out, HC.out⟩

set_option maxHeartbeats 1000000 in
theorem back_2 (k N : Nat) (S : ByteArray) (q : Int) (b : Nat) (s : ByteArray) (st : St) (w : World) (h : InS w b s st.p st.F) (hp : st.p ≤ s.size) (hs : s.size ≤ 70368744177664)
    (hk : (k : Int) % 6 = q) (n0 : (q == 0) = false) (n1 : (q == 1) = false) (n2 : (q == 2) = true) :
    Calls Tryd.prog 26 #[.agg #[.int .u8 k, .int .u64 N, .string S], .pointer (some ⟨b, 0, none⟩)] w fun e w' => ∃ t : Bool, e = .returned (.bool t) ∧ ((bS s st).1 = N % 256 → t = true) ∧ InS w' b s (bS s st).2.p (bS s st).2.F ∧ Chg b w w' := by
  have hbl := h.lt
  have C := Lib.hid (B_any b s st (boxed w k N S).drew (boxed_in h k N S) hp hs)
  have c0 := boxed_c1 w k N S
  have C0 := Lib.hid c0
  have K1 := Lib.hid (fun (w1 : World) (hc : Chg b (boxed w k N S).drew w1) => boxed_keep (i := 1) hbl hc C0.out)
  have hbw : boxed w k N S = w.alloc (.cells #[.int .u8 (k : Int), .int .u64 (N : Int), .string S] 58) := rfl
  have HBW := Lib.hid hbw
  have CH := Lib.hid (fun (w1 : World) (hc : Chg b (boxed w k N S).drew w1) => boxed_chg hc)
  clear h hbw c0
  go_enter Tryd.func26, Tryd.ntmps26
  go_wp2_with fail
  rw [← HBW.out]
  have c1 := C0.out
  clear HBW C0
  generalize boxed w k N S = W at *
  go_region_held3 (fun w' => w'.cell? ⟨w.heap.size, 1, none⟩ = some (.int .u64 (N : Int))) (go_keep) (first | (go_at_call 29; refine C.out.mono ?_; rintro e w1 ⟨rfl, hi, hch⟩; have kd := K1.out _ hch; have HI := Lib.hid hi; have HC := Lib.hid (CH.out _ hch); clear hi hch))
  all_goals
    go_wp2
    go_ret
    exact ⟨_, rfl, fun hx => by rw [hx]; simp [wrap_u8], HI.out, HC.out⟩

set_option maxHeartbeats 1000000 in
theorem back_3 (k N : Nat) (S : ByteArray) (q : Int) (b : Nat) (s : ByteArray) (st : St) (w : World) (h : InS w b s st.p st.F) (hp : st.p ≤ s.size) (hs : s.size ≤ 70368744177664)
    (hk : (k : Int) % 6 = q) (n0 : (q == 0) = false) (n1 : (q == 1) = false) (n2 : (q == 2) = false) (n3 : (q == 3) = true) :
    Calls Tryd.prog 26 #[.agg #[.int .u8 k, .int .u64 N, .string S], .pointer (some ⟨b, 0, none⟩)] w fun e w' => ∃ t : Bool, e = .returned (.bool t) ∧ ((tS s st).1 = (N % 2 == 1) → t = true) ∧ InS w' b s (tS s st).2.p (tS s st).2.F ∧ Chg b w w' := by
  have hbl := h.lt
  have C := Lib.hid (T_any b s st (boxed w k N S).drew (boxed_in h k N S) hp hs)
  have c0 := boxed_c1 w k N S
  have C0 := Lib.hid c0
  have K1 := Lib.hid (fun (w1 : World) (hc : Chg b (boxed w k N S).drew w1) => boxed_keep (i := 1) hbl hc C0.out)
  have hbw : boxed w k N S = w.alloc (.cells #[.int .u8 (k : Int), .int .u64 (N : Int), .string S] 58) := rfl
  have HBW := Lib.hid hbw
  have CH := Lib.hid (fun (w1 : World) (hc : Chg b (boxed w k N S).drew w1) => boxed_chg hc)
  clear h hbw c0
  go_enter Tryd.func26, Tryd.ntmps26
  go_wp2_with fail
  rw [← HBW.out]
  have c1 := C0.out
  clear HBW C0
  generalize boxed w k N S = W at *
  go_region_held3 (fun w' => w'.cell? ⟨w.heap.size, 1, none⟩ = some (.int .u64 (N : Int))) (go_keep) (first | (go_at_call 30; refine C.out.mono ?_; rintro e w1 ⟨rfl, hi, hch⟩; have kd := K1.out _ hch; have HI := Lib.hid hi; have HC := Lib.hid (CH.out _ hch); clear hi hch))
  all_goals
    go_wp2
    go_ret
    exact ⟨_, rfl, fun hx => by rw [hx, odd_eq]; simp [tmod_nat], HI.out, HC.out⟩

set_option maxHeartbeats 1000000 in
theorem back_4 (k N : Nat) (S : ByteArray) (q : Int) (b : Nat) (s : ByteArray) (st : St) (w : World) (hL : Laid w) (h : InS w b s st.p st.F) (hp : st.p ≤ s.size) (hs : s.size ≤ 70368744177664) (hS : S.size ≤ 9223372036854775807)
    (hk : (k : Int) % 6 = q) (n0 : (q == 0) = false) (n1 : (q == 1) = false) (n2 : (q == 2) = false) (n3 : (q == 3) = false) (n4 : (q == 4) = true) :
    Calls Tryd.prog 26 #[.agg #[.int .u8 k, .int .u64 N, .string S], .pointer (some ⟨b, 0, none⟩)] w fun e w' => ∃ t : Bool, e = .returned (.bool t) ∧ ((strS s 99 st).1 = S.extract 0 (min (S.size : Int) 99).toNat → t = true) ∧ InS w' b s (strS s 99 st).2.p (strS s 99 st).2.F ∧ Chg b w w' := by
  have hbl := h.lt
  have C := Lib.hid (S_any b s 99 st (boxed w k N S).drew (boxed_laid hL k N S) (boxed_in h k N S) hp hs (by decide) (by decide))
  have c0 := boxed_c2 w k N S
  have C0 := Lib.hid c0
  have K1 := Lib.hid (fun (w1 : World) (hc : Chg b (boxed w k N S).drew w1) => boxed_keep (i := 2) hbl hc C0.out)
  have hbw : boxed w k N S = w.alloc (.cells #[.int .u8 (k : Int), .int .u64 (N : Int), .string S] 58) := rfl
  have HBW := Lib.hid hbw
  have CH := Lib.hid (fun (w1 : World) (hc : Chg b (boxed w k N S).drew w1) => boxed_chg hc)
  clear h hbw c0 hL
  go_enter Tryd.func26, Tryd.ntmps26
  go_wp2_with fail
  rw [← HBW.out]
  have c1 := C0.out
  clear HBW C0
  generalize boxed w k N S = W at *
  have hm1 : (0 : Int) ≤ min (S.size : Int) 99 := by omega
  have hm2 : min (S.size : Int) 99 ≤ (S.size : Int) := by omega
  go_region_held3 (fun w' => w'.cell? ⟨w.heap.size, 2, none⟩ = some (.string S)) (go_keep) (first | (go_at_call 31; refine C.out.mono ?_; rintro e w1 ⟨rfl, hi, hch⟩; have kd := K1.out _ hch; have HI := Lib.hid hi; have HC := Lib.hid (CH.out _ hch); clear hi hch))
  all_goals
    go_wp2
    go_ret
    exact ⟨_, rfl, fun hx => by rw [hx]; simp, HI.out, HC.out⟩

set_option maxHeartbeats 1000000 in
theorem back_5 (k N : Nat) (S : ByteArray) (q : Int) (b : Nat) (s : ByteArray) (st : St) (w : World) (hL : Laid w) (h : InS w b s st.p st.F) (hp : st.p ≤ s.size) (hs : s.size ≤ 70368744177664)
    (hk : (k : Int) % 6 = q) (n0 : (q == 0) = false) (n1 : (q == 1) = false) (n2 : (q == 2) = false) (n3 : (q == 3) = false) (n4 : (q == 4) = false) :
    Calls Tryd.prog 26 #[.agg #[.int .u8 k, .int .u64 N, .string S], .pointer (some ⟨b, 0, none⟩)] w fun e w' => ∃ t : Bool, e = .returned (.bool t) ∧ ((manyS s 999 st).1 = N % 1000 → t = true) ∧ InS w' b s (manyS s 999 st).2.p (manyS s 999 st).2.F ∧ Chg b w w' := by
  have hbl := h.lt
  have C := Lib.hid (Many_any b s 999 st (boxed w k N S).drew (boxed_laid hL k N S) (boxed_in h k N S) hp hs (by decide) (by decide))
  have c0 := boxed_c1 w k N S
  have C0 := Lib.hid c0
  have K1 := Lib.hid (fun (w1 : World) (hc : Chg b (boxed w k N S).drew w1) => boxed_keep (i := 1) hbl hc C0.out)
  have hbw : boxed w k N S = w.alloc (.cells #[.int .u8 (k : Int), .int .u64 (N : Int), .string S] 58) := rfl
  have HBW := Lib.hid hbw
  have CH := Lib.hid (fun (w1 : World) (hc : Chg b (boxed w k N S).drew w1) => boxed_chg hc)
  clear h hbw c0 hL
  go_enter Tryd.func26, Tryd.ntmps26
  go_wp2_with fail
  rw [← HBW.out]
  have c1 := C0.out
  clear HBW C0
  generalize boxed w k N S = W at *
  have hw : IntKind.i64.wrap ((N : Int) % 1000) = (N : Int) % 1000 := IntWalk.i64_in _ (by omega)
  go_region_held3 (fun w' => w'.cell? ⟨w.heap.size, 1, none⟩ = some (.int .u64 (N : Int))) (go_keep) (first | (go_at_call 32; refine C.out.mono ?_; rintro e w1 ⟨rfl, hi, hch⟩; have kd := K1.out _ hch; have HI := Lib.hid hi; have HC := Lib.hid (CH.out _ hch); clear hi hch))
  all_goals
    go_wp2
    go_ret
    exact ⟨_, rfl, fun hx => by rw [hx]; simp [tmod_nat, hw], HI.out, HC.out⟩

/-- What reading a thing leaves of the state. -/
def backS (s : ByteArray) (k : Nat) (st : St) : St :=
  if k % 6 = 0 then (uS s st).2 else if k % 6 = 1 then (uS s st).2 else if k % 6 = 2 then (bS s st).2
  else if k % 6 = 3 then (tS s st).2 else if k % 6 = 4 then (strS s 99 st).2 else (manyS s 999 st).2
/-- The thing is what is read. -/
def BackOk (s : ByteArray) (k N : Nat) (S : ByteArray) (st : St) : Prop :=
  if k % 6 = 0 then (uS s st).1 = N % 4611686018427387904 else if k % 6 = 1 then unzig (uS s st).1 = wrap64 N / 4 else if k % 6 = 2 then (bS s st).1 = N % 256
  else if k % 6 = 3 then (tS s st).1 = (N % 2 == 1) else if k % 6 = 4 then (strS s 99 st).1 = S.extract 0 (min (S.size : Int) 99).toNat else (manyS s 999 st).1 = N % 1000
theorem back_any (k N : Nat) (S : ByteArray) (b : Nat) (s : ByteArray) (st : St) (w : World) (hL : Laid w) (h : InS w b s st.p st.F) (hp : st.p ≤ s.size) (hs : s.size ≤ 70368744177664) (hS : S.size ≤ 9223372036854775807) :
    Calls Tryd.prog 26 #[.agg #[.int .u8 k, .int .u64 N, .string S], .pointer (some ⟨b, 0, none⟩)] w fun e w' => ∃ t : Bool, e = .returned (.bool t) ∧ (BackOk s k N S st → t = true) ∧ InS w' b s (backS s k st).p (backS s k st).F ∧ Chg b w w' := by
  have h6 : k % 6 < 6 := Nat.mod_lt _ (by decide)
  unfold backS BackOk
  by_cases h0 : k % 6 = 0
  · rw [if_pos h0, if_pos h0]; exact back_0 k N S 0 b s st w hL h hp hs (by omega) rfl
  rw [if_neg h0, if_neg h0]
  by_cases h1 : k % 6 = 1
  · rw [if_pos h1, if_pos h1]; exact back_1 k N S 1 b s st w hL h hp hs (by omega) rfl rfl
  rw [if_neg h1, if_neg h1]
  by_cases h2 : k % 6 = 2
  · rw [if_pos h2, if_pos h2]; exact back_2 k N S 2 b s st w h hp hs (by omega) rfl rfl rfl
  rw [if_neg h2, if_neg h2]
  by_cases h3 : k % 6 = 3
  · rw [if_pos h3, if_pos h3]; exact back_3 k N S 3 b s st w h hp hs (by omega) rfl rfl rfl rfl
  rw [if_neg h3, if_neg h3]
  by_cases h4 : k % 6 = 4
  · rw [if_pos h4, if_pos h4]; exact back_4 k N S 4 b s st w hL h hp hs hS (by omega) rfl rfl rfl rfl rfl
  rw [if_neg h4, if_neg h4]
  exact back_5 k N S 5 b s st w hL h hp hs (by omega) rfl rfl rfl rfl rfl
end Go.Proofs.YtmmdkoomceikiaaDoor
