/-
  The document's own in (ploverref01.In) in memory, and its readings by their contracts over the plain state. Condition: the text is shorter than 2^46 bytes.
-/
import Derived.Test.YtmmdkoomceikiaaDoorRef
import Derived.Test.YtmmdkoomceikiaaDoorRead5
namespace Go.Proofs.YtmmdkoomceikiaaDoor
open Go.RowKit

/-- Block b is the document's in: bytes, place, the fault's code and place. -/
def RInB (w : World) (b : Nat) (s : ByteArray) (p : Nat) (c a : Int) : Prop := w.heap[b]? = some (.cells #[.string s, .int .i64 (p : Int), .int .i64 c, .int .i64 a] 30 (0, 0))
section
variable {w w' : World} {b : Nat} {s : ByteArray} {p : Nat} {c a : Int}
theorem RInB.c0 (h : RInB w b s p c a) : w.cell? ⟨b, 0, none⟩ = some (.string s) := by rw [cell_of_row w b 0 _ _ _ h]; rfl
theorem RInB.c1 (h : RInB w b s p c a) : w.cell? ⟨b, 1, none⟩ = some (.int .i64 (p : Int)) := by rw [cell_of_row w b 1 _ _ _ h]; rfl
theorem RInB.c2 (h : RInB w b s p c a) : w.cell? ⟨b, 2, none⟩ = some (.int .i64 c) := by rw [cell_of_row w b 2 _ _ _ h]; rfl
theorem RInB.c3 (h : RInB w b s p c a) : w.cell? ⟨b, 3, none⟩ = some (.int .i64 a) := by rw [cell_of_row w b 3 _ _ _ h]; rfl
theorem RInB.fz (h : RInB w b s p c a) (i : Nat) : w.frozen? ⟨b, i, none⟩ = false := by
  unfold RInB at h
  simp [World.frozen?, h]
theorem RInB.lt (h : RInB w b s p c a) : b < w.heap.size := by
  rcases Nat.lt_or_ge b w.heap.size with h1 | h1
  · exact h1
  · unfold RInB at h; rw [Array.getElem?_eq_none h1] at h; cases h
theorem RInB.below {B : Nat} (h : RInB w b s p c a) (hb : Below B w w') (hB : b < B) : RInB w' b s p c a := (hb.block b hB).trans h
theorem RInB.alloc (h : RInB w b s p c a) (o : Obj) : RInB (w.alloc o) b s p c a := (Below.heap_alloc w o b h.lt).trans h
theorem RInB.drewN (h : RInB w b s p c a) (k : Nat) : RInB (w.drewN k) b s p c a := h
theorem RInB.place (h : RInB w b s p c a) (q : Nat) : RInB (w.setCell ⟨b, 1, none⟩ (.int .i64 (q : Int))) b s q c a := by
  unfold RInB at h ⊢
  simp [World.setCell, Array.getElem?_modify, h]
theorem RInB.fault (h : RInB w b s p c a) (c' a' : Int) : RInB ((w.setCell ⟨b, 2, none⟩ (.int .i64 c')).setCell ⟨b, 3, none⟩ (.int .i64 a')) b s p c' a' := by
  unfold RInB at h ⊢
  simp [World.setCell, Array.getElem?_modify, h]
end
def rfailW (w : World) (b : Nat) (c a : Int) : World := (w.setCell ⟨b, 2, none⟩ (.int .i64 c)).setCell ⟨b, 3, none⟩ (.int .i64 a)
theorem rfailW_chg (w : World) (b : Nat) (c a : Int) : Chg b w (rfailW w b c a) := (Chg.setCell b 2 _ _).trans (Chg.setCell b 3 _ _)

theorem rfail_any (b : Nat) (s : ByteArray) (p : Nat) (c a c' : Int) (w : World) (h : RInB w b s p c a) :
    Calls Tryd.prog 54 #[.pointer (some ⟨b, 0, none⟩), .int .i64 c'] w fun e w' => e = .returned (.tuple #[]) ∧ w' = rfailW w b c' p := by
  unfold rfailW
  have h1 := h.c1
  have h2 := h.c2
  have h3 := h.c3
  have f2 := h.fz 2
  have f3 := h.fz 3
  go_enter Tryd.func54, Tryd.ntmps54
  go_wp2
  go_end0
  exact ⟨rfl, rfl⟩

/-! ### B -/
theorem rB_late (b : Nat) (c : Int) (w : World) (h : w.cell? ⟨b, 2, none⟩ = some (.int .i64 c)) (hc : (c == 0) = false) :
    Calls Tryd.prog 35 #[.pointer (some ⟨b, 0, none⟩)] w fun e w' => e = .returned (.int .u8 0) ∧ w = w' := by
  have hc' : (c != 0) = true := by rw [bne, hc]; rfl
  go_enter Tryd.func35, Tryd.ntmps35
  go_wp2
  go_ret
  exact ⟨rfl, rfl⟩
theorem rB_short (b p : Nat) (s : ByteArray) (a : Int) (w : World) (h : RInB w b s p 0 a) (hp : s.size ≤ p) :
    Calls Tryd.prog 35 #[.pointer (some ⟨b, 0, none⟩)] w fun e w' => e = .returned (.int .u8 0) ∧ ∃ n, w' = rfailW (w.drewN n) b 3 p := by
  have h0 := h.c0
  have h1 := h.c1
  have h2 := h.c2
  have hF := Lib.hid (fun n => rfail_any b s p 0 a 3 (w.drewN n) (h.drewN n))
  have hge : (s.size : Int) ≤ (p : Int) := by omega
  go_enter Tryd.func35, Tryd.ntmps35
  go_wp2_with (first | (go_quiet (fail)) | (go_at_call 54; refine (hF.out _).mono ?_; rintro e w' ⟨rfl, rfl⟩))
  go_ret
  exact ⟨rfl, _, rfl⟩
theorem rB_ok (b p : Nat) (s : ByteArray) (a : Int) (w : World) (h : RInB w b s p 0 a) (hs : s.size ≤ 70368744177664) (hp : p < s.size) :
    Calls Tryd.prog 35 #[.pointer (some ⟨b, 0, none⟩)] w fun e w' => e = .returned (.int .u8 (bAt s p : Nat)) ∧ RInB w' b s (p + 1) 0 a ∧ Chg b w w' := by
  have h0 := h.c0
  have h1 := h.c1
  have h2 := h.c2
  have f1 := h.fz 1
  have hge : ¬ (s.size : Int) ≤ (p : Int) := by omega
  have hbb := bAt_eq s p hp
  go_enter Tryd.func35, Tryd.ntmps35
  go_wp2_with (first | (go_quiet (fail)))
  have hR := h.place (p + 1)
  rw [show ((p + 1 : Nat) : Int) = (p : Int) + 1 from by omega] at hR
  go_ret
  exact ⟨rfl, hR, ((Chg.drewN b w _).trans (Chg.setCell b 1 _ _)).trans (Chg.drewN b _ _)⟩

def fc : Option (Int × Int) → Int
  | none => 0
  | some (c, _) => c
def fa : Option (Int × Int) → Int
  | none => 0
  | some (_, a) => a
/-- A fault is one. -/
def OkF (F : Option (Int × Int)) : Prop := ∀ c a, F = some (c, a) → c ≠ 0
def RIn (w : World) (b : Nat) (s : ByteArray) (st : St) : Prop := RInB w b s st.p (fc st.F) (fa st.F)
theorem ne_beq {c : Int} (h : c ≠ 0) : (c == 0) = false := by simpa using h

theorem rfail_in {w : World} {b : Nat} {s : ByteArray} {p : Nat} {c a : Int} (h : RInB w b s p c a) (c' a' : Int) : RInB (rfailW w b c' a') b s p c' a' := h.fault c' a'

theorem rB_any (b : Nat) (s : ByteArray) (st : St) (w : World) (h : RIn w b s st) (hF : OkF st.F) (hp : st.p ≤ s.size) (hs : s.size ≤ 70368744177664) :
    Calls Tryd.prog 35 #[.pointer (some ⟨b, 0, none⟩)] w fun e w' => e = .returned (.int .u8 ((bS s st).1 : Nat)) ∧ RIn w' b s (bS s st).2 ∧ Chg b w w' := by
  obtain ⟨p, F⟩ := st
  rcases F with _ | ⟨c, a⟩
  · by_cases hc : p < s.size
    · have e1 : bS s ⟨p, none⟩ = (bAt s p, ⟨p + 1, none⟩) := by simp [bS, hc]
      rw [e1]
      exact rB_ok b p s 0 w h hs hc
    · have e1 : bS s ⟨p, none⟩ = (0, ⟨p, some ((3 : Int), (p : Int))⟩) := by simp [bS, hc]
      rw [e1]
      refine (rB_short b p s 0 w h (by omega)).mono fun e w' ⟨h1, n, h3⟩ => ?_
      subst h3
      exact ⟨h1, rfail_in (h.drewN n) _ _, (Chg.drewN b w n).trans (rfailW_chg _ _ _ _)⟩
  · have e1 : bS s ⟨p, some (c, a)⟩ = (0, ⟨p, some (c, a)⟩) := by simp [bS]
    rw [e1]
    refine (rB_late b c w h.c2 (ne_beq (hF c a rfl))).mono fun e w' ⟨h1, h2⟩ => ?_
    subst h2
    exact ⟨h1, h, Chg.refl _ _⟩

/-! ### T -/
theorem rT_few (b : Nat) (s : ByteArray) (p x p' : Nat) (c a c' a' : Int) (w : World) (h : RInB w b s p c a) (hx : x ≤ 1)
    (hB : Calls Tryd.prog 35 #[.pointer (some ⟨b, 0, none⟩)] w fun e w' => e = .returned (.int .u8 (x : Int)) ∧ RInB w' b s p' c' a' ∧ Chg b w w') :
    Calls Tryd.prog 36 #[.pointer (some ⟨b, 0, none⟩)] w fun e w' => e = .returned (.bool (x == 1)) ∧ RInB w' b s p' c' a' ∧ Chg b w w' := by
  have hC := Lib.hid hB
  have h1 := h.c1
  clear hB
  have hx' : ¬ (1 : Int) < (x : Int) := by omega
  go_enter Tryd.func36, Tryd.ntmps36
  go_wp2_with (first | (go_at_call 35; refine hC.out.mono ?_; rintro e w' ⟨rfl, hr, hc⟩))
  go_ret
  refine ⟨?_, hr, hc⟩
  rcases x with _ | _ | x <;> first | rfl | omega
theorem rT_more (b : Nat) (s : ByteArray) (p x p' : Nat) (c a c' a' : Int) (w : World) (h : RInB w b s p c a) (hx : 1 < x)
    (hB : Calls Tryd.prog 35 #[.pointer (some ⟨b, 0, none⟩)] w fun e w' => e = .returned (.int .u8 (x : Int)) ∧ RInB w' b s p' c' a' ∧ Chg b w w') :
    Calls Tryd.prog 36 #[.pointer (some ⟨b, 0, none⟩)] w fun e w' => e = .returned (.bool false) ∧ RInB w' b s p 5 p ∧ Chg b w w' := by
  have hC := Lib.hid hB
  have h1 := h.c1
  clear hB
  have hx' : (1 : Int) < (x : Int) := by omega
  have hx2 : ((x : Int) == 1) = false := by simp; omega
  have hF := Lib.hid (fun w hw => rfail_any b s p c' a' 5 w hw)
  go_enter Tryd.func36, Tryd.ntmps36
  go_wp2_with (first | (go_at_call 35; refine hC.out.mono ?_; rintro e w' ⟨rfl, hr, hc⟩; have g1 := hr.c1; have gf := hr.fz 1; have hR := Lib.hid (hr.place p); have hCh := Lib.hid (hc.trans (Chg.setCell b 1 w' (.int .i64 (p : Int))))) | (go_at_call 54; refine (hF.out _ hR.out).mono ?_; rintro e w' ⟨rfl, rfl⟩))
  go_ret
  exact ⟨rfl, rfail_in hR.out 5 p, hCh.out.trans (rfailW_chg _ _ _ _)⟩
theorem rT_any (b : Nat) (s : ByteArray) (st : St) (w : World) (h : RIn w b s st) (hF : OkF st.F) (hp : st.p ≤ s.size) (hs : s.size ≤ 70368744177664) :
    Calls Tryd.prog 36 #[.pointer (some ⟨b, 0, none⟩)] w fun e w' => e = .returned (.bool (tS s st).1) ∧ RIn w' b s (tS s st).2 ∧ Chg b w w' := by
  have hB := rB_any b s st w h hF hp hs
  obtain ⟨p, F⟩ := st
  by_cases hx : 1 < (bS s ⟨p, F⟩).1
  · have e1 : tS s ⟨p, F⟩ = (false, ⟨p, some (5, (p : Int))⟩) := by
      unfold bS at hx; unfold tS
      rcases F with _ | ⟨c, a⟩
      · by_cases hc : p < s.size
        · simp [hc] at hx ⊢; simp [hx]
        · simp [hc] at hx
      · simp at hx
    rw [e1]
    exact rT_more b s p _ _ _ _ _ _ w h hx hB
  · have e1 : tS s ⟨p, F⟩ = ((bS s ⟨p, F⟩).1 == 1, (bS s ⟨p, F⟩).2) := by
      unfold bS at hx ⊢; unfold tS
      rcases F with _ | ⟨c, a⟩
      · by_cases hc : p < s.size
        · have hx2 : ¬ 1 < bAt s p := by simpa [hc] using hx
          simp [hc, hx2]
        · simp [hc]
      · simp
    rw [e1]
    exact rT_few b s p _ _ _ _ _ _ w h (by omega) hB

/-! ### Fail, End -/
theorem rFail_set (b : Nat) (s : ByteArray) (p : Nat) (c a a0 : Int) (w : World) (h : RInB w b s p 0 a0) (hc : (c == 0) = false) :
    Calls Tryd.prog 39 #[.pointer (some ⟨b, 0, none⟩), .int .i64 c, .int .i64 a] w fun e w' => e = .returned (.tuple #[]) ∧ ∃ n, w' = rfailW (w.drewN n) b c a := by
  unfold rfailW
  have hc' : (c != 0) = true := by rw [bne, hc]; rfl
  have h2 := h.c2
  have h3 := h.c3
  have f2 := h.fz 2
  have f3 := h.fz 3
  go_enter Tryd.func39, Tryd.ntmps39
  go_wp2_with (go_quiet (fail))
  go_end0
  exact ⟨rfl, 0, rfl⟩
theorem rFail_ok (b : Nat) (s : ByteArray) (p : Nat) (c a a0 : Int) (w : World) (h : RInB w b s p c a0) :
    Calls Tryd.prog 39 #[.pointer (some ⟨b, 0, none⟩), .int .i64 0, .int .i64 a] w fun e w' => e = .returned (.tuple #[]) ∧ ∃ n, w' = w.drewN n := by
  have h2 := h.c2
  by_cases hc : (c == 0) = true
  · go_enter Tryd.func39, Tryd.ntmps39
    go_wp2_with (go_quiet (fail))
    go_end0
    exact ⟨rfl, 0, rfl⟩
  · have hc2 : (c == 0) = false := by simpa using hc
    go_enter Tryd.func39, Tryd.ntmps39
    go_wp2_with (go_quiet (fail))
    go_end0
    exact ⟨rfl, 0, rfl⟩
theorem rFail_late (b : Nat) (s : ByteArray) (p : Nat) (c c0 a a0 : Int) (w : World) (h : RInB w b s p c0 a0) (hc : (c0 == 0) = false) :
    Calls Tryd.prog 39 #[.pointer (some ⟨b, 0, none⟩), .int .i64 c, .int .i64 a] w fun e w' => e = .returned (.tuple #[]) ∧ ∃ n, w' = w.drewN n := by
  have h2 := h.c2
  go_enter Tryd.func39, Tryd.ntmps39
  go_wp2_with (go_quiet (fail))
  go_end0
  exact ⟨rfl, 0, rfl⟩

/-! ### I, of U -/
theorem rI_of (ptr : Value) (n : Nat) (hn : n < 4611686018427387904) (Q : World → Prop) (w : World) (hU : Calls Tryd.prog 40 #[ptr] w fun e w' => e = .returned (.int .u64 (n : Int)) ∧ Q w') :
    Calls Tryd.prog 34 #[ptr] w fun e w' => e = .returned (.int .i64 (unzig n)) ∧ Q w' := by
  have hC := Lib.hid hU
  clear hU
  by_cases h2 : n % 2 = 0
  · have hx : (((n : Int) % 2) == 0) = true := by simp; omega
    have e1 : unzig n = ((n / 2 : Nat) : Int) := by unfold unzig; rw [if_pos h2]
    rw [e1]
    go_enter Tryd.func34, Tryd.ntmps34
    go_wp2_with (go_at_call 40; refine hC.out.mono ?_; rintro e w' ⟨rfl, hq⟩)
    go_ret
    refine ⟨?_, hq⟩
    go_num
  · have hx : (((n : Int) % 2) == 0) = false := by simp; omega
    have e1 : unzig n = -((n / 2 : Nat) : Int) - 1 := by unfold unzig; rw [if_neg h2]
    rw [e1]
    go_enter Tryd.func34, Tryd.ntmps34
    go_wp2_with (go_at_call 40; refine hC.out.mono ?_; rintro e w' ⟨rfl, hq⟩)
    go_ret
    refine ⟨?_, hq⟩
    go_num

/-! ### Many, of U -/
theorem rMany_late (b : Nat) (s : ByteArray) (p n p' : Nat) (c a c' a' most : Int) (w : World) (h : RInB w b s p c a) (hn : n < 4611686018427387904) (hc : (c' == 0) = false)
    (hU : Calls Tryd.prog 40 #[.pointer (some ⟨b, 0, none⟩)] w fun e w' => e = .returned (.int .u64 (n : Int)) ∧ RInB w' b s p' c' a' ∧ Chg b w w') :
    Calls Tryd.prog 38 #[.pointer (some ⟨b, 0, none⟩), .int .i64 most] w fun e w' => e = .returned (.int .i64 (n : Int)) ∧ RInB w' b s p' c' a' ∧ Chg b w w' := by
  have hC := Lib.hid hU
  have h1 := h.c1
  clear hU
  go_enter Tryd.func38, Tryd.ntmps38
  go_wp2_with (first | (go_at_call 40; refine hC.out.mono ?_; rintro e w' ⟨rfl, hr, hq⟩; have g2 := hr.c2; have hR := Lib.hid hr; have hCh := Lib.hid hq; clear hr hq))
  go_ret
  refine ⟨?_, hR.out, hCh.out⟩
  go_num
theorem rMany_ok (b : Nat) (s : ByteArray) (p n p' : Nat) (c a a' : Int) (most : Nat) (w : World) (h : RInB w b s p c a) (hn : n < 4611686018427387904) (hm : n ≤ most) (hm2 : most ≤ 9223372036854775807)
    (hU : Calls Tryd.prog 40 #[.pointer (some ⟨b, 0, none⟩)] w fun e w' => e = .returned (.int .u64 (n : Int)) ∧ RInB w' b s p' 0 a' ∧ Chg b w w') :
    Calls Tryd.prog 38 #[.pointer (some ⟨b, 0, none⟩), .int .i64 (most : Int)] w fun e w' => e = .returned (.int .i64 (n : Int)) ∧ RInB w' b s p' 0 a' ∧ Chg b w w' := by
  have hC := Lib.hid hU
  have h1 := h.c1
  clear hU
  have q1 : ¬ (most : Int) < 0 := by omega
  have q2 : ¬ (most : Int) < (n : Int) := by omega
  go_enter Tryd.func38, Tryd.ntmps38
  go_wp2_with (first | (go_at_call 40; refine hC.out.mono ?_; rintro e w' ⟨rfl, hr, hq⟩; have g2 := hr.c2; have hR := Lib.hid hr; have hCh := Lib.hid hq; clear hr hq))
  go_ret
  refine ⟨?_, hR.out, hCh.out⟩
  go_num
theorem rMany_neg (b : Nat) (s : ByteArray) (p n p' : Nat) (c a a' most : Int) (w : World) (h : RInB w b s p c a) (hm : most < 0)
    (hU : Calls Tryd.prog 40 #[.pointer (some ⟨b, 0, none⟩)] w fun e w' => e = .returned (.int .u64 (n : Int)) ∧ RInB w' b s p' 0 a' ∧ Chg b w w') :
    Calls Tryd.prog 38 #[.pointer (some ⟨b, 0, none⟩), .int .i64 most] w fun e w' => e = .returned (.int .i64 0) ∧ RInB w' b s p 4 p ∧ Chg b w w' := by
  have hC := Lib.hid hU
  have h1 := h.c1
  clear hU
  have hF := Lib.hid (fun w hw => rfail_any b s p 0 a' 4 w hw)
  go_enter Tryd.func38, Tryd.ntmps38
  go_wp2_with (first | (go_at_call 40; refine hC.out.mono ?_; rintro e w' ⟨rfl, hr, hq⟩; have g1 := hr.c1; have g2 := hr.c2; have gf := hr.fz 1; have hR := Lib.hid (hr.place p); have hCh := Lib.hid (hq.trans (Chg.setCell b 1 w' (.int .i64 (p : Int)))); clear hr hq) | (go_at_call 54; refine (hF.out _ hR.out).mono ?_; rintro e w' ⟨rfl, rfl⟩))
  go_ret
  exact ⟨rfl, rfail_in hR.out 4 p, hCh.out.trans (rfailW_chg _ _ _ _)⟩
theorem rMany_long (b : Nat) (s : ByteArray) (p n p' : Nat) (c a a' : Int) (most : Nat) (w : World) (h : RInB w b s p c a) (hn : n < 4611686018427387904) (hm : most < n)
    (hU : Calls Tryd.prog 40 #[.pointer (some ⟨b, 0, none⟩)] w fun e w' => e = .returned (.int .u64 (n : Int)) ∧ RInB w' b s p' 0 a' ∧ Chg b w w') :
    Calls Tryd.prog 38 #[.pointer (some ⟨b, 0, none⟩), .int .i64 (most : Int)] w fun e w' => e = .returned (.int .i64 0) ∧ RInB w' b s p 4 p ∧ Chg b w w' := by
  have hC := Lib.hid hU
  have h1 := h.c1
  clear hU
  have q1 : ¬ (most : Int) < 0 := by omega
  have q2 : (most : Int) < (n : Int) := by omega
  have hF := Lib.hid (fun w hw => rfail_any b s p 0 a' 4 w hw)
  go_enter Tryd.func38, Tryd.ntmps38
  go_wp2_with (first | (go_at_call 40; refine hC.out.mono ?_; rintro e w' ⟨rfl, hr, hq⟩; have g1 := hr.c1; have g2 := hr.c2; have gf := hr.fz 1; have hR := Lib.hid (hr.place p); have hCh := Lib.hid (hq.trans (Chg.setCell b 1 w' (.int .i64 (p : Int)))); clear hr hq) | (go_at_call 54; refine (hF.out _ hR.out).mono ?_; rintro e w' ⟨rfl, rfl⟩))
  go_ret
  exact ⟨rfl, rfail_in hR.out 4 p, hCh.out.trans (rfailW_chg _ _ _ _)⟩

/-! ### End -/
theorem flt_put {w : World} {g : Nat} {x y : Value} (h : w.heap[g]? = some (.cells #[x, y] 28 (0, 0))) (c a : Int) : FltB ((w.setCell ⟨g, 0, none⟩ (.int .i64 c)).setCell ⟨g, 1, none⟩ (.int .i64 a)) g c a := by
  unfold FltB
  simp [World.setCell, Array.getElem?_modify, h]
theorem flt_two (w : World) (x y : Value) (c a : Int) : FltB (((w.alloc (.cells #[x, y] 28)).setCell ⟨w.heap.size, 0, none⟩ (.int .i64 c)).setCell ⟨w.heap.size, 1, none⟩ (.int .i64 a)) w.heap.size c a :=
  flt_put (heap_alloc_new w _) c a
theorem flt_info : (Tryd.prog.info? 28).map (·.size) = some 2 := by kernel_rfl
theorem below_two (w : World) (o : Obj) (x y : Value) (n m : Nat) : Below w.heap.size w (((((w.alloc o).drewN n).setCell ⟨w.heap.size, 0, none⟩ x).setCell ⟨w.heap.size, 1, none⟩ y).drewN m) :=
  (((((Chg.alloc w.heap.size w o).trans (Chg.drewN _ _ _)).trans (Chg.setCell _ 0 _ _)).trans (Chg.setCell _ 1 _ _)).trans (Chg.drewN _ _ _)).below (Nat.le_refl _) (Nat.le_refl _)
theorem rEnd_keep (b : Nat) (s : ByteArray) (p : Nat) (c a : Int) (w : World) (h : RInB w b s p c a) (hc : (c == 0) = false ∨ (c = 0 ∧ s.size ≤ p)) :
    Calls Tryd.prog 15 #[.pointer (some ⟨b, 0, none⟩)] w fun e w' => e = .returned (.agg #[.int .i64 c, .int .i64 a]) ∧ Below w.heap.size w w' := by
  have h0 := (h.alloc (.cells #[.int .i64 0, .int .i64 0] 28)).c0
  have h1 := (h.alloc (.cells #[.int .i64 0, .int .i64 0] 28)).c1
  have h2 := (h.alloc (.cells #[.int .i64 0, .int .i64 0] 28)).c2
  have h3 := (h.alloc (.cells #[.int .i64 0, .int .i64 0] 28)).c3
  have hf := flt_two w (.int .i64 0) (.int .i64 0) c a
  rcases hc with hc | ⟨rfl, hp⟩
  · go_enter Tryd.func15, Tryd.ntmps15
    go_wp2_with (go_quiet (fail))
    refine bodyPost_ret (results_cell_row rfl _ _ w.heap.size 28 #[.int .i64 c, .int .i64 a] (0, 0) _ rfl hf Tryd.underlying28 rfl flt_info) rfl ?_
    exact ⟨rfl, below_two w _ _ _ _ 0⟩
  · have hge : ¬ (p : Int) < (s.size : Int) := by omega
    go_enter Tryd.func15, Tryd.ntmps15
    go_wp2_with (go_quiet (fail))
    refine bodyPost_ret (results_cell_row rfl _ _ w.heap.size 28 #[.int .i64 0, .int .i64 a] (0, 0) _ rfl hf Tryd.underlying28 rfl flt_info) rfl ?_
    exact ⟨rfl, below_two w _ _ _ _ 0⟩
theorem rEnd_left (b : Nat) (s : ByteArray) (p : Nat) (a : Int) (w : World) (h : RInB w b s p 0 a) (hp : p < s.size) :
    Calls Tryd.prog 15 #[.pointer (some ⟨b, 0, none⟩)] w fun e w' => e = .returned (.agg #[.int .i64 4, .int .i64 (p : Int)]) ∧ Below w.heap.size w w' := by
  have h0 := (h.alloc (.cells #[.int .i64 0, .int .i64 0] 28)).c0
  have h1 := (h.alloc (.cells #[.int .i64 0, .int .i64 0] 28)).c1
  have h2 := (h.alloc (.cells #[.int .i64 0, .int .i64 0] 28)).c2
  have h3 := (h.alloc (.cells #[.int .i64 0, .int .i64 0] 28)).c3
  have hf := flt_two w (.int .i64 0) (.int .i64 0) 4 (p : Int)
  have hge : (p : Int) < (s.size : Int) := by omega
  go_enter Tryd.func15, Tryd.ntmps15
  go_wp2_with (go_quiet (fail))
  refine bodyPost_ret (results_cell_row rfl _ _ w.heap.size 28 #[.int .i64 4, .int .i64 (p : Int)] (0, 0) _ rfl hf Tryd.underlying28 rfl flt_info) rfl ?_
  exact ⟨rfl, below_two w _ _ _ _ 0⟩
end Go.Proofs.YtmmdkoomceikiaaDoor
