/-
  The document's own Str (ploverref01.In.Str) by what Many answers. Condition: the text is shorter than 2^46 bytes.
-/
import Derived.Test.YtmmdkoomceikiaaDoorRefIn
namespace Go.Proofs.YtmmdkoomceikiaaDoor
open Go.RowKit

theorem rStr_late (b : Nat) (s : ByteArray) (p n p' : Nat) (c a c' a' most : Int) (w : World) (h : RInB w b s p c a) (hc : (c' == 0) = false)
    (hM : Calls Tryd.prog 38 #[.pointer (some ⟨b, 0, none⟩), .int .i64 most] w fun e w' => e = .returned (.int .i64 (n : Int)) ∧ RInB w' b s p' c' a' ∧ Chg b w w') :
    Calls Tryd.prog 37 #[.pointer (some ⟨b, 0, none⟩), .int .i64 most] w fun e w' => e = .returned (.string ByteArray.empty) ∧ RInB w' b s p' c' a' ∧ Chg b w w' := by
  have hC := Lib.hid hM
  have h1 := h.c1
  have hc' : (c' != 0) = true := by rw [bne, hc]; rfl
  clear hM
  go_enter Tryd.func37, Tryd.ntmps37
  go_wp2_with (first | (go_quiet (fail)) | (go_at_call 38; refine hC.out.mono ?_; rintro e w' ⟨rfl, hr, hq⟩; have g2 := hr.c2; have hR := Lib.hid hr; have hCh := Lib.hid hq; clear hr hq))
  go_ret
  exact ⟨rfl, hR.out, hCh.out.trans (Chg.drewN b _ _)⟩
theorem rStr_short (b : Nat) (s : ByteArray) (p n p' : Nat) (c a a' most : Int) (w : World) (h : RInB w b s p c a) (hp : p' ≤ s.size) (hn : s.size - p' < n) (hn2 : n < 4611686018427387904)
    (hM : Calls Tryd.prog 38 #[.pointer (some ⟨b, 0, none⟩), .int .i64 most] w fun e w' => e = .returned (.int .i64 (n : Int)) ∧ RInB w' b s p' 0 a' ∧ Chg b w w') :
    Calls Tryd.prog 37 #[.pointer (some ⟨b, 0, none⟩), .int .i64 most] w fun e w' => e = .returned (.string ByteArray.empty) ∧ RInB w' b s p 3 p ∧ Chg b w w' := by
  have hC := Lib.hid hM
  have h1 := h.c1
  clear hM
  have q1 : (s.size : Int) - (p' : Int) < (n : Int) := by omega
  have hF := Lib.hid (fun w (hw : RInB w b s p 0 a') => (rfail_any b s p 0 a' 3 w hw).mono (R' := fun e w' => e = .returned (.tuple #[]) ∧ w'.cell? ⟨b, 2, none⟩ = some (.int .i64 3) ∧ w' = rfailW w b 3 p) fun e w' ⟨h1, h2⟩ => ⟨h1, by rw [h2]; exact (rfail_in hw 3 p).c2, h2⟩)
  go_enter Tryd.func37, Tryd.ntmps37
  go_wp2_with (first | (go_quiet (fail)) | (go_at_call 38; refine hC.out.mono ?_; rintro e w' ⟨rfl, hr, hq⟩; have g0 := hr.c0; have g1 := hr.c1; have g2 := hr.c2; have gf := hr.fz 1; have hR := Lib.hid (hr.place p); have hCh := Lib.hid (hq.trans (Chg.setCell b 1 w' (.int .i64 (p : Int)))); clear hr hq) | (go_at_call 54; refine (hF.out _ (by first | exact hR.out | exact hR.out.drewN _)).mono ?_; rintro e w' ⟨rfl, k2, rfl⟩))
  go_ret
  exact ⟨rfl, rfail_in hR.out 3 p, (hCh.out.trans (Chg.drewN b _ _)).trans (rfailW_chg _ _ _ _)⟩
theorem rStr_ok (b : Nat) (s : ByteArray) (p n p' : Nat) (c a a' most : Int) (w : World) (h : RInB w b s p c a) (hs : s.size ≤ 70368744177664) (hn : p' + n ≤ s.size)
    (hM : Calls Tryd.prog 38 #[.pointer (some ⟨b, 0, none⟩), .int .i64 most] w fun e w' => e = .returned (.int .i64 (n : Int)) ∧ RInB w' b s p' 0 a' ∧ Chg b w w') :
    Calls Tryd.prog 37 #[.pointer (some ⟨b, 0, none⟩), .int .i64 most] w fun e w' => e = .returned (.string (s.extract p' (p' + n))) ∧ RInB w' b s (p' + n) 0 a' ∧ Chg b w w' := by
  have hC := Lib.hid hM
  have h1 := h.c1
  clear hM
  have q1 : ¬ (s.size : Int) - (p' : Int) < (n : Int) := by omega
  have q2 : (p' : Int) + (n : Int) - (n : Int) = (p' : Int) := by omega
  have hsl : ∀ W : World, (Instr.slice 9 (.string s) (some (.int .i64 (p' : Int))) (some (.int .i64 ((p' : Int) + (n : Int)))) none).run Tryd.prog W = .ok (.string (s.extract p' (p' + n))) W := fun W => by
    have h := run_slice_string (P := Tryd.prog) (w := W) 9 s .i64 .i64 (p' : Int) ((p' : Int) + (n : Int)) Tryd.underlying9 (by omega) (by omega) (by omega)
    rw [h]
    have e1 : (p' : Int).toNat = p' := by omega
    have e2 : ((p' : Int) + (n : Int)).toNat = p' + n := by omega
    rw [e1, e2]
  go_enter Tryd.func37, Tryd.ntmps37
  go_wp2_with (first | (go_quiet (fail)) | (go_at_call 38; refine hC.out.mono ?_; rintro e w' ⟨rfl, hr, hq⟩; have g0 := hr.c0; have g1 := hr.c1; have g2 := hr.c2; have gf := hr.fz 1; have hR := Lib.hid (hr.place (p' + n)); have hCh := Lib.hid hq; clear hr hq))
  have hR' := hR.out
  rw [show ((p' + n : Nat) : Int) = (p' : Int) + (n : Int) from by omega] at hR'
  go_ret
  exact ⟨rfl, hR', ((hCh.out.trans (Chg.drewN b _ _)).trans (Chg.setCell b 1 _ _)).trans (Chg.drewN b _ _)⟩
end Go.Proofs.YtmmdkoomceikiaaDoor
