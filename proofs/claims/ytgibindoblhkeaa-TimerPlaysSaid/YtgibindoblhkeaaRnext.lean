/-
  The document's Next by their contracts. Made by wip/gentimerref.py.
-/
import Derived.Test.YtgibindoblhkeaaRticks
namespace Go.Proofs.Ytgibindoblhkeaa
open Go.RowKit
set_option linter.unusedVariables false
/-- Behind k ticks that ask for nothing. -/
def onT (t : Tm) (k : Nat) : Tm := if t.c % 2 = 0 then t else ⟨(t.a + k) % 65536, t.b, t.c⟩
theorem onT_ok {t : Tm} (h : t.ok) (k : Nat) : (onT t k).ok := by
  unfold onT
  split
  · exact h
  · exact ⟨by show (t.a + k) % 65536 < 65536; omega, h.b, h.c⟩
theorem onT_zero {t : Tm} (h : t.ok) : onT t 0 = t := by
  unfold onT
  split
  · rfl
  · have := h.a
    rw [Nat.add_zero, Nat.mod_eq_of_lt this]
/-- The next one asks just if it is the one that nextT says. -/
theorem onT_asks {t : Tm} (h : t.ok) (k : Nat) (hk : k < 65536) : asksT (onT t k) = decide (k + 1 = nextT t) := by
  have h1 := h.a
  have h2 := h.b
  unfold asksT onT nextT
  by_cases hr : t.c % 2 = 0
  · rw [if_pos hr, if_pos hr, decide_eq_false (by omega), Bool.false_and, decide_eq_false (by omega)]
  · rw [if_neg hr, if_neg hr, decide_eq_true (show t.c % 2 = 1 by omega), Bool.true_and, decide_eq_decide]
    show ((t.a + k) % 65536 + 1) % 65536 = t.b ↔ _
    omega
theorem onT_tick {t : Tm} (h : t.ok) (k : Nat) (hn : asksT (onT t k) = false) : tickT (onT t k) = onT t (k + 1) := by
  unfold asksT at hn
  unfold tickT
  by_cases hr : t.c % 2 = 0
  · have e : ∀ j, onT t j = t := fun j => if_pos hr
    rw [e, e, if_pos hr]
  · have e : ∀ j, onT t j = ⟨(t.a + j) % 65536, t.b, t.c⟩ := fun j => if_neg hr
    rw [e] at hn ⊢
    rw [e, if_neg hr]
    rw [show decide (t.c % 2 = 1) = true from decide_eq_true (by omega), Bool.true_and, decide_eq_false_iff_not] at hn
    rw [if_neg hn]
    show Tm.mk (((t.a + k) % 65536 + 1) % 65536) t.b t.c = Tm.mk ((t.a + (k + 1)) % 65536) t.b t.c
    rw [show ((t.a + k) % 65536 + 1) % 65536 = (t.a + (k + 1)) % 65536 by omega]
theorem nextT_le (t : Tm) : nextT t ≤ 65536 := by
  unfold nextT
  split <;> omega
set_option maxHeartbeats 1000000 in
set_option maxRecDepth 100000 in
theorem rNextT_any : NextC 8 := by
  intro t w h
  unfold tv
  go_enter Try.func8, Try.ntmps8
  go_upto_region 1 with (fail)
  refine name_one (Q := fun X => Code.wp _ _ _ _ X) ?_
  intro W0 hq1 hB0 hz
  have R0 : Hid (TRow W0 w.heap.size 26 t) := Lib.hid hq1
  have B0 : Hid (Below w.heap.size w W0) := Lib.hid hB0
  clear hq1 hB0 hz
  obtain ⟨g, hg⟩ : ∃ g, w.heap.size = g := ⟨_, rfl⟩
  have LG : Hid (w.heap.size ≤ g) := Lib.hid (by omega)
  rw [hg] at R0 ⊢
  clear hg
  go_wp2_with fail
  go_loopw [3] (fun nv wr => ∃ k : Nat, k ≤ 65536 ∧ nv = .int .i64 ((k + 1 : Nat) : Int) ∧ (nextT t = 0 ∨ k < nextT t) ∧ TRow wr g 26 (onT t k) ∧ Below w.heap.size w wr) (fun nv _ => 65537 - (intOf nv).toNat)
  case atStart => exact ⟨0, by omega, rfl, by omega, by rw [onT_zero h]; exact R0.out, B0.out⟩
  case round =>
    clear R0 B0
    obtain ⟨k, hk, rfl, hnx, hr, hb⟩ := hrel
    have R0 := Lib.hid hr
    have B0 := Lib.hid hb
    have hok := onT_ok h k
    clear hr hb
    by_cases hlt : k < 65536
    · obtain ⟨m, hm⟩ : ∃ m, k + 1 = m := ⟨_, rfl⟩
      have HM := Lib.hid hm
      have d1 : (m : Int) ≤ 65536 := by omega
      rw [hm]
      have KT := Lib.hid (fun W => rTickT_any (onT t k) W hok)
      have hask := onT_asks h k hlt
      have htick := onT_tick h k
      have HNX := Lib.hid hnx
      rw [hm] at hask htick
      clear hok
      by_cases he : m = nextT t
      · have ha : asksT (onT t k) = true := by rw [hask]; exact decide_eq_true he
        rw [ha] at KT
        have HE := Lib.hid he
        clear hask htick ha he hnx hm hlt hk
        generalize tickT (onT t k) = t2 at *
        generalize onT t k = t1 at *
        go_wp2_with (first
          | ((with_reducible show wpList _ _ _ (⟨some 11, .load 26 (.tmp 1), _, _, _, _⟩ :: _) _ _); refine wpList_load_t (by rfl) 26 _ rfl g (by exact rfl) _ Try.underlying26 (by kernel_rfl) 26 R0.out ?_)
          | (go_at_call 12; refine (KT.out _).mono ?_; rintro e WA ⟨rfl, hB⟩; have B1 := Lib.hid (B0.out.trans (hB.mono B0.out.size)); clear hB)
          | ((with_reducible show wpList _ _ _ (⟨none, .store 26 (.tmp 4) (.tmp 13), _, _, _, _⟩ :: _) _ _); refine wpList_store_t rfl 26 _ _ rfl WA.heap.size (by exact rfl) (by exact rfl) (by kernel_rfl) 26 (show TRow _ _ _ ⟨0, 0, 0⟩ from alloc_at _ _) ?_; intro WB HN HO HB; have B2 := Lib.hid ((B1.out.alloc B1.out.size _).trans (HB.out.mono B1.out.size)); clear HN HO HB))
        go_ret
        exact ⟨by rw [← HE.out]; rfl, B2.out⟩
      · have ha : asksT (onT t k) = false := by rw [hask]; exact decide_eq_false he
        have HS : Hid (tickT (onT t k) = onT t m) := Lib.hid (htick ha)
        rw [ha] at KT
        have HN2 : Hid (nextT t = 0 ∨ m < nextT t) := Lib.hid (by rcases hnx with h | h; exact .inl h; exact .inr (by omega))
        have HK := Lib.hid hlt
        clear hask htick ha he hnx hm hlt hk
        generalize tickT (onT t k) = t2 at *
        generalize onT t k = t1 at *
        go_wp2_with (first
          | ((with_reducible show wpList _ _ _ (⟨some 11, .load 26 (.tmp 1), _, _, _, _⟩ :: _) _ _); refine wpList_load_t (by rfl) 26 _ rfl g (by exact rfl) _ Try.underlying26 (by kernel_rfl) 26 R0.out ?_)
          | (go_at_call 12; refine (KT.out _).mono ?_; rintro e WA ⟨rfl, hB⟩; have R1 := Lib.hid (R0.out.below hB R0.out.lt); have B1 := Lib.hid (B0.out.trans (hB.mono B0.out.size)); clear hB)
          | ((with_reducible show wpList _ _ _ (⟨none, .store 26 (.tmp 4) (.tmp 13), _, _, _, _⟩ :: _) _ _); refine wpList_store_t rfl 26 _ _ rfl WA.heap.size (by exact rfl) (by exact rfl) (by kernel_rfl) 26 (show TRow _ _ _ ⟨0, 0, 0⟩ from alloc_at _ _) ?_; intro WB HN HO HB; have VR : Hid (TRow WB WA.heap.size 26 t2) := HN; have R2 := Lib.hid ((R1.out.below ((Below.refl _ _).alloc (Nat.le_refl _) _) R1.out.lt).other HO.out (Nat.ne_of_lt R1.out.lt)); have B2 := Lib.hid ((B1.out.alloc B1.out.size _).trans (HB.out.mono B1.out.size)); clear HN HO HB)
          | ((with_reducible show wpList _ _ _ (⟨some 17, .load 26 (.tmp 4), _, _, _, _⟩ :: _) _ _); refine wpList_load_t (by rfl) 26 _ rfl WA.heap.size (by exact rfl) _ Try.underlying26 (by kernel_rfl) 26 VR.out ?_)
          | ((with_reducible show wpList _ _ _ (⟨none, .store 26 (.tmp 1) (.tmp 17), _, _, _, _⟩ :: _) _ _); refine wpList_store_t rfl 26 _ _ rfl g (by exact rfl) (by exact rfl) (by kernel_rfl) 26 R2.out ?_; intro WC HN HO HB; have R3 : Hid (TRow WC g 26 t2) := HN; have B3 := Lib.hid (B2.out.trans (HB.out.mono LG.out)); clear HN HO HB))
        go_roundw
        case rel => exact ⟨m, by have := HK.out; have := HM.out; omega, by go_num, HN2.out, by rw [← HS.out]; exact R3.out, B3.out⟩
        case measure =>
          simp [intOf]
          omega
    · obtain rfl : k = 65536 := by omega
      have hz : nextT t = 0 := by
        have := nextT_le t
        omega
      have HZ := Lib.hid hz
      clear hz hnx hok
      go_wp2_with fail
      go_ret
      exact ⟨by rw [HZ.out]; rfl, B0.out⟩
end Go.Proofs.Ytgibindoblhkeaa
