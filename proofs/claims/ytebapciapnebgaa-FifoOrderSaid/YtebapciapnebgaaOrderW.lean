/-
  FifoOrder's walk: of any list: true. Made by wip/genfifoorder.py.
-/
import Derived.Test.YtebapciapnebgaaView
import Derived.Deep.DeepCutAuto
namespace Go.Proofs.Ytebapciapnebgaa
open Go.RowKit
set_option linter.unusedVariables false
set_option maxHeartbeats 2000000 in
set_option maxRecDepth 100000 in
theorem order_walk (A : Option Addr) (len cap : Nat) (l : List Nat) (w : World) (hl : l.length = len) (hc : len ≤ cap) (hA : RdB w w.heap.size A l) (hll : ∀ x ∈ l, x < 256) :
    Calls Try.prog 4 #[.slice A len cap] w fun e w' => e = .returned (.bool true) ∧ Below w.heap.size w w' := by
  have HA := Lib.hid hA
  have HLL := Lib.hid hll
  clear hA hll
  go_enter Try.func4, Try.ntmps4
  go_wp2_with (go_at_call 10; refine (works_any _).mono ?_; rintro e w0 ⟨rfl, hB⟩; have HB0 := Lib.hid hB; clear hB)
  go_loopw [4, 5] (fun v iv wr => ∃ (k : Nat) (Wl : List Nat), k ≤ 100 ∧ k ≤ len ∧ iv = .int .i64 k ∧ Wl.length ≤ 8 ∧ (∀ x ∈ Wl, x < 256) ∧ View wr (w0.heap.size + 1) v Wl ∧ QRow wr w0.heap.size 24 (Wl.length : Nat) (pad Wl) ∧ Below w.heap.size w wr ∧ w0.heap.size + 1 ≤ wr.heap.size) (fun _ iv _ => 100 - (intOf iv).toNat)
  case atStart => exact ⟨0, [], by omega, by omega, rfl, by simp, by simp, View.nil_ _ _, alloc_at _ _, HB0.out.alloc HB0.out.size _, by simp⟩
  case round =>
    obtain ⟨k, Wl, hk, hkl, rfl, h8, h256, hv, hq, hbr, hz⟩ := hrel
    have H8 := Lib.hid h8
    have H256 := Lib.hid h256
    have HV := Lib.hid hv
    have HQ := Lib.hid hq
    have HBR := Lib.hid hbr
    have HZ := Lib.hid hz
    clear h8 h256 hv hq hbr hz
    by_cases hlt : k < len ∧ k < 100
    · obtain ⟨h1, h2⟩ := hlt
      obtain ⟨b, hb⟩ : ∃ b, l[k]? = some b := ⟨_, List.getElem?_eq_getElem (by omega)⟩
      obtain ⟨a, rfl⟩ : ∃ a, A = some a := by
        cases A with
        | none =>
          have h := HA.out.none_ rfl
          subst h
          simp at hb
        | some a => exact ⟨a, rfl⟩
      have HC : Hid (∀ X, Below w.heap.size w X → X.cell? (a.add k) = some (.int .u8 (b : Int))) := Lib.hid (fun X hX => (HA.out.below hX (Nat.le_refl _)).cells a rfl k b hb)
      have hb256 : b < 256 := HLL.out b (List.mem_of_getElem? hb)
      have hcb := HC.out _ HBR.out
      have d1 : (k : Int) < (len : Int) := by omega
      have d2 : (k : Int) < 100 := by omega
      clear hb
      go_upto_if 28 with fail
      go_cut [4] (fun v wx => ∃ (W : World) (Wl : List Nat), W = wx ∧ Wl.length ≤ 8 ∧ (∀ x ∈ Wl, x < 256) ∧ View W (w0.heap.size + 1) v Wl ∧ QRow W w0.heap.size 24 (Wl.length : Nat) (pad Wl) ∧ Below w.heap.size w W ∧ w0.heap.size + 1 ≤ W.heap.size)
      case first =>
        obtain ⟨A0, c0, hv0, hc0, -⟩ := HV.out.rdb
        subst hv0
        obtain ⟨m, hm⟩ : ∃ m, Wl.length = m := ⟨_, rfl⟩
        obtain ⟨PL, hPL⟩ : ∃ PL, pad Wl = PL := ⟨_, rfl⟩
        have HP8 : Hid (PL.length = 8) := Lib.hid (by rw [← hPL]; exact pad_length _)
        have HCL : Hid (cutL (m : Int) PL = Wl) := Lib.hid (by rw [← hm, ← hPL]; exact cutL_len Wl H8.out)
        have Q_wr : Hid (QRow wr w0.heap.size 24 (m : Int) PL) := Lib.hid (by rw [← hm, ← hPL]; exact HQ.out)
        have HM := Lib.hid hm
        have HPL := Lib.hid hPL
        rw [hm] at HV ⊢
        have V_wr := HV
        have B_wr := HBR
        have Z_wr := HZ
        have ZW : Hid (w.heap.size ≤ w0.heap.size) := Lib.hid HB0.out.size
        clear HQ HV HBR HZ hm hPL
        by_cases p3 : 0 < (b : Int) % 3
        · rcases Nat.lt_or_ge m 8 with r8 | r8
          · have dm : (m : Int) < 8 := by omega
            obtain ⟨P2, hP2⟩ : ∃ P2, pad (Wl ++ [b]) = P2 := ⟨_, rfl⟩
            have HP2 := Lib.hid hP2
            have HP28 : Hid (P2.length = 8) := Lib.hid (by rw [← hP2]; exact pad_length _)
            have HL2 : Hid (((Wl ++ [b]).length : Nat) = m + 1) := Lib.hid (by rw [List.length_append, HM.out]; rfl)
            have KP : Hid (∀ X : World, Calls Try.prog 11 #[qv m PL, .int .u8 b] X fun e w' => e = .returned (.tuple #[qv ((m : Int) + 1) P2, .bool true]) ∧ Below X.heap.size X w') := Lib.hid (fun X => by
              have h := push_any m PL b X HP8.out (by omega) (by omega)
              rw [HCL.out, pushV_room (by rw [HM.out]; exact r8), ofV_le _ (by rw [HL2.out]; omega), HL2.out, hP2] at h
              exact h)
            clear hP2
            go_wp2_with fail
            refine wp_region_noPanic ?_
            refine wp_region_held_drew (S := fun X => Below wr.heap.size wr X) (by kernel_rfl) ((Below.refl _ wr).drew) (fun hHeld => ?_)
            refine' take_ 0 rfl (by kernel_rfl) (by kernel_rfl) (by kernel_rfl) (fun _ _ _ h => h) (by rfl) (fun wS hSw => run_load_q wS 24 _ _ rfl _ Try.underlying24 (by kernel_rfl) _ _ _ (QRow.below Q_wr.out hSw Q_wr.out.lt) HP8.out _ _ _ _ _) hHeld ?_
            try simp only [Act.put, List.setIfInBounds_toArray, List.set_cons_zero, List.set_cons_succ]
            refine' take_ 1 rfl (by kernel_rfl) (by kernel_rfl) (by kernel_rfl) (fun _ _ _ h => h) (by rfl) (fun wS hSw => ?_) hHeld ?_
            rotate_left
            focus (go_simp; (try with_reducible rfl); done)
            try simp only [Act.put, List.setIfInBounds_toArray, List.set_cons_zero, List.set_cons_succ]
            refine' take_ 2 rfl (by kernel_rfl) (by kernel_rfl) (by kernel_rfl) (fun _ _ _ h => h) (by rfl) (fun wS hSw => ?_) hHeld ?_
            rotate_left
            focus (go_simp; (try with_reducible rfl); done)
            try simp only [Act.put, List.setIfInBounds_toArray, List.set_cons_zero, List.set_cons_succ]
            refine' take_ 3 rfl (by kernel_rfl) (by kernel_rfl) (by kernel_rfl) (fun _ _ _ h => h) (by rfl) (fun wS hSw => ?_) hHeld ?_
            rotate_left
            focus (go_simp; (try with_reducible rfl); done)
            try simp only [Act.put, List.setIfInBounds_toArray, List.set_cons_zero, List.set_cons_succ]
            refine' take_ 4 rfl (by kernel_rfl) (by kernel_rfl) (by kernel_rfl) (fun _ _ _ h => h) (by rfl) (fun wS hSw => ?_) hHeld ?_
            rotate_left
            focus (have hcS := HC.out wS (B_wr.out.trans (hSw.mono B_wr.out.size)); go_simp; (try with_reducible rfl); done)
            try simp only [Act.put, List.setIfInBounds_toArray, List.set_cons_zero, List.set_cons_succ]
            refine both_ 5 9 rfl rfl (by kernel_rfl) (by rfl) (by rfl) (fun K hK => ?_) (fun K hK => ?_)
            · go_simp
              refine (KP.out _).mono ?_
              rintro e w1 ⟨rfl, hB⟩
              go_simp
              refine hK.out _ _ (hHeld.trans (hB.mono hHeld.size)) (fun hHeld2 => ?_)
              have HW1 := Lib.hid hHeld2
              clear hK K hHeld
              have hHeld := hHeld2
              clear hHeld2
              try simp only [Act.put, List.setIfInBounds_toArray, List.set_cons_zero, List.set_cons_succ]
              clear hB
              refine' take_ 6 rfl (by kernel_rfl) (by kernel_rfl) (by kernel_rfl) (fun _ _ _ h => h) (by rfl) (fun wS hSw => ?_) hHeld ?_
              rotate_left
              focus (go_simp; (try with_reducible rfl); done)
              try simp only [Act.put, List.setIfInBounds_toArray, List.set_cons_zero, List.set_cons_succ]
              refine' take_ 7 rfl (by kernel_rfl) (by kernel_rfl) (by kernel_rfl) (fun _ _ _ h => h) (by rfl) (fun wS hSw => ?_) hHeld ?_
              rotate_left
              focus (go_simp; (try with_reducible rfl); done)
              try simp only [Act.put, List.setIfInBounds_toArray, List.set_cons_zero, List.set_cons_succ]
              refine' take_ 8 rfl (by kernel_rfl) (by kernel_rfl) (by kernel_rfl) (fun _ _ _ h => h) (by rfl) (fun wS hSw => ?_) hHeld ?_
              rotate_left
              focus (go_simp; (try with_reducible rfl); done)
              try simp only [Act.put, List.setIfInBounds_toArray, List.set_cons_zero, List.set_cons_succ]
              refine only_ 9 rfl (by kernel_rfl) (by rfl) (fun K hK => ?_)
              go_simp
              refine hK.out _ _ (hHeld.alloc hHeld.size _) (fun hHeld2 => ?_)
              clear hK K hHeld
              have hHeld := hHeld2
              clear hHeld2
              try simp only [Act.put, List.setIfInBounds_toArray, List.set_cons_zero, List.set_cons_succ]
              refine only_ 10 rfl (by kernel_rfl) (by rfl) (fun K hK => ?_)
              refine wp_store_q 24 _ _ rfl w1.heap.size rfl _ _ rfl HP28.out (by kernel_rfl) 24 _ _ (show QRow _ _ _ 0 [0, 0, 0, 0, 0, 0, 0, 0] from alloc_at _ _) rfl ?_
              intro w3 HN HO3 HB3
              have hz1 : wr.heap.size ≤ w1.heap.size := HW1.out.size
              refine hK.out _ _ (hHeld.trans (HB3.out.mono hz1)) (fun hHeld2 => ?_)
              clear hK K hHeld
              have hHeld := hHeld2
              clear hHeld2
              try simp only [Act.put]
              refine' take_ 11 rfl (by kernel_rfl) (by kernel_rfl) (by kernel_rfl) (fun _ _ _ h => h) (by rfl) (fun wS hSw => ?_) hHeld ?_
              rotate_left
              focus (go_simp; (try with_reducible rfl); done)
              try simp only [Act.put, List.setIfInBounds_toArray, List.set_cons_zero, List.set_cons_succ]
              refine wpAnyH_done (by kernel_rfl) ?_ _
              refine NoPanic.normal ?_
              have Q_w3 : Hid (QRow w3 w0.heap.size 24 (m) (PL)) := Lib.hid (QRow.below Q_wr.out hHeld Q_wr.out.lt)
              have V_w3 := Lib.hid (View.below V_wr.out hHeld)
              have B_w3 : Hid (Below w.heap.size w w3) := Lib.hid (B_wr.out.trans (hHeld.mono B_wr.out.size))
              have Z_w3 : Hid (w0.heap.size + 1 ≤ w3.heap.size) := Lib.hid (Nat.le_trans Z_wr.out hHeld.size)
              have NEP : Hid (∀ k, (Value.slice A0 m c0).ownBlock = some k → k < w1.heap.size) := Lib.hid (fun k hk => Nat.lt_of_lt_of_le (V_wr.out.blk k hk).2 (HW1.out.size))
              have HC3 := HC.out _ B_w3.out
              have P_w3 : Hid (QRow w3 (w1.heap.size) 24 ((m : Int) + 1) (P2)) := HN
              have LP3 : Hid (w1.heap.size < w3.heap.size) := Lib.hid P_w3.out.lt
              have GP : Hid (w1.heap.size ≠ w0.heap.size) := Lib.hid (by have := Z_wr.out; have : wr.heap.size ≤ w1.heap.size := HW1.out.size; omega)
              clear hHeld HN HO3 HB3
              go_wp2_with (first
            | ((with_reducible show wpList _ _ _ (⟨some 50, _, _, _, _, _⟩ :: _) _ _); refine wpList_append_view rfl (.tmp 44) (.tmp 49) rfl (w0.heap.size + 1) _ Wl (by exact rfl) (View.below V_w3.out ((Below.refl _ _).alloc (Nat.le_refl _) _)) (by have := H8.out; omega) (Nat.le_trans Z_w3.out (by simp)) ⟨w3.heap.size, 0, none⟩ b (by exact rfl) (row_at (cs := [.int .u8 (b : Int)]) (alloc_at _ _) 0 _ rfl) ?_; intro v4 w4 HV4 HG4 HF4; obtain ⟨A4, c4, rfl⟩ := HF4.out; have V_w4 := HV4; have Q_w4 : Hid (QRow w4 w0.heap.size 24 m PL) := Lib.hid ((HG4.out.block _ (by have := Z_w3.out; simp; omega) (fun e => by have := (V_w3.out.blk _ e.symm).1; omega)).trans (QRow.below Q_w3.out ((Below.refl _ _).alloc (Nat.le_refl _) _) Q_w3.out.lt)); have P_w4 : Hid (QRow w4 (w1.heap.size) 24 ((m : Int) + 1) (P2)) := Lib.hid ((HG4.out.block _ (by have := LP3.out; simp; omega) (fun e => by have := NEP.out _ e.symm; omega)).trans (QRow.below P_w3.out ((Below.refl _ _).alloc (Nat.le_refl _) _) P_w3.out.lt)); have B_w4 : Hid (Below w.heap.size w w4) := Lib.hid (below_gb (B_w3.out.alloc B_w3.out.size _) HG4.out (by have := B_w3.out.size; simp; omega) (fun k hk => by have := (V_w3.out.blk k hk).1; have := ZW.out; omega)); have Z_w4 : Hid (w0.heap.size + 1 ≤ w4.heap.size) := Lib.hid (by have := HG4.out.size; have := Z_w3.out; simp at *; omega); clear HV4 HG4 HF4 Q_w3 V_w3 B_w3 Z_w3 P_w3 LP3)
            | ((with_reducible show wpList _ _ _ (⟨some 51, .load 24 (.tmp 6), _, _, _, _⟩ :: _) _ _); refine wpList_load_q rfl 24 _ rfl (w1.heap.size) (by exact rfl) _ Try.underlying24 (by kernel_rfl) 24 _ _ (P_w4.out) (HP28.out) ?_)
            | ((with_reducible show wpList _ _ _ (⟨none, .store 24 (.tmp 3) (.tmp 51), _, _, _, _⟩ :: _) _ _); refine wpList_store_q rfl 24 _ _ rfl (w0.heap.size) (by exact rfl) _ _ (by exact rfl) (HP28.out) (by kernel_rfl) 24 _ _ (Q_w4.out) (HP8.out) ?_; intro w5 HN5 HO5 HB5))
              go_meet
              case rel => exact ⟨_, Wl ++ [b], rfl, by rw [HL2.out]; omega, fun x hx => (by rcases List.mem_append.1 hx with h | h; (· exact H256.out x h); (· rw [List.mem_singleton] at h; omega)), View.but V_w4.out HO5.out (fun k hk => by have := (V_w4.out.blk k hk).1; omega), by rw [HL2.out, HP2.out]; exact HN5.out, B_w4.out.trans (HB5.out.mono ZW.out), Nat.le_trans Z_w4.out HB5.out.size⟩
            · go_simp
              refine hK.out _ _ (hHeld.alloc hHeld.size _) (fun hHeld2 => ?_)
              clear hK K hHeld
              have hHeld := hHeld2
              clear hHeld2
              try simp only [Act.put, List.setIfInBounds_toArray, List.set_cons_zero, List.set_cons_succ]
              refine only_ 5 rfl (by kernel_rfl) (by rfl) (fun K hK => ?_)
              go_simp
              refine (KP.out _).mono ?_
              rintro e w1 ⟨rfl, hB⟩
              have HRZ : Hid (QRow w1 wr.heap.size 24 0 [0, 0, 0, 0, 0, 0, 0, 0]) := Lib.hid (QRow.below (w := wr.drew.alloc _) (alloc_at wr.drew _) hB (by simp))
              have HW1 := Lib.hid (hHeld.trans (hB.mono hHeld.size))
              go_simp
              refine hK.out _ _ (HW1.out) (fun hHeld2 => ?_)
              clear hK K hHeld
              have hHeld := hHeld2
              clear hHeld2
              try simp only [Act.put, List.setIfInBounds_toArray, List.set_cons_zero, List.set_cons_succ]
              clear hB
              refine' take_ 6 rfl (by kernel_rfl) (by kernel_rfl) (by kernel_rfl) (fun _ _ _ h => h) (by rfl) (fun wS hSw => ?_) hHeld ?_
              rotate_left
              focus (go_simp; (try with_reducible rfl); done)
              try simp only [Act.put, List.setIfInBounds_toArray, List.set_cons_zero, List.set_cons_succ]
              refine' take_ 7 rfl (by kernel_rfl) (by kernel_rfl) (by kernel_rfl) (fun _ _ _ h => h) (by rfl) (fun wS hSw => ?_) hHeld ?_
              rotate_left
              focus (go_simp; (try with_reducible rfl); done)
              try simp only [Act.put, List.setIfInBounds_toArray, List.set_cons_zero, List.set_cons_succ]
              refine' take_ 8 rfl (by kernel_rfl) (by kernel_rfl) (by kernel_rfl) (fun _ _ _ h => h) (by rfl) (fun wS hSw => ?_) hHeld ?_
              rotate_left
              focus (go_simp; (try with_reducible rfl); done)
              try simp only [Act.put, List.setIfInBounds_toArray, List.set_cons_zero, List.set_cons_succ]
              refine only_ 10 rfl (by kernel_rfl) (by rfl) (fun K hK => ?_)
              refine wp_store_q 24 _ _ rfl wr.heap.size rfl _ _ rfl HP28.out (by kernel_rfl) 24 _ _ (show QRow _ _ _ 0 [0, 0, 0, 0, 0, 0, 0, 0] from HRZ.out) rfl ?_
              intro w3 HN HO3 HB3
              refine hK.out _ _ (hHeld.trans HB3.out) (fun hHeld2 => ?_)
              clear hK K hHeld
              have hHeld := hHeld2
              clear hHeld2
              try simp only [Act.put]
              refine' take_ 11 rfl (by kernel_rfl) (by kernel_rfl) (by kernel_rfl) (fun _ _ _ h => h) (by rfl) (fun wS hSw => ?_) hHeld ?_
              rotate_left
              focus (go_simp; (try with_reducible rfl); done)
              try simp only [Act.put, List.setIfInBounds_toArray, List.set_cons_zero, List.set_cons_succ]
              refine wpAnyH_done (by kernel_rfl) ?_ _
              refine NoPanic.normal ?_
              have Q_w3 : Hid (QRow w3 w0.heap.size 24 (m) (PL)) := Lib.hid (QRow.below Q_wr.out hHeld Q_wr.out.lt)
              have V_w3 := Lib.hid (View.below V_wr.out hHeld)
              have B_w3 : Hid (Below w.heap.size w w3) := Lib.hid (B_wr.out.trans (hHeld.mono B_wr.out.size))
              have Z_w3 : Hid (w0.heap.size + 1 ≤ w3.heap.size) := Lib.hid (Nat.le_trans Z_wr.out hHeld.size)
              have NEP : Hid (∀ k, (Value.slice A0 m c0).ownBlock = some k → k < wr.heap.size) := Lib.hid (fun k hk => Nat.lt_of_lt_of_le (V_wr.out.blk k hk).2 (Nat.le_refl _))
              have HC3 := HC.out _ B_w3.out
              have P_w3 : Hid (QRow w3 (wr.heap.size) 24 ((m : Int) + 1) (P2)) := HN
              have LP3 : Hid (wr.heap.size < w3.heap.size) := Lib.hid P_w3.out.lt
              have GP : Hid (wr.heap.size ≠ w0.heap.size) := Lib.hid (by have := Z_wr.out; have : wr.heap.size ≤ wr.heap.size := Nat.le_refl _; omega)
              clear hHeld HN HO3 HB3
              go_wp2_with (first
            | ((with_reducible show wpList _ _ _ (⟨some 50, _, _, _, _, _⟩ :: _) _ _); refine wpList_append_view rfl (.tmp 44) (.tmp 49) rfl (w0.heap.size + 1) _ Wl (by exact rfl) (View.below V_w3.out ((Below.refl _ _).alloc (Nat.le_refl _) _)) (by have := H8.out; omega) (Nat.le_trans Z_w3.out (by simp)) ⟨w3.heap.size, 0, none⟩ b (by exact rfl) (row_at (cs := [.int .u8 (b : Int)]) (alloc_at _ _) 0 _ rfl) ?_; intro v4 w4 HV4 HG4 HF4; obtain ⟨A4, c4, rfl⟩ := HF4.out; have V_w4 := HV4; have Q_w4 : Hid (QRow w4 w0.heap.size 24 m PL) := Lib.hid ((HG4.out.block _ (by have := Z_w3.out; simp; omega) (fun e => by have := (V_w3.out.blk _ e.symm).1; omega)).trans (QRow.below Q_w3.out ((Below.refl _ _).alloc (Nat.le_refl _) _) Q_w3.out.lt)); have P_w4 : Hid (QRow w4 (wr.heap.size) 24 ((m : Int) + 1) (P2)) := Lib.hid ((HG4.out.block _ (by have := LP3.out; simp; omega) (fun e => by have := NEP.out _ e.symm; omega)).trans (QRow.below P_w3.out ((Below.refl _ _).alloc (Nat.le_refl _) _) P_w3.out.lt)); have B_w4 : Hid (Below w.heap.size w w4) := Lib.hid (below_gb (B_w3.out.alloc B_w3.out.size _) HG4.out (by have := B_w3.out.size; simp; omega) (fun k hk => by have := (V_w3.out.blk k hk).1; have := ZW.out; omega)); have Z_w4 : Hid (w0.heap.size + 1 ≤ w4.heap.size) := Lib.hid (by have := HG4.out.size; have := Z_w3.out; simp at *; omega); clear HV4 HG4 HF4 Q_w3 V_w3 B_w3 Z_w3 P_w3 LP3)
            | ((with_reducible show wpList _ _ _ (⟨some 51, .load 24 (.tmp 6), _, _, _, _⟩ :: _) _ _); refine wpList_load_q rfl 24 _ rfl (wr.heap.size) (by exact rfl) _ Try.underlying24 (by kernel_rfl) 24 _ _ (P_w4.out) (HP28.out) ?_)
            | ((with_reducible show wpList _ _ _ (⟨none, .store 24 (.tmp 3) (.tmp 51), _, _, _, _⟩ :: _) _ _); refine wpList_store_q rfl 24 _ _ rfl (w0.heap.size) (by exact rfl) _ _ (by exact rfl) (HP28.out) (by kernel_rfl) 24 _ _ (Q_w4.out) (HP8.out) ?_; intro w5 HN5 HO5 HB5))
              go_meet
              case rel => exact ⟨_, Wl ++ [b], rfl, by rw [HL2.out]; omega, fun x hx => (by rcases List.mem_append.1 hx with h | h; (· exact H256.out x h); (· rw [List.mem_singleton] at h; omega)), View.but V_w4.out HO5.out (fun k hk => by have := (V_w4.out.blk k hk).1; omega), by rw [HL2.out, HP2.out]; exact HN5.out, B_w4.out.trans (HB5.out.mono ZW.out), Nat.le_trans Z_w4.out HB5.out.size⟩
          · obtain rfl : m = 8 := by have := H8.out; have := HM.out; omega
            have KP : Hid (∀ X : World, Calls Try.prog 11 #[qv 8 PL, .int .u8 b] X fun e w' => e = .returned (.tuple #[qv 8 PL, .bool false]) ∧ Below X.heap.size X w') := Lib.hid (fun X => by
              have h := push_any 8 PL b X HP8.out (by omega) (by omega)
              rw [show cutL 8 PL = Wl from HCL.out, pushV_full HM.out, ofV_le _ H8.out, HM.out, HPL.out] at h
              exact h)
            go_wp2_with fail
            refine wp_region_noPanic ?_
            refine wp_region_held_drew (S := fun X => Below wr.heap.size wr X) (by kernel_rfl) ((Below.refl _ wr).drew) (fun hHeld => ?_)
            refine' take_ 0 rfl (by kernel_rfl) (by kernel_rfl) (by kernel_rfl) (fun _ _ _ h => h) (by rfl) (fun wS hSw => run_load_q wS 24 _ _ rfl _ Try.underlying24 (by kernel_rfl) _ _ _ (QRow.below Q_wr.out hSw Q_wr.out.lt) HP8.out _ _ _ _ _) hHeld ?_
            try simp only [Act.put, List.setIfInBounds_toArray, List.set_cons_zero, List.set_cons_succ]
            refine' take_ 1 rfl (by kernel_rfl) (by kernel_rfl) (by kernel_rfl) (fun _ _ _ h => h) (by rfl) (fun wS hSw => ?_) hHeld ?_
            rotate_left
            focus (go_simp; (try with_reducible rfl); done)
            try simp only [Act.put, List.setIfInBounds_toArray, List.set_cons_zero, List.set_cons_succ]
            refine' take_ 2 rfl (by kernel_rfl) (by kernel_rfl) (by kernel_rfl) (fun _ _ _ h => h) (by rfl) (fun wS hSw => ?_) hHeld ?_
            rotate_left
            focus (go_simp; (try with_reducible rfl); done)
            try simp only [Act.put, List.setIfInBounds_toArray, List.set_cons_zero, List.set_cons_succ]
            refine' take_ 3 rfl (by kernel_rfl) (by kernel_rfl) (by kernel_rfl) (fun _ _ _ h => h) (by rfl) (fun wS hSw => ?_) hHeld ?_
            rotate_left
            focus (go_simp; (try with_reducible rfl); done)
            try simp only [Act.put, List.setIfInBounds_toArray, List.set_cons_zero, List.set_cons_succ]
            refine' take_ 4 rfl (by kernel_rfl) (by kernel_rfl) (by kernel_rfl) (fun _ _ _ h => h) (by rfl) (fun wS hSw => ?_) hHeld ?_
            rotate_left
            focus (have hcS := HC.out wS (B_wr.out.trans (hSw.mono B_wr.out.size)); go_simp; (try with_reducible rfl); done)
            try simp only [Act.put, List.setIfInBounds_toArray, List.set_cons_zero, List.set_cons_succ]
            refine both_ 5 9 rfl rfl (by kernel_rfl) (by rfl) (by rfl) (fun K hK => ?_) (fun K hK => ?_)
            · go_simp
              refine (KP.out _).mono ?_
              rintro e w1 ⟨rfl, hB⟩
              go_simp
              refine hK.out _ _ (hHeld.trans (hB.mono hHeld.size)) (fun hHeld2 => ?_)
              have HW1 := Lib.hid hHeld2
              clear hK K hHeld
              have hHeld := hHeld2
              clear hHeld2
              try simp only [Act.put, List.setIfInBounds_toArray, List.set_cons_zero, List.set_cons_succ]
              clear hB
              refine' take_ 6 rfl (by kernel_rfl) (by kernel_rfl) (by kernel_rfl) (fun _ _ _ h => h) (by rfl) (fun wS hSw => ?_) hHeld ?_
              rotate_left
              focus (go_simp; (try with_reducible rfl); done)
              try simp only [Act.put, List.setIfInBounds_toArray, List.set_cons_zero, List.set_cons_succ]
              refine' take_ 7 rfl (by kernel_rfl) (by kernel_rfl) (by kernel_rfl) (fun _ _ _ h => h) (by rfl) (fun wS hSw => ?_) hHeld ?_
              rotate_left
              focus (go_simp; (try with_reducible rfl); done)
              try simp only [Act.put, List.setIfInBounds_toArray, List.set_cons_zero, List.set_cons_succ]
              refine' take_ 8 rfl (by kernel_rfl) (by kernel_rfl) (by kernel_rfl) (fun _ _ _ h => h) (by rfl) (fun wS hSw => ?_) hHeld ?_
              rotate_left
              focus (go_simp; (try with_reducible rfl); done)
              try simp only [Act.put, List.setIfInBounds_toArray, List.set_cons_zero, List.set_cons_succ]
              refine only_ 9 rfl (by kernel_rfl) (by rfl) (fun K hK => ?_)
              go_simp
              refine hK.out _ _ (hHeld.alloc hHeld.size _) (fun hHeld2 => ?_)
              clear hK K hHeld
              have hHeld := hHeld2
              clear hHeld2
              try simp only [Act.put, List.setIfInBounds_toArray, List.set_cons_zero, List.set_cons_succ]
              refine only_ 10 rfl (by kernel_rfl) (by rfl) (fun K hK => ?_)
              refine wp_store_q 24 _ _ rfl w1.heap.size rfl _ _ rfl HP8.out (by kernel_rfl) 24 _ _ (show QRow _ _ _ 0 [0, 0, 0, 0, 0, 0, 0, 0] from alloc_at _ _) rfl ?_
              intro w3 HN HO3 HB3
              have hz1 : wr.heap.size ≤ w1.heap.size := HW1.out.size
              refine hK.out _ _ (hHeld.trans (HB3.out.mono hz1)) (fun hHeld2 => ?_)
              clear hK K hHeld
              have hHeld := hHeld2
              clear hHeld2
              try simp only [Act.put]
              refine' take_ 11 rfl (by kernel_rfl) (by kernel_rfl) (by kernel_rfl) (fun _ _ _ h => h) (by rfl) (fun wS hSw => ?_) hHeld ?_
              rotate_left
              focus (go_simp; (try with_reducible rfl); done)
              try simp only [Act.put, List.setIfInBounds_toArray, List.set_cons_zero, List.set_cons_succ]
              refine wpAnyH_done (by kernel_rfl) ?_ _
              refine NoPanic.normal ?_
              have Q_w3 : Hid (QRow w3 w0.heap.size 24 (8) (PL)) := Lib.hid (QRow.below Q_wr.out hHeld Q_wr.out.lt)
              have V_w3 := Lib.hid (View.below V_wr.out hHeld)
              have B_w3 : Hid (Below w.heap.size w w3) := Lib.hid (B_wr.out.trans (hHeld.mono B_wr.out.size))
              have Z_w3 : Hid (w0.heap.size + 1 ≤ w3.heap.size) := Lib.hid (Nat.le_trans Z_wr.out hHeld.size)
              have NEP : Hid (∀ k, (Value.slice A0 8 c0).ownBlock = some k → k < w1.heap.size) := Lib.hid (fun k hk => Nat.lt_of_lt_of_le (V_wr.out.blk k hk).2 (HW1.out.size))
              have HC3 := HC.out _ B_w3.out
              have P_w3 : Hid (QRow w3 (w1.heap.size) 24 (8) (PL)) := HN
              have LP3 : Hid (w1.heap.size < w3.heap.size) := Lib.hid P_w3.out.lt
              have GP : Hid (w1.heap.size ≠ w0.heap.size) := Lib.hid (by have := Z_wr.out; have : wr.heap.size ≤ w1.heap.size := HW1.out.size; omega)
              clear hHeld HN HO3 HB3
              go_wp2_with (first
            | ((with_reducible show wpList _ _ _ (⟨some 51, .load 24 (.tmp 6), _, _, _, _⟩ :: _) _ _); refine wpList_load_q rfl 24 _ rfl (w1.heap.size) (by exact rfl) _ Try.underlying24 (by kernel_rfl) 24 _ _ (P_w3.out) (HP8.out) ?_)
            | ((with_reducible show wpList _ _ _ (⟨none, .store 24 (.tmp 3) (.tmp 51), _, _, _, _⟩ :: _) _ _); refine wpList_store_q rfl 24 _ _ rfl (w0.heap.size) (by exact rfl) _ _ (by exact rfl) (HP8.out) (by kernel_rfl) 24 _ _ (Q_w3.out) (HP8.out) ?_; intro w5 HN5 HO5 HB5))
              go_meet
              case rel => exact ⟨_, Wl, rfl, H8.out, H256.out, View.but V_w3.out HO5.out (fun k hk => by have := (V_w3.out.blk k hk).1; omega), by rw [HM.out, HPL.out]; exact HN5.out, B_w3.out.trans (HB5.out.mono ZW.out), Nat.le_trans Z_w3.out HB5.out.size⟩
            · go_simp
              refine hK.out _ _ (hHeld.alloc hHeld.size _) (fun hHeld2 => ?_)
              clear hK K hHeld
              have hHeld := hHeld2
              clear hHeld2
              try simp only [Act.put, List.setIfInBounds_toArray, List.set_cons_zero, List.set_cons_succ]
              refine only_ 5 rfl (by kernel_rfl) (by rfl) (fun K hK => ?_)
              go_simp
              refine (KP.out _).mono ?_
              rintro e w1 ⟨rfl, hB⟩
              have HRZ : Hid (QRow w1 wr.heap.size 24 0 [0, 0, 0, 0, 0, 0, 0, 0]) := Lib.hid (QRow.below (w := wr.drew.alloc _) (alloc_at wr.drew _) hB (by simp))
              have HW1 := Lib.hid (hHeld.trans (hB.mono hHeld.size))
              go_simp
              refine hK.out _ _ (HW1.out) (fun hHeld2 => ?_)
              clear hK K hHeld
              have hHeld := hHeld2
              clear hHeld2
              try simp only [Act.put, List.setIfInBounds_toArray, List.set_cons_zero, List.set_cons_succ]
              clear hB
              refine' take_ 6 rfl (by kernel_rfl) (by kernel_rfl) (by kernel_rfl) (fun _ _ _ h => h) (by rfl) (fun wS hSw => ?_) hHeld ?_
              rotate_left
              focus (go_simp; (try with_reducible rfl); done)
              try simp only [Act.put, List.setIfInBounds_toArray, List.set_cons_zero, List.set_cons_succ]
              refine' take_ 7 rfl (by kernel_rfl) (by kernel_rfl) (by kernel_rfl) (fun _ _ _ h => h) (by rfl) (fun wS hSw => ?_) hHeld ?_
              rotate_left
              focus (go_simp; (try with_reducible rfl); done)
              try simp only [Act.put, List.setIfInBounds_toArray, List.set_cons_zero, List.set_cons_succ]
              refine' take_ 8 rfl (by kernel_rfl) (by kernel_rfl) (by kernel_rfl) (fun _ _ _ h => h) (by rfl) (fun wS hSw => ?_) hHeld ?_
              rotate_left
              focus (go_simp; (try with_reducible rfl); done)
              try simp only [Act.put, List.setIfInBounds_toArray, List.set_cons_zero, List.set_cons_succ]
              refine only_ 10 rfl (by kernel_rfl) (by rfl) (fun K hK => ?_)
              refine wp_store_q 24 _ _ rfl wr.heap.size rfl _ _ rfl HP8.out (by kernel_rfl) 24 _ _ (show QRow _ _ _ 0 [0, 0, 0, 0, 0, 0, 0, 0] from HRZ.out) rfl ?_
              intro w3 HN HO3 HB3
              refine hK.out _ _ (hHeld.trans HB3.out) (fun hHeld2 => ?_)
              clear hK K hHeld
              have hHeld := hHeld2
              clear hHeld2
              try simp only [Act.put]
              refine' take_ 11 rfl (by kernel_rfl) (by kernel_rfl) (by kernel_rfl) (fun _ _ _ h => h) (by rfl) (fun wS hSw => ?_) hHeld ?_
              rotate_left
              focus (go_simp; (try with_reducible rfl); done)
              try simp only [Act.put, List.setIfInBounds_toArray, List.set_cons_zero, List.set_cons_succ]
              refine wpAnyH_done (by kernel_rfl) ?_ _
              refine NoPanic.normal ?_
              have Q_w3 : Hid (QRow w3 w0.heap.size 24 (8) (PL)) := Lib.hid (QRow.below Q_wr.out hHeld Q_wr.out.lt)
              have V_w3 := Lib.hid (View.below V_wr.out hHeld)
              have B_w3 : Hid (Below w.heap.size w w3) := Lib.hid (B_wr.out.trans (hHeld.mono B_wr.out.size))
              have Z_w3 : Hid (w0.heap.size + 1 ≤ w3.heap.size) := Lib.hid (Nat.le_trans Z_wr.out hHeld.size)
              have NEP : Hid (∀ k, (Value.slice A0 8 c0).ownBlock = some k → k < wr.heap.size) := Lib.hid (fun k hk => Nat.lt_of_lt_of_le (V_wr.out.blk k hk).2 (Nat.le_refl _))
              have HC3 := HC.out _ B_w3.out
              have P_w3 : Hid (QRow w3 (wr.heap.size) 24 (8) (PL)) := HN
              have LP3 : Hid (wr.heap.size < w3.heap.size) := Lib.hid P_w3.out.lt
              have GP : Hid (wr.heap.size ≠ w0.heap.size) := Lib.hid (by have := Z_wr.out; have : wr.heap.size ≤ wr.heap.size := Nat.le_refl _; omega)
              clear hHeld HN HO3 HB3
              go_wp2_with (first
            | ((with_reducible show wpList _ _ _ (⟨some 51, .load 24 (.tmp 6), _, _, _, _⟩ :: _) _ _); refine wpList_load_q rfl 24 _ rfl (wr.heap.size) (by exact rfl) _ Try.underlying24 (by kernel_rfl) 24 _ _ (P_w3.out) (HP8.out) ?_)
            | ((with_reducible show wpList _ _ _ (⟨none, .store 24 (.tmp 3) (.tmp 51), _, _, _, _⟩ :: _) _ _); refine wpList_store_q rfl 24 _ _ rfl (w0.heap.size) (by exact rfl) _ _ (by exact rfl) (HP8.out) (by kernel_rfl) 24 _ _ (Q_w3.out) (HP8.out) ?_; intro w5 HN5 HO5 HB5))
              go_meet
              case rel => exact ⟨_, Wl, rfl, H8.out, H256.out, View.but V_w3.out HO5.out (fun k hk => by have := (V_w3.out.blk k hk).1; omega), by rw [HM.out, HPL.out]; exact HN5.out, B_w3.out.trans (HB5.out.mono ZW.out), Nat.le_trans Z_w3.out HB5.out.size⟩
        · rcases Wl with _ | ⟨x, r⟩
          · obtain rfl : m = 0 := HM.out.symm
            have KO : Hid (∀ X : World, Calls Try.prog 12 #[qv 0 PL] X fun e w' => e = .returned (.tuple #[.int .u8 0, qv 0 PL, .bool false]) ∧ Below X.heap.size X w') := Lib.hid (fun X => by
              have h := pop_any 0 PL X HP8.out (by omega) (by omega)
              rw [show cutL 0 PL = [] from HCL.out] at h
              have e : popV [] = .tuple #[.int .u8 0, qv 0 PL, .bool false] := by rw [popV, ofV_le [] (by simp), HPL.out]; rfl
              rw [e] at h
              exact h)
            go_wp2_with (first
            | ((with_reducible show wpList _ _ _ (⟨some 53, .load 24 (.tmp 3), _, _, _, _⟩ :: _) _ _); refine wpList_load_q rfl 24 _ rfl (w0.heap.size) (by exact rfl) _ Try.underlying24 (by kernel_rfl) 24 _ _ (Q_wr.out) (HP8.out) ?_)
            | (go_at_call 12; refine (KO.out _).mono ?_; rintro e w1 ⟨rfl, hB⟩; have HW1 := Lib.hid hB; clear hB)
            | ((with_reducible show wpList _ _ _ (⟨none, .store 24 (.tmp 9) (.tmp 56), _, _, _, _⟩ :: _) _ _); refine wpList_store_q rfl 24 _ _ rfl (w1.heap.size) (by exact rfl) (0) (PL) (by exact rfl) (HP8.out) (by kernel_rfl) 24 _ _ (show QRow _ _ _ 0 [0, 0, 0, 0, 0, 0, 0, 0] from alloc_at _ _) rfl ?_; intro w3 HN HO3 HB3; have BW : Below wr.heap.size wr w3 := (HW1.out.alloc HW1.out.size _).trans (HB3.out.mono HW1.out.size); have Q_w3 : Hid (QRow w3 w0.heap.size 24 (0) (PL)) := Lib.hid (QRow.below Q_wr.out BW Q_wr.out.lt); have V_w3 := Lib.hid (View.below V_wr.out BW); have B_w3 : Hid (Below w.heap.size w w3) := Lib.hid (B_wr.out.trans (BW.mono B_wr.out.size)); have Z_w3 : Hid (w0.heap.size + 1 ≤ w3.heap.size) := Lib.hid (Nat.le_trans Z_wr.out BW.size); have P_w3 : Hid (QRow w3 (w1.heap.size) 24 (0) (PL)) := HN; have GP : Hid (w1.heap.size ≠ w0.heap.size) := Lib.hid (by have := Z_wr.out; have := HW1.out.size; omega); clear BW HN HO3 HB3)
            | ((with_reducible show wpList _ _ _ (⟨some 84, .load 24 (.tmp 9), _, _, _, _⟩ :: _) _ _); refine wpList_load_q rfl 24 _ rfl (w1.heap.size) (by exact rfl) _ Try.underlying24 (by kernel_rfl) 24 _ _ (P_w3.out) (HP8.out) ?_)
            | ((with_reducible show wpList _ _ _ (⟨none, .store 24 (.tmp 3) (.tmp 84), _, _, _, _⟩ :: _) _ _); refine wpList_store_q rfl 24 _ _ rfl (w0.heap.size) (by exact rfl) _ _ (by exact rfl) (HP8.out) (by kernel_rfl) 24 _ _ (Q_w3.out) (HP8.out) ?_; intro w5 HN5 HO5 HB5))
            go_meet
            case rel => exact ⟨_, [], rfl, H8.out, H256.out, View.but V_w3.out HO5.out (fun k hk => by have := (V_w3.out.blk k hk).1; omega), by rw [HPL.out]; exact HN5.out, B_w3.out.trans (HB5.out.mono ZW.out), Nat.le_trans Z_w3.out HB5.out.size⟩
          · obtain ⟨gv, off, cap2, hv2, hcap2, hcell, hview⟩ := V_wr.out.cut
            obtain ⟨k2, hk2⟩ : ∃ k2, r.length = k2 := ⟨_, rfl⟩
            injection hv2 with e1 e2 e3
            subst e1
            subst e3
            obtain rfl : m = k2 + 1 := by rw [← hk2]; exact e2
            rw [hk2] at hview hcap2
            clear e2
            have HK2 := Lib.hid hk2
            have HVC := Lib.hid hview
            have HCE := Lib.hid hcell
            have HS := fun W => run_cutV gv off k2 c0 hcap2 W
            have dpos : (0 : Int) < (k2 : Int) + 1 := by omega
            have h88 : k2 + 1 ≤ 8 := by have := H8.out; rw [HM.out] at this; exact this
            obtain ⟨P2, hP2⟩ : ∃ P2, pad r = P2 := ⟨_, rfl⟩
            have HP2 := Lib.hid hP2
            have HP28 : Hid (P2.length = 8) := Lib.hid (by rw [← hP2]; exact pad_length _)
            have KO : Hid (∀ X : World, Calls Try.prog 12 #[qv ((k2 : Int) + 1) PL] X fun e w' => e = .returned (.tuple #[.int .u8 (x : Int), qv k2 P2, .bool true]) ∧ Below X.heap.size X w') := Lib.hid (fun X => by
              have h := pop_any ((k2 : Int) + 1) PL X HP8.out (by omega) (by omega)
              rw [show cutL ((k2 : Int) + 1) PL = x :: r from HCL.out] at h
              have e : popV (x :: r) = .tuple #[.int .u8 (x : Int), qv k2 P2, .bool true] := by rw [popV, ofV_le r (by omega), hk2, hP2]
              rw [e] at h
              exact h)
            clear hP2 hk2 hview hcell hcap2
            go_wp2_with (first
            | ((with_reducible show wpList _ _ _ (⟨some 53, .load 24 (.tmp 3), _, _, _, _⟩ :: _) _ _); refine wpList_load_q rfl 24 _ rfl (w0.heap.size) (by exact rfl) _ Try.underlying24 (by kernel_rfl) 24 _ _ (Q_wr.out) (HP8.out) ?_)
            | (go_at_call 12; refine (KO.out _).mono ?_; rintro e w1 ⟨rfl, hB⟩; have HW1 := Lib.hid hB; clear hB)
            | ((with_reducible show wpList _ _ _ (⟨none, .store 24 (.tmp 9) (.tmp 56), _, _, _, _⟩ :: _) _ _); refine wpList_store_q rfl 24 _ _ rfl (w1.heap.size) (by exact rfl) ((k2 : Int)) (P2) (by exact rfl) (HP28.out) (by kernel_rfl) 24 _ _ (show QRow _ _ _ 0 [0, 0, 0, 0, 0, 0, 0, 0] from alloc_at _ _) rfl ?_; intro w3 HN HO3 HB3; have BW : Below wr.heap.size wr w3 := (HW1.out.alloc HW1.out.size _).trans (HB3.out.mono HW1.out.size); have Q_w3 : Hid (QRow w3 w0.heap.size 24 (((k2 : Int) + 1)) (PL)) := Lib.hid (QRow.below Q_wr.out BW Q_wr.out.lt); have V_w3 := Lib.hid (View.below V_wr.out BW); have B_w3 : Hid (Below w.heap.size w w3) := Lib.hid (B_wr.out.trans (BW.mono B_wr.out.size)); have Z_w3 : Hid (w0.heap.size + 1 ≤ w3.heap.size) := Lib.hid (Nat.le_trans Z_wr.out BW.size); have P_w3 : Hid (QRow w3 (w1.heap.size) 24 ((k2 : Int)) (P2)) := HN; have GP : Hid (w1.heap.size ≠ w0.heap.size) := Lib.hid (by have := Z_wr.out; have := HW1.out.size; omega); have hce : w3.cell? ⟨gv, off, none⟩ = some (.int .u8 (x : Int)) := (BW.cell (p := ⟨gv, off, none⟩) (World.block_lt_of_cell? wr _ HCE.out)).trans HCE.out; have HVC3 := Lib.hid (View.below HVC.out BW); clear BW HN HO3 HB3)
            | ((with_reducible show wpList _ _ _ (⟨some 84, .load 24 (.tmp 9), _, _, _, _⟩ :: _) _ _); refine wpList_load_q rfl 24 _ rfl (w1.heap.size) (by exact rfl) _ Try.underlying24 (by kernel_rfl) 24 _ _ (P_w3.out) (HP28.out) ?_)
            | ((with_reducible show wpList _ _ _ (⟨none, .store 24 (.tmp 3) (.tmp 84), _, _, _, _⟩ :: _) _ _); refine wpList_store_q rfl 24 _ _ rfl (w0.heap.size) (by exact rfl) _ _ (by exact rfl) (HP28.out) (by kernel_rfl) 24 _ _ (Q_w3.out) (HP8.out) ?_; intro w5 HN5 HO5 HB5))
            go_meet
            case rel => exact ⟨_, r, rfl, by rw [HK2.out]; omega, fun y hy => H256.out y (List.mem_cons_of_mem _ hy), View.but HVC3.out HO5.out (fun k hk => by have := (HVC3.out.blk k hk).1; omega), by rw [HK2.out, HP2.out]; exact HN5.out, B_w3.out.trans (HB5.out.mono ZW.out), Nat.le_trans Z_w3.out HB5.out.size⟩
      case rest =>
        obtain ⟨W, Wl, rfl, h8, h256, hv, hq, hbw, hz⟩ := hcut
        obtain ⟨A0, c0, rfl, hc0, hrd⟩ := hv.rdb
        obtain ⟨m, hm⟩ : ∃ m, Wl.length = m := ⟨_, rfl⟩
        obtain ⟨PL, hPL⟩ : ∃ PL, pad Wl = PL := ⟨_, rfl⟩
        have hof : ofV Wl = qv (m : Int) PL := by rw [ofV_le _ h8, hm, hPL]
        have HP8 : Hid (PL.length = 8) := Lib.hid (by rw [← hPL]; exact pad_length _)
        have K1 : Hid (∀ X, Below W.heap.size W X → Calls Try.prog 13 #[qv (m : Int) PL, .slice A0 m c0] X fun e w' => e = .returned (.bool true) ∧ Below X.heap.size X w') := Lib.hid (fun X hX => by
          have h := is_any Wl A0 c0 X h8 h256 ((hrd.below hX (Nat.le_refl _)).more hX.size)
          rw [hof, hm] at h
          exact h)
        have K2 : Hid (∀ X, Below W.heap.size W X → Calls Try.prog 8 #[.slice A0 m c0] X fun e w' => e = .returned (qv (m : Int) PL) ∧ Below X.heap.size X w') := Lib.hid (fun X hX => by
          have h := of_any A0 m c0 Wl X hm (by omega) ((hrd.below hX (Nat.le_refl _)).more hX.size)
          rw [hof] at h
          exact h)
        have K3 : Hid (∀ X : World, Calls Try.prog 14 #[qv (m : Int) PL] X fun e w' => e = .returned (qv (m : Int) PL) ∧ Below X.heap.size X w') := Lib.hid (fun X => by
          have h := mend_of Wl h8 X
          rw [hof] at h
          exact h)
        have hE : ∀ X : World, (binOp .neq 24 (qv (m : Int) PL) (qv (m : Int) PL)).run Try.prog X = .ok (.bool false) X := fun X => by rw [run_neq_q X _ _ _ _ HP8.out HP8.out]; simp
        have hG : ∀ (x y : Operand) (X : World), (eqGuard .neq 24 x y (qv (m : Int) PL) (qv (m : Int) PL)).run Try.prog X = .ok () X := fun x y X => run_eqGuard_agg X _ _ _ _ _ _ Try.eqGuardType24
        have HQ : Hid (QRow W w0.heap.size 24 (m : Int) PL) := Lib.hid (by rw [← hm, ← hPL]; exact hq)
        have H82 := Lib.hid h8
        have H2562 := Lib.hid h256
        have HV := Lib.hid hv
        have HBW := Lib.hid hbw
        have HZ2 := Lib.hid hz
        have HM := Lib.hid hm
        have HPL := Lib.hid hPL
        rw [hm] at HV ⊢
        clear h8 h256 hv hq hbw hz hc0 hrd hof hm hPL
        go_wp2_with fail
        refine wp_region_noPanic ?_
        refine wp_region_held_drew (S := fun X => Below W.heap.size W X) (by kernel_rfl) ((Below.refl _ W).drew) (fun hHeld => ?_)
        refine' take_ 0 rfl (by kernel_rfl) (by kernel_rfl) (by kernel_rfl) (fun _ _ _ h => h) (by rfl) (fun wS hSw => run_load_q wS 24 _ _ rfl _ Try.underlying24 (by kernel_rfl) _ _ _ (QRow.below HQ.out hSw HQ.out.lt) HP8.out _ _ _ _ _) hHeld ?_
        try simp only [Act.put, List.setIfInBounds_toArray, List.set_cons_zero, List.set_cons_succ]
        refine' take_ 1 rfl (by kernel_rfl) (by kernel_rfl) (by kernel_rfl) (fun _ _ _ h => h) (by rfl) (fun wS hSw => ?_) hHeld ?_
        rotate_left
        focus (go_simp; (try with_reducible rfl); done)
        try simp only [Act.put, List.setIfInBounds_toArray, List.set_cons_zero, List.set_cons_succ]
        refine only_ 2 rfl (by kernel_rfl) (by rfl) (fun K hK => ?_)
        go_simp
        refine (K1.out _ hHeld).mono ?_
        rintro e wn ⟨rfl, hBn⟩
        go_simp
        refine hK.out _ _ (hHeld.trans (hBn.mono hHeld.size)) (fun hHeld2 => ?_)
        clear hK K hHeld
        have hHeld := hHeld2
        clear hHeld2
        try simp only [Act.put, List.setIfInBounds_toArray, List.set_cons_zero, List.set_cons_succ]
        clear hBn
        refine' take_ 3 rfl (by kernel_rfl) (by kernel_rfl) (by kernel_rfl) (fun _ _ _ h => h) (by rfl) (fun wS hSw => ?_) hHeld ?_
        rotate_left
        focus (go_simp; (try with_reducible rfl); done)
        try simp only [Act.put, List.setIfInBounds_toArray, List.set_cons_zero, List.set_cons_succ]
        refine' take_ 4 rfl (by kernel_rfl) (by kernel_rfl) (by kernel_rfl) (fun _ _ _ h => h) (by rfl) (fun wS hSw => ?_) hHeld ?_
        rotate_left
        focus (go_simp; (try with_reducible rfl); done)
        try simp only [Act.put, List.setIfInBounds_toArray, List.set_cons_zero, List.set_cons_succ]
        refine' take_ 5 rfl (by kernel_rfl) (by kernel_rfl) (by kernel_rfl) (fun _ _ _ h => h) (by rfl) (fun wS hSw => ?_) hHeld ?_
        rotate_left
        focus (go_simp; (try with_reducible rfl); done)
        try simp only [Act.put, List.setIfInBounds_toArray, List.set_cons_zero, List.set_cons_succ]
        refine' take_ 7 rfl (by kernel_rfl) (by kernel_rfl) (by kernel_rfl) (fun _ _ _ h => h) (by rfl) (fun wS hSw => run_load_q wS 24 _ _ rfl _ Try.underlying24 (by kernel_rfl) _ _ _ (QRow.below HQ.out hSw HQ.out.lt) HP8.out _ _ _ _ _) hHeld ?_
        try simp only [Act.put, List.setIfInBounds_toArray, List.set_cons_zero, List.set_cons_succ]
        refine only_ 6 rfl (by kernel_rfl) (by rfl) (fun K hK => ?_)
        go_simp
        refine (K2.out _ hHeld).mono ?_
        rintro e wn ⟨rfl, hBn⟩
        go_simp
        refine hK.out _ _ (hHeld.trans (hBn.mono hHeld.size)) (fun hHeld2 => ?_)
        clear hK K hHeld
        have hHeld := hHeld2
        clear hHeld2
        try simp only [Act.put, List.setIfInBounds_toArray, List.set_cons_zero, List.set_cons_succ]
        clear hBn
        refine' take_ 8 rfl (by kernel_rfl) (by kernel_rfl) (by kernel_rfl) (fun _ _ _ h => h) (by rfl) (fun wS hSw => ?_) hHeld ?_
        rotate_left
        focus (go_simp; (try with_reducible rfl); done)
        try simp only [Act.put, List.setIfInBounds_toArray, List.set_cons_zero, List.set_cons_succ]
        refine' take_ 9 rfl (by kernel_rfl) (by kernel_rfl) (by kernel_rfl) (fun _ _ _ h => h) (by rfl) (fun wS hSw => ?_) hHeld ?_
        rotate_left
        focus (go_simp; (try with_reducible rfl); done)
        try simp only [Act.put, List.setIfInBounds_toArray, List.set_cons_zero, List.set_cons_succ]
        refine' take_ 10 rfl (by kernel_rfl) (by kernel_rfl) (by kernel_rfl) (fun _ _ _ h => h) (by rfl) (fun wS hSw => ?_) hHeld ?_
        rotate_left
        focus (go_simp; (try with_reducible rfl); done)
        try simp only [Act.put, List.setIfInBounds_toArray, List.set_cons_zero, List.set_cons_succ]
        refine' take_ 11 rfl (by kernel_rfl) (by kernel_rfl) (by kernel_rfl) (fun _ _ _ h => h) (by rfl) (fun wS hSw => run_load_q wS 24 _ _ rfl _ Try.underlying24 (by kernel_rfl) _ _ _ (QRow.below HQ.out hSw HQ.out.lt) HP8.out _ _ _ _ _) hHeld ?_
        try simp only [Act.put, List.setIfInBounds_toArray, List.set_cons_zero, List.set_cons_succ]
        refine' take_ 13 rfl (by kernel_rfl) (by kernel_rfl) (by kernel_rfl) (fun _ _ _ h => h) (by rfl) (fun wS hSw => run_load_q wS 24 _ _ rfl _ Try.underlying24 (by kernel_rfl) _ _ _ (QRow.below HQ.out hSw HQ.out.lt) HP8.out _ _ _ _ _) hHeld ?_
        try simp only [Act.put, List.setIfInBounds_toArray, List.set_cons_zero, List.set_cons_succ]
        refine only_ 12 rfl (by kernel_rfl) (by rfl) (fun K hK => ?_)
        go_simp
        refine (K3.out _).mono ?_
        rintro e wn ⟨rfl, hBn⟩
        go_simp
        refine hK.out _ _ (hHeld.trans (hBn.mono hHeld.size)) (fun hHeld2 => ?_)
        clear hK K hHeld
        have hHeld := hHeld2
        clear hHeld2
        try simp only [Act.put, List.setIfInBounds_toArray, List.set_cons_zero, List.set_cons_succ]
        clear hBn
        refine' take_ 14 rfl (by kernel_rfl) (by kernel_rfl) (by kernel_rfl) (fun _ _ _ h => h) (by rfl) (fun wS hSw => ?_) hHeld ?_
        rotate_left
        focus (go_simp; (try with_reducible rfl); done)
        try simp only [Act.put, List.setIfInBounds_toArray, List.set_cons_zero, List.set_cons_succ]
        refine' take_ 15 rfl (by kernel_rfl) (by kernel_rfl) (by kernel_rfl) (fun _ _ _ h => h) (by rfl) (fun wS hSw => ?_) hHeld ?_
        rotate_left
        focus (go_simp; (try with_reducible rfl); done)
        try simp only [Act.put, List.setIfInBounds_toArray, List.set_cons_zero, List.set_cons_succ]
        refine wpAnyH_done (by kernel_rfl) ?_ _
        refine NoPanic.normal ?_
        go_wp2_with fail
        go_roundw
        case rel => exact ⟨k + 1, Wl, by omega, by omega, by go_num, H82.out, H2562.out, View.below HV.out hHeld, by rw [HM.out, HPL.out]; exact QRow.below HQ.out hHeld HQ.out.lt, HBW.out.trans (hHeld.mono HBW.out.size), Nat.le_trans HZ2.out hHeld.size⟩
        case measure =>
          simp [intOf]
          omega
    · by_cases d : k < len
      · have d1 : (k : Int) < (len : Int) := by omega
        have d2 : ¬ (k : Int) < 100 := by omega
        clear hlt
        go_wp2_with fail
        go_ret
        exact ⟨rfl, HBR.out⟩
      · have d1 : ¬ (k : Int) < (len : Int) := by omega
        clear hlt
        go_wp2_with fail
        go_ret
        exact ⟨rfl, HBR.out⟩
end Go.Proofs.Ytebapciapnebgaa
