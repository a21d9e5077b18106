/-
  The document's own Pins: by its contract.
-/
import Derived.Test.YticeeeomhdcffaaRef3
namespace Go.Proofs.Yticeeeomhdcffaa
open Go.RowKit
set_option linter.unusedVariables false
set_option maxRecDepth 100000 in
theorem rPins_any (o i e level : Nat) (w : World) (ho : o < 256) (hi : i < 256) (he : e < 256) (hv : level < 256) :
    Calls Try.prog 9 #[gv o i e, .int .u8 level] w fun x w' => x = .returned (.tuple #[gv o level e, .bool (asksL e (riseK i level 8))]) ∧ Below w.heap.size w w' := by
  have HRs : Hid (∀ W : World, Calls Try.prog 12 #[.int .u8 i, .int .u8 level] W fun x w' => ∃ v, x = .returned v ∧ OwnN w' W.heap.size v (riseK i level 8) ∧ Below W.heap.size W w') := Lib.hid (fun W => rRising_any i level W hi hv)
  have hL8 := riseK_lt i level 8
  have hLl := riseK_len i level 8
  generalize riseK i level 8 = L at *
  have HL8 := Lib.hid hL8
  clear hL8
  unfold gv
  go_enter Try.func9, Try.ntmps9
  go_wp2_with (go_at_call 12; refine (HRs.out _).mono ?_; rintro x w1 ⟨lv, rfl, hown, hB⟩
               have HQ : Hid (VRow w1 w.heap.size 25 (gc o i e)) := Lib.hid (VRow.below (two_at0 _ _ _) hB (by simp; omega))
               have HR : Hid (VRow w1 (w.heap.size + 1) 25 (gc 0 0 0)) := Lib.hid (VRow.below (two_at _ _ _) hB (by simp))
               have HB : Hid (Below w.heap.size w w1) := Lib.hid ((two_below _ _ _).trans (hB.mono (by simp; omega)))
               have HO := Lib.hid hown
               obtain ⟨A, c, rfl⟩ := hown.form
               clear hB hown)
  go_loopw [7, 8] (fun av kv wr => ∃ k : Nat, k ≤ L.length ∧ kv = .int .i64 k ∧ av = .bool (asksL e (L.take k)) ∧ Below w1.heap.size w1 wr) (fun _ kv _ => L.length - (intOf kv).toNat)
  case atStart => exact ⟨0, by omega, rfl, by simp [asksL], Below.refl _ _⟩
  case round =>
    obtain ⟨k, hk, rfl, rfl, hb⟩ := hrel
    have HBR := Lib.hid hb
    have q2 : wr.cell? ⟨w.heap.size, 2, none⟩ = some (.int .u8 (e : Int)) := (VRow.below HQ.out hb HQ.out.lt).cell 2 _ rfl
    have OR := Lib.hid (HO.out.below hb)
    clear hb
    by_cases hlt : k < L.length
    · have d1 : (k : Int) < (L.length : Int) := by omega
      obtain ⟨n, hn⟩ : ∃ n, L[k]? = some n := ⟨_, List.getElem?_eq_getElem hlt⟩
      obtain ⟨a, c', hA, hcn⟩ := OR.out.at k n hn
      injection hA with hA1 hA2 hA3
      subst hA1
      subst hA3
      have hn8 := HL8.out n (List.mem_of_getElem? hn)
      have hst : L.take (k + 1) = L.take k ++ [n] := by rw [List.take_add_one, hn]; rfl
      have HB1 : Hid (∀ W : World, Calls Try.prog 19 #[.int .u8 e, .int .i64 n] W fun x w' => x = .returned (.bool (bitB e n)) ∧ w' = W) := Lib.hid (fun W => bit_any e n W he (by omega))
      have HA : Hid (asksL e (L.take (k + 1)) = (asksL e (L.take k) || bitB e n)) := Lib.hid (by rw [hst, asksL_snoc])
      obtain ⟨b0, hb0⟩ : ∃ b0, asksL e (L.take k) = b0 := ⟨_, rfl⟩
      rw [hb0] at HA ⊢
      clear hst hn hA2 hb0
      cases b0
      · go_wp2_with fail
        go_quiet ((go_at_call 19; with_reducible exact Calls.quiet_of_same (HB1.out _)))
        go_wp2_with fail
        go_roundw
        case rel => exact ⟨k + 1, by omega, by go_num, by rw [HA.out]; rfl, Below.drewN' HBR.out _⟩
        case measure =>
          simp [intOf]
          omega
      · go_wp2_with fail
        go_quiet (fail)
        go_wp2_with fail
        go_roundw
        case rel => exact ⟨k + 1, by omega, by go_num, by rw [HA.out]; rfl, Below.drewN' HBR.out _⟩
        case measure =>
          simp [intOf]
          omega
    · obtain rfl : k = L.length := by omega
      have HQW := Lib.hid (VRow.below HQ.out HBR.out HQ.out.lt)
      have HRW := Lib.hid (VRow.below HR.out HBR.out HR.out.lt)
      have HBW : Hid (Below w.heap.size w wr) := Lib.hid (HB.out.trans (HBR.out.mono HB.out.size))
      rw [List.take_length]
      obtain ⟨b1, hb1⟩ : ∃ b1, asksL e L = b1 := ⟨_, rfl⟩
      rw [hb1]
      go_wp2_with (first
        | ((with_reducible show wpList _ _ _ (⟨none, .store 5 (.tmp 30) (.tmp 29), _, _, _, _⟩ :: _) _ _); refine wpList_store_c rfl 5 _ _ rfl w.heap.size 1 (by exact rfl) (.int .u8 (level : Int)) (by exact rfl) rfl (by kernel_rfl) 25 _ HQW.out (show 1 < 3 by decide) ?_; intro w3 HN HO3 HB3
           have HN3 : Hid (VRow w3 w.heap.size 25 (gc o level e)) := HN
           have HR3 : Hid (VRow w3 (w.heap.size + 1) 25 (gc 0 0 0)) := Lib.hid ((HO3.out _ (by omega)).trans HRW.out)
           have HB3' : Hid (Below w.heap.size w w3) := Lib.hid (HBW.out.trans HB3.out)
           clear HN HO3 HB3)
        | ((with_reducible show wpList _ _ _ (⟨some 31, .load 25 (.tmp 2), _, _, _, _⟩ :: _) _ _); refine wpList_load_v (by rfl) 25 _ rfl w.heap.size (by exact rfl) _ Try.underlying25 25 _ HN3.out (by kernel_rfl) ?_)
        | ((with_reducible show wpList _ _ _ (⟨none, .store 25 (.tmp 4) (.tmp 31), _, _, _, _⟩ :: _) _ _); refine wpList_store_v rfl 25 _ _ rfl (w.heap.size + 1) (by exact rfl) (gc o level e) (by exact rfl) (by kernel_rfl) (gc_one _ _ _) 25 _ HR3.out rfl ?_; intro w4 HN4 HO4 HB4))
      exact bodyPost_ret (v := .tuple #[gv o level e, .bool b1]) (results_ct Try.results9 _ _ _ _ _ _ rfl (run_loadVar_v _ _ _ _ Try.underlying25 25 (gc o level e) HN4.out (by kernel_rfl)) rfl) rfl ⟨by rw [hb1]; rfl, HB3'.out.trans (HB4.out.mono (by omega))⟩
end Go.Proofs.Yticeeeomhdcffaa
