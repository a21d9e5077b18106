/-
  FifoTells' walk: of any value, byte, and list: true. Made by wip/genfifotells.py.
-/
import Derived.Test.YtebapciapnebgaaWorks
namespace Go.Proofs.Ytebapciapnebgaa
open Go.RowKit
set_option linter.unusedVariables false
theorem run_cut_to (A : Option Addr) (len cap m : Nat) (hm : m ≤ cap) (W : World) : (Instr.sliceAt 25 (.slice A len cap) none (some (.int .i64 (m : Int))) none).run Try.prog W = .ok (.slice A m cap) W := by
  obtain ⟨i0, hi0, -, hz1, -⟩ := info_parts u8info
  have hsz : (sizeOf 5).run Try.prog W = .ok 1 W := by simp [sizeOf, typeInfo, hi0, hz1]
  have he : Try.prog.elem 25 = 5 := by kernel_rfl
  rw [run_sliceAt_slice W _ _ _ _ _ (by rw [he]; exact Try.underlying25), run_slice_h W _ _ _ _ (by rw [he]; exact Try.underlying25) _ _ (by omega) (by omega), he, hsz]
  have h0 : A.map (fun x => x.add (0 * 1)) = A := by
    cases A with
    | none => rfl
    | some a =>
      simp only [Option.map_some, Addr.add]
      split <;> simp_all
  simp only [Result.andThen_ok, sliced, h0, ite_self, Int.toNat_natCast, Nat.sub_zero]
theorem name_two {Q : World → Prop} {w : World} {o o2 : Obj} (F : ∀ X : World, X.heap[w.heap.size]? = some o → X.heap[w.heap.size + 1]? = some o2 → Below w.heap.size w X → Q X) : Q ((w.alloc o).alloc o2) := F _ (two_at0 _ _ _) (two_at _ _ _) (two_below _ _ _)
theorem RdB.take {w : World} {B : Nat} {A : Option Addr} {l : List Nat} (h : RdB w B A l) (m : Nat) : RdB w B A (l.take m) :=
  ⟨fun e => by rw [h.none_ e, List.take_nil], fun a e hn => h.low a e (fun e2 => hn (by rw [e2, List.take_nil])), fun a e j x hx => h.cells a e j x (by
    rw [List.getElem?_take] at hx
    split at hx
    · exact hx
    · cases hx)⟩
set_option maxHeartbeats 1000000 in
set_option maxRecDepth 100000 in
theorem tells_walk (n : Int) (b0 b1 b2 b3 b4 b5 b6 b7 b : Nat) (A : Option Addr) (len cap : Nat) (l : List Nat) (w : World) (hn : -9223372036854775808 ≤ n) (hn' : n ≤ 9223372036854775807) (hlt : ∀ x ∈ [b0, b1, b2, b3, b4, b5, b6, b7], x < 256)
    (hl : l.length = len) (hc : len ≤ cap) (hA : RdB w w.heap.size A l) (hll : ∀ x ∈ l, x < 256) :
    Calls Try.prog 3 #[q8 n b0 b1 b2 b3 b4 b5 b6 b7, .int .u8 b, .slice A len cap] w fun e w' => e = .returned (.bool true) ∧ Below w.heap.size w w' := by
  obtain ⟨m, hm, hml⟩ : ∃ m : Nat, (if 20 < (len : Int) then (20 : Int) else (len : Int)) = (m : Int) ∧ m ≤ len := by
    by_cases h : 20 < (len : Int)
    · exact ⟨20, by rw [if_pos h]; rfl, by omega⟩
    · exact ⟨len, by rw [if_neg h], Nat.le_refl _⟩
  have hS := fun W => run_cut_to A len cap m (by omega) W
  obtain ⟨L, hL⟩ : ∃ L, l.take m = L := ⟨_, rfl⟩
  have hLm : L.length = m := by rw [← hL, List.length_take]; omega
  have HL : Hid (RdB w w.heap.size A L) := Lib.hid (by rw [← hL]; exact hA.take m)
  have hL256 : ∀ x ∈ L, x < 256 := fun x hx => hll x (List.mem_of_mem_take (by rw [hL]; exact hx))
  have K1 : Hid (∀ W : World, Calls Try.prog 6 #[qv n [b0, b1, b2, b3, b4, b5, b6, b7], .int .u8 b] W fun e w' => e = .returned (.bool true) ∧ Below W.heap.size W w') := Lib.hid (fun W => alike_any n _ b W rfl hlt hn hn')
  have K2 : Hid (∀ (W : World) (s : Int), -2 ≤ s → s ≤ 9 → Calls Try.prog 6 #[qv s [b0, b1, b2, b3, b4, b5, b6, b7], .int .u8 b] W fun e w' => e = .returned (.bool true) ∧ Below W.heap.size W w') := Lib.hid (fun W s h1 h2 => alike_any s _ b W rfl hlt (by omega) (by omega))
  have K3 : Hid (∀ W : World, Below w.heap.size w W → Calls Try.prog 8 #[.slice A m cap] W fun e w' => e = .returned (ofV L) ∧ Below W.heap.size W w') := Lib.hid (fun W hW => of_any A m cap L W hLm (by omega) ((HL.out.below hW (Nat.le_refl _)).more hW.size))
  have K4 : Hid (∀ W : World, Below w.heap.size w W → Calls Try.prog 9 #[.slice A m cap] W fun e w' => e = .returned (ofV L) ∧ Below W.heap.size W w') := Lib.hid (fun W hW => rOf_any A m cap L W hLm (by omega) ((HL.out.below hW (Nat.le_refl _)).more hW.size))
  have K5 : Hid (∀ W : World, Calls Try.prog 7 #[ofV L] W fun e w' => e = .returned (ofV L) ∧ Below W.heap.size W w') := Lib.hid (fun W => as_any _ _ W (pad_length L))
  have K6 : Hid (∀ W : World, Calls Try.prog 6 #[ofV L, .int .u8 b] W fun e w' => e = .returned (.bool true) ∧ Below W.heap.size W w') := Lib.hid (fun W => alike_any _ _ b W (pad_length L) (pad_lt hL256) (by omega) (by omega))
  have hE : ∀ W : World, (binOp .eql 27 (ofV L) (ofV L)).run Try.prog W = .ok (.bool true) W := fun W => by
    unfold ofV
    rw [run_eql_r W _ _ _ _ (pad_length L) (pad_length L)]
    simp
  have hG : ∀ (x y : Operand) (W : World), (eqGuard .eql 27 x y (ofV L) (ofV L)).run Try.prog W = .ok () W := fun x y W => run_eqGuard_agg W _ _ _ _ _ _ Try.eqGuardType27
  clear hL hLm HL hL256 hlt hl hA hll hc
  go_enter Try.func3, Try.ntmps3
  go_upto_region 4 with (fail)
  all_goals
    obtain ⟨s, hs, hs1, hs2⟩ : ∃ s : Int, n % 256 % 12 - 2 = s ∧ -2 ≤ s ∧ s ≤ 9 := ⟨_, rfl, by omega, by omega⟩
    rw [hs]
    refine name_two (Q := fun X => Code.wp _ _ _ _ X) ?_
    intro wz hq1 hq2 hBz
    have RQ_wz : Hid (QRow wz w.heap.size 24 n [b0, b1, b2, b3, b4, b5, b6, b7]) := Lib.hid hq1
    have RS_wz : Hid (QRow wz (w.heap.size + 1) 24 s [b0, b1, b2, b3, b4, b5, b6, b7]) := Lib.hid hq2
    have BB_wz := Lib.hid hBz
    have BZ_0 : Hid (Below wz.heap.size wz wz) := Lib.hid (Below.refl _ _)
    clear hq1 hq2 hBz hs
    go_wp2_with (first
      | (go_at_call 10; have hc := BZ_7; clear hc; refine (works_any _).mono ?_; rintro e x8 ⟨rfl, hB⟩
         have BZ_8 : Hid (Below wz.heap.size wz x8) := Lib.hid (BZ_7.out.trans (hB.mono BZ_7.out.size))
         clear hB BZ_7)
      | (go_at_call 6; have hc := BZ_6; clear hc; refine (K6.out _).mono ?_; rintro e x7 ⟨rfl, hB⟩
         have BZ_7 : Hid (Below wz.heap.size wz x7) := Lib.hid (BZ_6.out.trans (hB.mono BZ_6.out.size))
         clear hB BZ_6)
      | (go_at_call 8; have hc := BZ_5; clear hc; refine (K3.out _ (BB_wz.out.trans (BZ_5.out.mono BB_wz.out.size))).mono ?_; rintro e x6 ⟨rfl, hB⟩
         have BZ_6 : Hid (Below wz.heap.size wz x6) := Lib.hid (BZ_5.out.trans (hB.mono BZ_5.out.size))
         clear hB BZ_5)
      | (go_at_call 9; have hc := BZ_4; clear hc; refine (K4.out _ (BB_wz.out.trans (BZ_4.out.mono BB_wz.out.size))).mono ?_; rintro e x5 ⟨rfl, hB⟩
         have BZ_5 : Hid (Below wz.heap.size wz x5) := Lib.hid (BZ_4.out.trans (hB.mono BZ_4.out.size))
         clear hB BZ_4)
      | (go_at_call 7; have hc := BZ_3; clear hc; refine (K5.out _).mono ?_; rintro e x4 ⟨rfl, hB⟩
         have BZ_4 : Hid (Below wz.heap.size wz x4) := Lib.hid (BZ_3.out.trans (hB.mono BZ_3.out.size))
         clear hB BZ_3)
      | (go_at_call 8; have hc := BZ_2; clear hc; refine (K3.out _ (BB_wz.out.trans (BZ_2.out.mono BB_wz.out.size))).mono ?_; rintro e x3 ⟨rfl, hB⟩
         have BZ_3 : Hid (Below wz.heap.size wz x3) := Lib.hid (BZ_2.out.trans (hB.mono BZ_2.out.size))
         clear hB BZ_2)
      | (go_at_call 6; have hc := BZ_1; clear hc; refine (K2.out _ s hs1 hs2).mono ?_; rintro e x2 ⟨rfl, hB⟩
         have BZ_2 : Hid (Below wz.heap.size wz x2) := Lib.hid (BZ_1.out.trans (hB.mono BZ_1.out.size))
         clear hB BZ_1)
      | ((with_reducible show wpList _ _ _ (⟨some 25, .load 24 (.tmp 7), _, _, _, _⟩ :: _) _ _); refine wpList_load_w (by kernel_rfl) 24 _ rfl (w.heap.size + 1) (by exact rfl) _ Try.underlying24 (by kernel_rfl) 24 _ _ (QRow.below RS_wz.out BZ_1.out RS_wz.out.lt) (rfl) ?_)
      | (go_at_call 6; have hc := BZ_0; clear hc; refine (K1.out _).mono ?_; rintro e x1 ⟨rfl, hB⟩
         have BZ_1 : Hid (Below wz.heap.size wz x1) := Lib.hid (BZ_0.out.trans (hB.mono BZ_0.out.size))
         clear hB BZ_0)
      | ((with_reducible show wpList _ _ _ (⟨some 21, .load 24 (.tmp 3), _, _, _, _⟩ :: _) _ _); refine wpList_load_w (by kernel_rfl) 24 _ rfl (w.heap.size) (by exact rfl) _ Try.underlying24 (by kernel_rfl) 24 _ _ (QRow.below RQ_wz.out BZ_0.out RQ_wz.out.lt) (rfl) ?_))
    go_ret
    exact ⟨rfl, BB_wz.out.trans (BZ_8.out.mono BB_wz.out.size)⟩
end Go.Proofs.Ytebapciapnebgaa
