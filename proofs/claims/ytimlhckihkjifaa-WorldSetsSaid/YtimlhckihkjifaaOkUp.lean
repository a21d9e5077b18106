/-
  The program's Upto by its contract. Made by wip/genworldok2.py.
-/
import Derived.Test.YtimlhckihkjifaaOkChk
namespace Go.Proofs.Ytimlhckihkjifaa
open Go.RowKit
set_option linter.unusedVariables false
set_option linter.unusedSimpArgs false
set_option maxHeartbeats 4000000 in
set_option maxRecDepth 100000 in
theorem upto_own (A : Option Addr) (cap B : Nat) (l : List In) (c : Int) (w : World) (hr : Rd w B A l) (hB : B ≤ w.heap.size) (hlen : l.length ≤ 1000) (h0 : -9223372036854775808 ≤ c) (h1 : c ≤ 9223372036854775807) :
    Calls Try.prog 19 #[.slice A l.length cap, .int .i64 c] w fun e w' => (∃ v, e = .returned v ∧ OwnI w' w.heap.size v (uptoL l c)) ∧ Below w.heap.size w w' := by
  have HR := Lib.hid hr
  have HBW := Lib.hid hB
  have HL := Lib.hid hlen
  clear hr hB
  obtain ⟨i0, hi0, hz0, hz1, hz2⟩ := info_parts ininfo
  have H9 := Lib.hid hz0
  have H10 := Lib.hid hz1
  have H11 := Lib.hid hz2
  have H12 := Lib.hid hi0
  clear hz0 hz1 hz2 hi0
  go_enter Try.func19, Try.ntmps19
  go_wp2_with fail
  go_loopw [5, 10] (fun ov iv wr => ∃ (k : Nat) (out : List In), k ≤ l.length ∧ iv = .int .i64 (k : Int) ∧ out ++ (l.drop k).filter (fun x => decide (x.a ≤ c)) = l.filter (fun x => decide (x.a ≤ c)) ∧ out.length ≤ k ∧ OwnI wr w.heap.size ov out ∧ Below w.heap.size w wr) (fun _ iv _ => l.length - (intOf iv).toNat)
  case atStart => exact ⟨0, [], by omega, rfl, rfl, by simp, OwnI.nil _ _, Below.refl _ _⟩
  case round =>
    obtain ⟨k, out, hk, rfl, hf, ho, q1, q2⟩ := hrel
    obtain ⟨u, hu⟩ : ∃ W, wr = W := ⟨_, rfl⟩
    rw [hu] at q1 q2 ⊢
    have OW_u := Lib.hid q1
    have BB_u := Lib.hid q2
    have HF := Lib.hid hf
    have HO := Lib.hid ho
    clear q2 hf hu ho
    obtain ⟨oA, ocap, rfl⟩ := q1.form
    clear q1
    by_cases hlt : k < l.length
    · obtain ⟨x, hx⟩ : ∃ x, l[k]? = some x := ⟨l[k], List.getElem?_eq_getElem hlt⟩
      obtain ⟨a, hA, hab, hok, hcc, _⟩ := (HR.out.below BB_u.out HBW.out).get hx
      subst hA
      have HC : Hid (CellsA u (a.add (k * 3)) [.int .i64 x.a, .int .i64 x.k, .int .u8 (x.v : Int)]) := Lib.hid hcc
      have d1 : (k : Int) < (l.length : Int) := by omega
      have hST := filter_on (fun x => decide (x.a ≤ c)) hx out HF.out
      have HLT := Lib.hid (And.intro hlt HO.out)
      clear hx hcc hok hlt hab
      go_upto_region 5 with (first
      | ((with_reducible show wpList _ _ _ (⟨none, .store 25 (.tmp 7) (.tmp 13), _, _, _, _⟩ :: _) _ _); refine wpList_store_v rfl 25 _ _ rfl u.heap.size (by exact rfl) (ic x) (by exact rfl) (by kernel_rfl) (ic_one x) 25 [.int .i64 0, .int .i64 0, .int .u8 0] (alloc_at _ _) rfl ?_; intro W1 HN HO HB; have RX : Hid (IRow W1 u.heap.size x) := HN; have BU1 : Hid (Below u.heap.size u W1) := Lib.hid (((Below.refl u.heap.size u).alloc (Nat.le_refl _) _).trans HB.out); have OW_1 : Hid (OwnI W1 w.heap.size (.slice oA out.length ocap) out) := Lib.hid (OW_u.out.below BU1.out (Nat.le_refl _)); have BB_1 : Hid (Below w.heap.size w W1) := Lib.hid (BB_u.out.trans (BU1.out.mono BB_u.out.size)); clear HN HO HB)
      | ((with_reducible show wpList _ _ _ (⟨some 13, .load 25 (.tmp 12), _, _, _, _⟩ :: _) _ _); refine wpList_load_addr rfl 25 _ rfl (a.add (k * 3)) rfl _ _ HC.out Try.underlying25 rfl (by kernel_rfl) ?_))
      have c0 := RX.out.c0
      by_cases hle : x.a ≤ c
      · have HST : Hid ((out ++ [x]) ++ (l.drop (k + 1)).filter (fun x => decide (x.a ≤ c)) = l.filter (fun x => decide (x.a ≤ c))) := Lib.hid (by simpa [hle] using hST)
        clear hST
        go_wp2_with (first
          | (at_builtin; (with_reducible show wpList _ _ _ (⟨some 21, _, _, _, _, _⟩ :: _) _ _); go_must (refine wpList_append_blk _ rfl (.tmp 18) (.tmp 20) 22 rfl (w.heap.size) 25 i0 _ 3 24 Try.underlying22 H12.out H9.out H10.out H11.out rfl (by omega) (.slice oA out.length ocap) (out).length ((out).flatMap ic) rfl (OW_1.out.below ((Below.refl W1.heap.size W1).alloc (Nat.le_refl _) _) (Nat.le_refl _)) ⟨W1.heap.size, 0, none⟩ 1 1 (ic x) rfl rfl (news_in W1 x _ rfl) (ic_one x) (by simp only [maxLen]; have := HLT.out.1; have := HLT.out.2; have := HL.out; omega) (by have := HLT.out.1; have := HLT.out.2; have := HL.out; omega) (Nat.le_trans BB_1.out.size (by simp)) ?_); intro v3 w3 hown hgrow hblk; have OW_3 : Hid (OwnI w3 (w.heap.size) v3 (out ++ [x])) := Lib.hid (OwnI.snoc hown); have BB_3 : Hid (Below w.heap.size w w3) := Lib.hid (below_gb (BB_1.out.alloc BB_1.out.size _) hgrow (Nat.le_trans BB_1.out.size (by simp)) (fun b hb => (World.ownsRow.lt OW_1.out b hb).1)); clear hown hgrow hblk)
          | ((with_reducible show wpList _ _ _ (⟨some 19, .load 25 (.tmp 7), _, _, _, _⟩ :: _) _ _); refine wpList_load_v (by rfl) 25 _ rfl u.heap.size (by exact rfl) _ Try.underlying25 25 [.int .i64 x.a, .int .i64 x.k, .int .u8 (x.v : Int)] RX.out (by kernel_rfl) ?_))
        go_roundw
        case rel => exact ⟨k + 1, out ++ [x], by have := HLT.out.1; omega, by go_num, HST.out, by have := HLT.out.2; simp; omega, OW_3.out, BB_3.out⟩
        case measure =>
          simp [intOf]
          have := HLT.out.1
          (try omega)
      · have HST : Hid (out ++ (l.drop (k + 1)).filter (fun x => decide (x.a ≤ c)) = l.filter (fun x => decide (x.a ≤ c))) := Lib.hid (by simpa [hle] using hST)
        clear hST
        go_wp2_with fail
        go_roundw
        case rel => exact ⟨k + 1, out, by have := HLT.out.1; omega, by go_num, HST.out, by have := HLT.out.2; omega, OW_1.out, BB_1.out⟩
        case measure =>
          simp [intOf]
          have := HLT.out.1
          (try omega)
    · obtain rfl : k = l.length := by omega
      have d1 : ¬ (l.length : Int) < (l.length : Int) := by omega
      have HE : Hid (out = uptoL l c) := Lib.hid (by have := HF.out; rw [List.drop_length] at this; simpa [uptoL] using this)
      clear hlt hk
      go_wp2_with fail
      exact bodyPost_ret (v := .slice oA out.length ocap) (results_tmp Try.results19 _ _ _) rfl ⟨⟨_, rfl, by rw [← HE.out]; exact OW_u.out⟩, BB_u.out⟩
theorem upto_len (l : List In) (c : Int) : (uptoL l c).length ≤ l.length := List.length_filter_le _ _
theorem upto_any : UptoC 19 := by
  intro A cap B l c W hr hB hlen h0 h1
  refine (upto_own A cap B l c W hr hB hlen h0 h1).mono ?_
  rintro e w' ⟨⟨v, rfl, ho⟩, hb⟩
  have := upto_len l c
  obtain ⟨A', cap', rfl, hrd⟩ := ho.rd (by omega) (filter_ok hr.ok)
  exact ⟨⟨A', cap', rfl, hrd⟩, hb⟩
end Go.Proofs.Ytimlhckihkjifaa
