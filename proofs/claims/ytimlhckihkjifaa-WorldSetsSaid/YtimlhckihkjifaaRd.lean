/-
  The document's Upto by its contract. Made by wip/genworldref.py.
-/
import Derived.Test.YtimlhckihkjifaaRc
namespace Go.Proofs.Ytimlhckihkjifaa
open Go.RowKit
set_option linter.unusedVariables false
set_option linter.unusedSimpArgs false
/-- A slice that reads as the list. -/
def Out (e : Ending) (W : World) (l : List In) : Prop := ∃ A cap, e = .returned (.slice A l.length cap) ∧ Rd W W.heap.size A l
def UptoC (f : Nat) : Prop := ∀ (A : Option Addr) (cap B : Nat) (l : List In) (c : Int) (W : World), Rd W B A l → B ≤ W.heap.size → l.length ≤ 1000 → -9223372036854775808 ≤ c → c ≤ 9223372036854775807 → Calls Try.prog f #[.slice A l.length cap, .int .i64 c] W fun e w' => Out e w' (uptoL l c) ∧ Below W.heap.size W w'
theorem filter_on (p : In → Bool) {l : List In} {k : Nat} {x : In} (hx : l[k]? = some x) (acc : List In) (h : acc ++ (l.drop k).filter p = l.filter p) : (if p x = true then acc ++ [x] else acc) ++ (l.drop (k + 1)).filter p = l.filter p := by
  rw [← h, drop_at l k x hx, List.filter_cons]
  split <;> simp
theorem filter_ok {p : In → Bool} {l : List In} (h : ∀ x ∈ l, x.ok) : ∀ x ∈ l.filter p, x.ok := fun x hx => h x (List.mem_filter.1 hx).1
set_option maxHeartbeats 4000000 in
set_option maxRecDepth 100000 in
theorem rUpto_any : UptoC 24 := by
  intro A cap B l c w hr hB hlen h0 h1
  have HR := Lib.hid hr
  have HBW := Lib.hid hB
  have HL := Lib.hid hlen
  clear hr hB
  obtain ⟨i0, hi0, hz0, hz1, hz2⟩ := info_parts ininfo
  have H9 := Lib.hid hz0
  have H10 := Lib.hid hz1
  have H11 := Lib.hid hz2
  have H12 := Lib.hid hi0
  clear hz0 hz1 hz2 hi0
  go_enter Try.func24, Try.ntmps24
  go_wp2_with fail
  go_loopw [5, 6] (fun ov iv wr => ∃ (k : Nat) (out : List In), k ≤ l.length ∧ iv = .int .i64 (k : Int) ∧ out ++ (l.drop k).filter (fun x => decide (x.a ≤ c)) = l.filter (fun x => decide (x.a ≤ c)) ∧ out.length ≤ k ∧ OwnI wr w.heap.size ov out ∧ Below w.heap.size w wr) (fun _ iv _ => l.length - (intOf iv).toNat)
  case atStart => exact ⟨0, [], by omega, rfl, rfl, by simp, OwnI.nil _ _, Below.refl _ _⟩
  case round =>
    obtain ⟨k, out, hk, rfl, hf, ho, q1, q2⟩ := hrel
    obtain ⟨u, hu⟩ : ∃ W, wr = W := ⟨_, rfl⟩
    rw [hu] at q1 q2 ⊢
    have OW_u := Lib.hid q1
    have BB_u := Lib.hid q2
    have HF := Lib.hid hf
    have HO := Lib.hid ho
    clear q2 hf hu ho
    obtain ⟨oA, ocap, rfl⟩ := q1.form
    clear q1
    by_cases hlt : k < l.length
    · obtain ⟨x, hx⟩ : ∃ x, l[k]? = some x := ⟨l[k], List.getElem?_eq_getElem hlt⟩
      obtain ⟨a, hA, hab, hok, hcc, hc0, hc1, hc2⟩ := (HR.out.below BB_u.out HBW.out).get hx
      subst hA
      have HC : Hid (CellsA u (a.add (k * 3)) [.int .i64 x.a, .int .i64 x.k, .int .u8 (x.v : Int)]) := Lib.hid hcc
      have d1 : (k : Int) < (l.length : Int) := by omega
      have hST := filter_on (fun x => decide (x.a ≤ c)) hx out HF.out
      have HLT := Lib.hid (And.intro hlt HO.out)
      clear hx hcc hok hlt hab
      by_cases hle : x.a ≤ c
      · have HST : Hid ((out ++ [x]) ++ (l.drop (k + 1)).filter (fun x => decide (x.a ≤ c)) = l.filter (fun x => decide (x.a ≤ c))) := Lib.hid (by simpa [hle] using hST)
        clear hST
        go_wp2_with (first
          | (at_builtin; (with_reducible show wpList _ _ _ (⟨some 26, _, _, _, _, _⟩ :: _) _ _); go_must (refine wpList_append_blk _ rfl (.tmp 20) (.tmp 25) 22 rfl (w.heap.size) 25 i0 _ 3 24 Try.underlying22 H12.out H9.out H10.out H11.out rfl (by omega) (.slice oA out.length ocap) (out).length ((out).flatMap ic) rfl (OW_u.out.below ((Below.refl u.heap.size u).alloc (Nat.le_refl _) _) (Nat.le_refl _)) ⟨u.heap.size, 0, none⟩ 1 1 (ic x) rfl rfl (news_in u x _ rfl) (ic_one x) (by simp only [maxLen]; have := HLT.out.1; have := HLT.out.2; have := HL.out; omega) (by have := HLT.out.1; have := HLT.out.2; have := HL.out; omega) (Nat.le_trans BB_u.out.size (by simp)) ?_); intro v3 w3 hown hgrow hblk; have OW_3 : Hid (OwnI w3 (w.heap.size) v3 (out ++ [x])) := Lib.hid (OwnI.snoc hown); have BB_3 : Hid (Below w.heap.size w w3) := Lib.hid (below_gb (BB_u.out.alloc BB_u.out.size _) hgrow (Nat.le_trans BB_u.out.size (by simp)) (fun b hb => (World.ownsRow.lt OW_u.out b hb).1)); clear hown hgrow hblk)
          | ((with_reducible show wpList _ _ _ (⟨some 24, .load 25 (.tmp 23), _, _, _, _⟩ :: _) _ _); refine wpList_load_addr rfl 25 _ rfl (a.add (k * 3)) rfl _ _ HC.out Try.underlying25 rfl (by kernel_rfl) ?_))
        go_roundw
        case rel => exact ⟨k + 1, out ++ [x], by have := HLT.out.1; omega, by go_num, HST.out, by have := HLT.out.2; simp; omega, OW_3.out, BB_3.out⟩
        case measure =>
          simp [intOf]
          have := HLT.out.1
          (try omega)
      · have HST : Hid (out ++ (l.drop (k + 1)).filter (fun x => decide (x.a ≤ c)) = l.filter (fun x => decide (x.a ≤ c))) := Lib.hid (by simpa [hle] using hST)
        clear hST
        go_wp2_with fail
        go_roundw
        case rel => exact ⟨k + 1, out, by have := HLT.out.1; omega, by go_num, HST.out, by have := HLT.out.2; omega, OW_u.out, BB_u.out⟩
        case measure =>
          simp [intOf]
          have := HLT.out.1
          (try omega)
    · obtain rfl : k = l.length := by omega
      have d1 : ¬ (l.length : Int) < (l.length : Int) := by omega
      have HE : Hid (out = uptoL l c) := Lib.hid (by have := HF.out; rw [List.drop_length] at this; simpa [uptoL] using this)
      clear hlt hk
      go_wp2_with fail
      refine bodyPost_ret (v := .slice oA out.length ocap) (results_tmp Try.results24 _ _ _) rfl ⟨?_, BB_u.out⟩
      obtain ⟨A', cap', e, hrd⟩ := OW_u.out.rd (by have := HO.out; omega) (by rw [HE.out]; exact filter_ok HR.out.ok)
      rw [← HE.out]
      exact ⟨A', cap', by rw [← e], hrd⟩
end Go.Proofs.Ytimlhckihkjifaa
