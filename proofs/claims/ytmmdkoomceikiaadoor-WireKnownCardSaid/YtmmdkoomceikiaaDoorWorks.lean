/-
  The law's own 'works' by its contract: the chapter's examples: true. Condition: the listed variables hold what they hold.
-/
import Derived.Test.YtmmdkoomceikiaaDoorWrong
import Derived.Laws.IdiomStrings
namespace Go.Proofs.YtmmdkoomceikiaaDoor
open Go.RowKit

/-- Numbers below 256 as a text. -/
def ofB (l : List Nat) : ByteArray := ⟨(l.map UInt8.ofNat).toArray⟩
theorem ofB_size (l : List Nat) : (ofB l).size = l.length := by
  show (l.map UInt8.ofNat).toArray.size = l.length
  simp
/-- string(b), b a slice that reads as bytes. -/
theorem conv_rd (w : World) (B : Nat) (A : Option Addr) (c : Nat) (l : List Nat) (h : RdB w B A l) (hl : ∀ x ∈ l, x < 256) : (convert 43 9 (.slice A l.length c)).run Tryd.prog w = .ok (.string (ofB l)) w := by
  rcases A with _ | a
  · have e := h.none_ rfl
    subst e
    show (convert 43 9 (.slice none 0 c)).run Tryd.prog w = _
    rw [run_convert_bytes_string w 43 9 5 none 0 c Tryd.underlying43 Tryd.underlying5 Tryd.underlying9]
    rfl
  · have hc := run_convert_bytes_back (P := Tryd.prog) w 43 9 5 a c (l.map UInt8.ofNat) Tryd.underlying43 Tryd.underlying5 Tryd.underlying9 (fun j hj => by
      have hj' : j < l.length := by simpa using hj
      rw [h.cells a rfl j l[j] (List.getElem?_eq_getElem hj')]
      have hx := hl l[j] (List.getElem_mem hj')
      simp only [List.getElem_map]
      rw [UInt8.toNat_ofNat_of_lt' hx])
    rw [List.length_map] at hc
    exact hc
theorem conv_own (w : World) (base : Nat) (v : Value) (l : List Nat) (h : Own w base v l) (hl : ∀ x ∈ l, x < 256) : (convert 43 9 v).run Tryd.prog w = .ok (.string (ofB l)) w := by
  obtain ⟨A, cap, rfl, _, _, _, hr, _⟩ := h.form
  exact conv_rd w _ A cap l hr hl
theorem lt_append {l m : List Nat} (hl : ∀ x ∈ l, x < 256) (hm : ∀ x ∈ m, x < 256) : ∀ x ∈ l ++ m, x < 256 := by
  intro x hx
  rcases List.mem_append.1 hx with h | h
  · exact hl x h
  · exact hm x h
theorem sb_lt (s : ByteArray) : ∀ x ∈ sb s, x < 256 := by
  intro x hx
  simp only [sb, List.mem_map] at hx
  obtain ⟨y, _, rfl⟩ := hx
  exact UInt8.toNat_lt _

/-- Behind a call: the slice is the text S; the listed variables are as they were; nothing that was there has changed. -/
structure Told (base : Nat) (w0 w' : World) (v : Value) (S : ByteArray) : Prop where
  conv : (convert 43 9 v).run Tryd.prog w' = .ok (.string S) w'
  below : Below base w0 w'
  laid : Laid w'
theorem P_told (N : Nat) (S : ByteArray) (base : Nat) (w0 w : World) (hb : Below base w0 w) (hbase : base ≤ w.heap.size) (hL : Laid w) (hN : N < 18446744073709551616) (hS : ofB (numB N) = S) :
    Calls Tryd.prog 17 #[.slice none 0 0, .int .u64 N] w fun e w' => ∃ v, e = .returned v ∧ Told base w0 w' v S :=
  (P_any none 0 0 [] N hN w hL rfl (Nat.le_refl _) (RdB.nil_ w _) (Nat.zero_le _)).mono fun e w' ⟨v, he, ho, hb'⟩ =>
    ⟨v, he, by rw [← hS]; exact conv_own w' _ v _ ho (numB_lt N), hb.trans (hb'.mono hbase), hL.below hb' hL.lt⟩
theorem PI_told (N : Int) (S : ByteArray) (base : Nat) (w0 w : World) (hb : Below base w0 w) (hbase : base ≤ w.heap.size) (hL : Laid w) (hN : -9223372036854775808 ≤ N) (hN' : N ≤ 9223372036854775807) (hS : ofB (numB (zig N)) = S) :
    Calls Tryd.prog 19 #[.slice none 0 0, .int .i64 N] w fun e w' => ∃ v, e = .returned v ∧ Told base w0 w' v S :=
  (PI_any none 0 0 [] N hN hN' w hL rfl (Nat.le_refl _) (RdB.nil_ w _) (Nat.zero_le _)).mono fun e w' ⟨v, he, ho, hb'⟩ =>
    ⟨v, he, by rw [← hS]; exact conv_own w' _ v _ ho (numB_lt (zig N)), hb.trans (hb'.mono hbase), hL.below hb' hL.lt⟩
theorem PS_told (s : ByteArray) (S : ByteArray) (base : Nat) (w0 w : World) (hb : Below base w0 w) (hbase : base ≤ w.heap.size) (hL : Laid w) (hs : s.size ≤ 35184372088832) (hS : ofB (numB s.size ++ sb s) = S) :
    Calls Tryd.prog 23 #[.slice none 0 0, .string s] w fun e w' => ∃ v, e = .returned v ∧ Told base w0 w' v S :=
  (PS_any none 0 0 [] s w hL rfl (Nat.le_refl _) (RdB.nil_ w _) (Nat.zero_le _) hs).mono fun e w' ⟨v, he, ho, hb'⟩ =>
    ⟨v, he, by rw [← hS]; exact conv_own w' _ v _ ho (lt_append (numB_lt _) (sb_lt s)), hb.trans (hb'.mono hbase), hL.below hb' hL.lt⟩

/-! ### The chapter's examples -/
set_option maxRecDepth 100000 in
set_option maxHeartbeats 4000000 in
theorem works_any (w : World) (hL : Laid w) : Calls Tryd.prog 16 #[] w fun e w' => e = .returned (.bool true) ∧ Below w.heap.size w w' := by
  have B0 := Lib.hid (Below.refl w.heap.size w)
  have L0 := Lib.hid hL
  clear hL
  go_enter Tryd.func16, Tryd.ntmps16
  go_wp2_with fail
  refine (P_told 0 { data := #[0] } w.heap.size w _ B0.out B0.out.size L0.out (by decide) (by decide)).mono ?_
  rintro e w1 ⟨v1, rfl, hcv, hb, hl⟩
  have B1 := Lib.hid hb
  have L1 := Lib.hid hl
  clear hb hl
  go_wp2_with fail
  clear hcv
  refine (P_told 63 { data := #[63] } w.heap.size w _ B1.out B1.out.size L1.out (by decide) (by decide)).mono ?_
  rintro e w2 ⟨v2, rfl, hcv, hb, hl⟩
  have B2 := Lib.hid hb
  have L2 := Lib.hid hl
  clear hb hl
  go_wp2_with fail
  clear hcv
  refine (P_told 64 { data := #[64, 64] } w.heap.size w _ B2.out B2.out.size L2.out (by decide) (by decide)).mono ?_
  rintro e w3 ⟨v3, rfl, hcv, hb, hl⟩
  have B3 := Lib.hid hb
  have L3 := Lib.hid hl
  clear hb hl
  go_wp2_with fail
  clear hcv
  refine (P_told 16383 { data := #[127, 255] } w.heap.size w _ B3.out B3.out.size L3.out (by decide) (by decide)).mono ?_
  rintro e w4 ⟨v4, rfl, hcv, hb, hl⟩
  have B4 := Lib.hid hb
  have L4 := Lib.hid hl
  clear hb hl
  go_wp2_with fail
  clear hcv
  refine (P_told 16384 { data := #[128, 0, 64, 0] } w.heap.size w _ B4.out B4.out.size L4.out (by decide) (by decide)).mono ?_
  rintro e w5 ⟨v5, rfl, hcv, hb, hl⟩
  have B5 := Lib.hid hb
  have L5 := Lib.hid hl
  clear hb hl
  go_wp2_with fail
  clear hcv
  refine (P_told 1073741824 { data := #[192, 0, 0, 0, 64, 0, 0, 0] } w.heap.size w _ B5.out B5.out.size L5.out (by decide) (by decide)).mono ?_
  rintro e w6 ⟨v6, rfl, hcv, hb, hl⟩
  have B6 := Lib.hid hb
  have L6 := Lib.hid hl
  clear hb hl
  go_wp2_with fail
  clear hcv
  refine (PI_told (0) { data := #[0] } w.heap.size w _ B6.out B6.out.size L6.out (by decide) (by decide) (by decide)).mono ?_
  rintro e w7 ⟨v7, rfl, hcv, hb, hl⟩
  have B7 := Lib.hid hb
  have L7 := Lib.hid hl
  clear hb hl
  go_wp2_with fail
  clear hcv
  refine (PI_told (-1) { data := #[1] } w.heap.size w _ B7.out B7.out.size L7.out (by decide) (by decide) (by decide)).mono ?_
  rintro e w8 ⟨v8, rfl, hcv, hb, hl⟩
  have B8 := Lib.hid hb
  have L8 := Lib.hid hl
  clear hb hl
  go_wp2_with fail
  clear hcv
  refine (PI_told (1) { data := #[2] } w.heap.size w _ B8.out B8.out.size L8.out (by decide) (by decide) (by decide)).mono ?_
  rintro e w9 ⟨v9, rfl, hcv, hb, hl⟩
  have B9 := Lib.hid hb
  have L9 := Lib.hid hl
  clear hb hl
  go_wp2_with fail
  clear hcv
  refine (PI_told (-32) { data := #[63] } w.heap.size w _ B9.out B9.out.size L9.out (by decide) (by decide) (by decide)).mono ?_
  rintro e w10 ⟨v10, rfl, hcv, hb, hl⟩
  have B10 := Lib.hid hb
  have L10 := Lib.hid hl
  clear hb hl
  go_wp2_with fail
  clear hcv
  refine (PI_told (32) { data := #[64, 64] } w.heap.size w _ B10.out B10.out.size L10.out (by decide) (by decide) (by decide)).mono ?_
  rintro e w11 ⟨v11, rfl, hcv, hb, hl⟩
  have B11 := Lib.hid hb
  have L11 := Lib.hid hl
  clear hb hl
  go_wp2_with fail
  clear hcv
  refine (PS_told { data := #[97, 98] } { data := #[2, 97, 98] } w.heap.size w _ B11.out B11.out.size L11.out (by decide) (by decide)).mono ?_
  rintro e w12 ⟨v12, rfl, hcv, hb, hl⟩
  have B12 := Lib.hid hb
  have L12 := Lib.hid hl
  clear hb hl
  go_wp2_with fail
  clear hcv
  refine (wrong_any { data := #[64, 63] } 5 _ L12.out (by decide) (by decide) (by decide) (by decide) (by decide)).mono ?_
  rintro e w13 ⟨rfl, hb⟩
  have B13 := Lib.hid (B12.out.trans (hb.mono B12.out.size))
  have L13 := Lib.hid (L12.out.below hb L12.out.lt)
  clear hb
  go_wp2_with fail
  refine (wrong_any { data := #[64] } 3 _ L13.out (by decide) (by decide) (by decide) (by decide) (by decide)).mono ?_
  rintro e w14 ⟨rfl, hb⟩
  have B14 := Lib.hid (B13.out.trans (hb.mono B13.out.size))
  have L14 := Lib.hid (L13.out.below hb L13.out.lt)
  clear hb
  go_wp2_with fail
  refine (wrong_any { data := #[192, 0] } 3 _ L14.out (by decide) (by decide) (by decide) (by decide) (by decide)).mono ?_
  rintro e w15 ⟨rfl, hb⟩
  have B15 := Lib.hid (B14.out.trans (hb.mono B14.out.size))
  have L15 := Lib.hid (L14.out.below hb L14.out.lt)
  clear hb
  go_wp2
  go_ret
  exact ⟨rfl, B15.out⟩
end Go.Proofs.YtmmdkoomceikiaaDoor
