/-
  The walk of the law WireLays: it answers true and changes nothing that was there. Condition: the listed variables hold what they hold; slice and text are shorter than 2^47 bytes.
-/
import Derived.Test.YtmmdkoomceikiaaDoorRef
import Derived.Deep.RegionHeld
import Derived.Deep.RegionWith
import Derived.Deep.DeepCutAuto
namespace Go.Proofs.YtmmdkoomceikiaaDoor
open Go.RowKit

theorem RdB.take {w : World} {B : Nat} {A : Option Addr} {l : List Nat} (h : RdB w B A l) (m : Nat) : RdB w B A (l.take m) := by
  refine ⟨fun ha => by rw [h.none_ ha]; simp, fun a ha hl => h.low a ha (fun e => hl (by rw [e]; simp)), fun a ha j x hx => h.cells a ha j x ?_⟩
  rw [List.getElem?_take] at hx
  split at hx
  · exact hx
  · cases hx
theorem same_bool (X Y : List UInt8) (h : X = Y) : (Value.bool !(X == Y)) = .bool false := by subst h; simp
theorem wrap64_eq (x : Int) : IntKind.i64.wrap x = wrap64 x := by rw [IntKind.wrap_i64, wrap64]
theorem wrap_lo (x : Int) : -9223372036854775808 ≤ IntKind.i64.wrap x := by rw [IntKind.wrap_i64]; omega
theorem wrap_hi (x : Int) : IntKind.i64.wrap x ≤ 9223372036854775807 := by rw [IntKind.wrap_i64]; omega
/-- What the first statement leaves: at most fifty bytes of the slice, at most two hundred of the text. -/
structure LaysCut (w : World) (A : Option Addr) (c : Nat) (l : List Nat) (s0 s2 : Value) (m : Nat) (t : ByteArray) : Prop where
  e0 : s0 = .slice A m c
  e2 : s2 = .string t
  hl : (l.take m).length = m
  hm : m ≤ 50
  hmc : m ≤ c
  ht : t.size ≤ 200
set_option maxRecDepth 100000 in
set_option maxHeartbeats 80000000 in
theorem lays_any (A : Option Addr) (n c N : Nat) (l : List Nat) (s : ByteArray) (w : World) (hL : Laid w) (hl : l.length = n) (hA : RdB w w.heap.size A l) (hlt : ∀ x ∈ l, x < 256) (hn : n ≤ c) (hc : c ≤ 9223372036854775807) (hs : s.size ≤ 9223372036854775807) (hN : N < 18446744073709551616) :
    Calls Tryd.prog 4 #[.slice A n c, .int .u64 N, .string s] w fun e w' => e = .returned (.bool true) ∧ Below w.heap.size w w' := by
  have HL := Lib.hid hL
  have HLL := Lib.hid hl
  have HA := Lib.hid hA
  have HLT := Lib.hid hlt
  clear hL hl hA hlt
  go_enter Tryd.func4, Tryd.ntmps4
  go_upto_region 1 with fail
  go_cut [0, 2] (fun s0 s2 wx => ∃ (m : Nat) (t : ByteArray) (W : World), W = wx ∧ LaysCut w A c l s0 s2 m t ∧ Below w.heap.size w W)
  case first =>
    by_cases h1 : n ≤ 50 <;> by_cases h2 : s.size ≤ 200
    all_goals go_region
    all_goals go_wp2_with fail
    all_goals go_meet
    · exact ⟨n, s, _, rfl, ⟨rfl, rfl, by rw [List.length_take, HLL.out]; omega, by omega, by omega, by omega⟩, (Below.refl _ _).drew⟩
    · exact ⟨n, s.extract 0 200, _, rfl, ⟨rfl, rfl, by rw [List.length_take, HLL.out]; omega, by omega, by omega, by rw [ByteArray.size_extract]; omega⟩, (Below.refl _ _).drew⟩
    · exact ⟨50, s, _, rfl, ⟨rfl, rfl, by rw [List.length_take, HLL.out]; omega, by omega, by omega, by omega⟩, (Below.refl _ _).drew⟩
    · exact ⟨50, s.extract 0 200, _, rfl, ⟨rfl, rfl, by rw [List.length_take, HLL.out]; omega, by omega, by omega, by rw [ByteArray.size_extract]; omega⟩, (Below.refl _ _).drew⟩
  case rest =>
    obtain ⟨m, t, wx, rfl, ⟨rfl, rfl, hlm, hm, hmc, ht⟩, hbx⟩ := hcut
    have hAm := ((HA.out.below hbx (Nat.le_refl _)).more hbx.size).take m
    have hltm : ∀ x ∈ l.take m, x < 256 := fun x hx => HLT.out x (List.mem_of_mem_take hx)
    have hLx := HL.out.below hbx HL.out.lt
    clear HA HLT HLL
    generalize l.take m = L at *
    have HB := Lib.hid hbx
    have HAm := Lib.hid hAm
    have HLM := Lib.hid hlm
    have HTM := Lib.hid hltm
    have HLx := Lib.hid hLx
    have hcv := conv_rd wx _ A c L hAm hltm
    rw [hlm] at hcv
    clear hbx hAm hlm hltm hLx
    go_wp2_with fail
    go_loopw [8] (fun i wr => ∃ k : Nat, k ≤ 8 ∧ i = .int .i64 ((k * 9 : Nat) : Int) ∧ Below w.heap.size w wr ∧ Below wx.heap.size wx wr) (fun i _ => 80 - (intOf i).toNat)
    case atStart => exact ⟨0, by omega, rfl, HB.out, Below.refl _ _⟩
    case round =>
      obtain ⟨k, hk, rfl, hbw, hbx⟩ := hrel
      have HBw := Lib.hid hbw
      have HBx := Lib.hid hbx
      clear hbw hbx
      by_cases hlt : k < 8
      · have hMM : (N : Int) / 2 ^ (k * 9) = ((N / 2 ^ (k * 9) : Nat) : Int) := by simp
        have hM64 : N / 2 ^ (k * 9) < 18446744073709551616 := Nat.lt_of_le_of_lt (Nat.div_le_self _ _) hN
        go_wp2
        rw [hMM]
        clear hMM hcv
        generalize N / 2 ^ (k * 9) = M at *
        have Bw := Lib.hid HBw.out.drew
        have Lw := Lib.hid (HLx.out.below HBx.out.drew HLx.out.lt)
        have Rw := Lib.hid ((HAm.out.below HBx.out.drew (Nat.le_refl _)).more HBx.out.drew.size)
        have Bx := Lib.hid HBx.out.drew
        have s1 : (ofB L).size = m := by rw [ofB_size, HLM.out]
        have s2 : (ofB (numB M)).size ≤ 8 := by rw [ofB_size]; exact (length_numB_bd M).2
        have ha := fun x => ofB_append L x
        have s3 : (ofB (numB (zig (IntKind.i64.wrap (M : Int))))).size ≤ 8 := by rw [ofB_size]; exact (length_numB_bd _).2
        have q1 : ((ofB (L ++ numB M)).toList == (ofB (L ++ numB M)).toList) = true := by simp
        have q2 : ((ofB (L ++ numB (zig (IntKind.i64.wrap (M : Int))))).toList == (ofB (L ++ numB (zig (IntKind.i64.wrap (M : Int))))).toList) = true := by simp
        go_cut [50] from 22 to 50 (fun s50 wq => s50 = .bool false ∧ ∃ W : World, W = wq ∧ Below w.heap.size w W ∧ Below wx.heap.size wx W)
        case first =>
         go_region_held (fun _ => True) (trivial) (first
            | (go_at_call 17; refine (P_any A m c L M hM64 _ Lw.out HLM.out hmc Rw.out (by omega)).mono ?_; rintro e w1 ⟨v1, rfl, ho, hb⟩; have cv1 := conv_own w1 _ v1 _ ho (lt_append HTM.out (numB_lt M)); have O1 := Lib.hid ho; have Bw1 := Lib.hid (Bw.out.trans (hb.mono Bw.out.size)); have Bx1 := Lib.hid (Bx.out.trans (hb.mono Bx.out.size)); have Lw1 := Lib.hid (Lw.out.below hb Lw.out.lt); have Rw1 := Lib.hid ((Rw.out.below hb (Nat.le_refl _)).more hb.size); clear ho hb)
            | (go_at_call 18; refine (Num_any M hM64 _).mono ?_; rintro e w2 ⟨rfl, hb⟩; have cv1' := conv_own w2 _ v1 _ (O1.out.below hb (Nat.le_refl _)) (lt_append HTM.out (numB_lt M)); have Bw2 := Lib.hid (Bw1.out.trans (hb.mono Bw1.out.size)); have Bx2 := Lib.hid (Bx1.out.trans (hb.mono Bx1.out.size)); have Lw2 := Lib.hid (Lw1.out.below hb Lw1.out.lt); have Rw2 := Lib.hid ((Rw1.out.below hb (Nat.le_refl _)).more hb.size); clear hb)
            | (go_at_call 19; refine (PI_any A m c L (IntKind.i64.wrap (M : Int)) (wrap_lo _) (wrap_hi _) _ Lw2.out HLM.out hmc Rw2.out (by omega)).mono ?_; rintro e w3 ⟨v3, rfl, ho, hb⟩; have cv3 := conv_own w3 _ v3 _ ho (lt_append HTM.out (numB_lt (zig (IntKind.i64.wrap (M : Int))))); have O3 := Lib.hid ho; have Bw3 := Lib.hid (Bw2.out.trans (hb.mono Bw2.out.size)); have Bx3 := Lib.hid (Bx2.out.trans (hb.mono Bx2.out.size)); clear ho hb)
            | (go_at_call 20; refine (Int_any (IntKind.i64.wrap (M : Int)) (wrap_lo _) (wrap_hi _) _).mono ?_; rintro e w4 ⟨rfl, hb⟩; have cv3' := conv_own w4 _ v3 _ (O3.out.below hb (Nat.le_refl _)) (lt_append HTM.out (numB_lt (zig (IntKind.i64.wrap (M : Int))))); have Bw4 := Lib.hid (Bw3.out.trans (hb.mono Bw3.out.size)); have Bx4 := Lib.hid (Bx3.out.trans (hb.mono Bx3.out.size)); clear hb))
         all_goals go_wp2_with fail
         all_goals go_meet
         all_goals exact ⟨by first | rfl | exact same_bool _ _ (by rw [wrap64_eq]), _, rfl, Bw4.out, Bx4.out⟩
        case rest =>
         obtain ⟨rfl, W, rfl, hbw, hbx⟩ := hcut
         have Bw4 := Lib.hid hbw
         have Bx4 := Lib.hid hbx
         clear hbw hbx
         go_wp2
         go_roundw
         case rel => exact ⟨k + 1, by omega, by first | go_num | (congr 1; omega), Bw4.out, Bx4.out⟩
         case measure => simp [intOf]; omega
      · obtain rfl : k = 8 := by omega
        clear hcv hlt
        have Bw := Lib.hid HBw.out.drew
        have Lw := Lib.hid (HLx.out.below HBx.out.drew HLx.out.lt)
        have Rw := Lib.hid ((HAm.out.below HBx.out.drew (Nat.le_refl _)).more HBx.out.drew.size)
        have s1 : (ofB L).size = m := by rw [ofB_size, HLM.out]
        obtain ⟨tb, htb⟩ : ∃ tb, ((N : Int).tmod 2 == 1) = tb := ⟨_, rfl⟩
        have s2 : (ofB (truB tb)).size ≤ 1 := by rw [ofB_size]; cases tb <;> decide
        have s3 : (ofB (numB t.size ++ sb t)).size ≤ 208 := by rw [ofB_size, List.length_append, length_sb]; have := (length_numB_bd t.size).2; omega
        have ha := fun x => ofB_append L x
        have q1 : ((ofB (L ++ truB tb)).toList == (ofB (L ++ truB tb)).toList) = true := by simp
        have q2 : ((ofB (L ++ (numB t.size ++ sb t))).toList == (ofB (L ++ (numB t.size ++ sb t))).toList) = true := by simp
        have q3 : ((ofB L).toList == (ofB L).toList) = true := by simp
        have htl : ∀ x ∈ truB tb, x < 256 := by cases tb <;> decide
        have HTL := Lib.hid htl
        clear htl
        go_wp2
        go_region_held (fun _ => True) (trivial) (first
            | (go_at_call 21; refine (PT_any A m c L tb _ HLM.out hmc Rw.out (by omega)).mono ?_; rintro e w1 ⟨v1, rfl, ho, hb⟩; have cv1 := conv_own w1 _ v1 _ ho (lt_append HTM.out HTL.out); have Bw1 := Lib.hid (Bw.out.trans (hb.mono Bw.out.size)); have Lw1 := Lib.hid (Lw.out.below hb Lw.out.lt); have Rw1 := Lib.hid ((Rw.out.below hb (Nat.le_refl _)).more hb.size); clear ho hb)
            | (go_at_call 22; refine (Truth_any tb _).mono ?_; rintro e w' ⟨rfl, rfl⟩)
            | (go_at_call 23; refine (PS_any A m c L t _ Lw1.out HLM.out hmc Rw1.out (by omega) (by omega)).mono ?_; rintro e w3 ⟨v3, rfl, ho, hb⟩; have cv3 := conv_own w3 _ v3 _ ho (lt_append HTM.out (lt_append (numB_lt _) (sb_lt t))); have O3 := Lib.hid ho; have Bw3 := Lib.hid (Bw1.out.trans (hb.mono Bw1.out.size)); have Lw3 := Lib.hid (Lw1.out.below hb Lw1.out.lt); have Rw3 := Lib.hid ((Rw1.out.below hb (Nat.le_refl _)).more hb.size); clear ho hb)
            | (go_at_call 24; refine (Text_any t (by omega) _).mono ?_; rintro e w4 ⟨rfl, hb⟩; have cv3' := conv_own w4 _ v3 _ (O3.out.below hb (Nat.le_refl _)) (lt_append HTM.out (lt_append (numB_lt _) (sb_lt t))); have Bw4 := Lib.hid (Bw3.out.trans (hb.mono Bw3.out.size)); have Lw4 := Lib.hid (Lw3.out.below hb Lw3.out.lt); have Rw4 := Rw3.out.below hb (Nat.le_refl _); have cv4 := conv_rd w4 _ A c L Rw4 HTM.out; rw [HLM.out] at cv4; clear Rw4 hb)
            | (go_at_call 16; refine (works_any _ Lw4.out).mono ?_; rintro e w5 ⟨rfl, hb⟩; have Bw5 := Lib.hid (Bw4.out.trans (hb.mono Bw4.out.size)); clear hb))
        all_goals (go_wp2; go_ret; exact ⟨rfl, Bw5.out⟩)
end Go.Proofs.YtmmdkoomceikiaaDoor
