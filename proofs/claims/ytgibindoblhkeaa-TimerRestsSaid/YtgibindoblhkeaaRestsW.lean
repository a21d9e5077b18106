/-
  TimerRests' walk, if the program's functions are what they must be: true. Made by wip/gentimerrests.py.
-/
import Derived.Test.YtgibindoblhkeaaRestsM
namespace Go.Proofs.Ytgibindoblhkeaa
open Go.RowKit
set_option linter.unusedVariables false
set_option maxHeartbeats 8000000 in
set_option maxRecDepth 100000 in
theorem rests_walk (H : TimerOk) (l n : Tm) (v : Int) (w : World) (hl : l.ok) (hn : n.ok) (hv0 : -2147483648 ≤ v) (hv1 : v ≤ 2147483647) :
    Calls Try.prog 6 #[tv l, .int .i32 v, tv n] w fun e w' => e = .returned (.bool true) ∧ Below w.heap.size w w' := by
  have KW := Lib.hid (works_any H)
  have HL := Lib.hid hl
  have HN := Lib.hid hn
  unfold tv
  go_enter Try.func6, Try.ntmps6
  go_upto_region 1 with (fail)
  refine name_two (Q := fun X => Code.wp _ _ _ _ X) ?_
  intro w0 hq1 hq2 hB0
  have RL_w0 : Hid (TRow w0 w.heap.size 46 l) := Lib.hid hq1
  have RN_w0 : Hid (TRow w0 (w.heap.size + 1) 46 n) := Lib.hid hq2
  have BB_w0 : Hid (Below w.heap.size w w0) := Lib.hid hB0
  clear hq1 hq2 hB0
  obtain ⟨gl, hgl⟩ : ∃ g, w.heap.size = g := ⟨_, rfl⟩
  obtain ⟨gn, hgn⟩ : ∃ g, w.heap.size + 1 = g := ⟨_, rfl⟩
  rw [hgn] at RN_w0 ⊢
  rw [hgl] at RL_w0 ⊢
  clear hgl hgn
  go_wp2_with (first
      | ((with_reducible show wpList _ _ _ (⟨none, .store 25 (.tmp 7) (.tmp 38), _, _, _, _⟩ :: _) _ _); refine wpList_store_t (u := l) rfl 25 _ _ rfl (w1.heap.size) (by exact rfl) (by exact rfl) (by kernel_rfl) 25 (show TRow _ _ _ ⟨0, 0, 0⟩ from alloc_at _ _) ?_; intro w2 HN HO HB
         have RL_w2 : Hid (TRow w2 (gl) 46 (l)) := Lib.hid (TRow.other (TRow.below RL_w1.out ((Below.refl _ _).alloc (Nat.le_refl _) _) RL_w1.out.lt) HO.out (Nat.ne_of_lt RL_w1.out.lt))
         have RN_w2 : Hid (TRow w2 (gn) 46 (n)) := Lib.hid (TRow.other (TRow.below RN_w1.out ((Below.refl _ _).alloc (Nat.le_refl _) _) RN_w1.out.lt) HO.out (Nat.ne_of_lt RN_w1.out.lt))
         have RT_w2 : Hid (TRow w2 w1.heap.size 25 (l)) := HN
         have BB_w2 : Hid (Below w.heap.size w w2) := Lib.hid ((BB_w1.out.alloc BB_w1.out.size _).trans (HB.out.mono BB_w1.out.size))
         clear q0 q1 q2
         clear HO HB HN RL_w1 RN_w1 BB_w1)
      | (go_at_call 17; have hc := BB_w0; clear hc; refine (KW.out _).mono ?_; rintro e w1 ⟨rfl, hB⟩
         have RL_w1 : Hid (TRow w1 (gl) 46 (l)) := Lib.hid (TRow.below RL_w0.out hB RL_w0.out.lt)
         have RN_w1 : Hid (TRow w1 (gn) 46 (n)) := Lib.hid (TRow.below RN_w0.out hB RN_w0.out.lt)
         have BB_w1 : Hid (Below w.heap.size w w1) := Lib.hid (BB_w0.out.trans (hB.mono BB_w0.out.size))
         have q0 := RL_w1.out.c0
         have q1 := RL_w1.out.c1
         have q2 := RL_w1.out.c2
         clear hB RL_w0 RN_w0 BB_w0))
  generalize w1.heap.size = gt at *
  go_loopw [8] (fun iv wr => ∃ i : Nat, i ≤ 3 ∧ iv = .int .i64 i ∧ TRow wr gt 25 l ∧ TRow wr gn 46 n ∧ Below w.heap.size w wr) (fun iv _ => 3 - (intOf iv).toNat)
  case atStart => exact ⟨0, by omega, rfl, RT_w2.out, RN_w2.out, BB_w2.out⟩
  case round =>
    clear RT_w2 RN_w2 BB_w2 RL_w2
    obtain ⟨i, hi, rfl, ht, hnr, hb⟩ := hrel
    have RT_wr := Lib.hid ht
    have RN_wr := Lib.hid hnr
    have BB_wr := Lib.hid hb
    clear ht hnr hb
    by_cases hlt : i < 3
    · have d1 : (i : Int) < 3 := by omega
      have HI := Lib.hid hlt
      have KU := Lib.hid (fun W => H.write l i v W HL.out (by omega) (by omega) hv0 hv1)
      have HOK := Lib.hid (writeT_ok HL.out (i : Int) v)
      obtain ⟨u, hu⟩ : ∃ u, writeT l (i : Int) v = u := ⟨_, rfl⟩
      rw [hu] at KU HOK
      have HU := Lib.hid hu
      clear hu
      go_wp2_with (first
      | ((with_reducible show wpList _ _ _ (⟨none, .store 25 (.tmp 9) (.tmp 46), _, _, _, _⟩ :: _) _ _); refine wpList_store_t  rfl 25 _ _ rfl (wa.heap.size) (by exact rfl) (by exact rfl) (by kernel_rfl) 25 (show TRow _ _ _ ⟨0, 0, 0⟩ from alloc_at _ _) ?_; intro wb HN HO HB
         have RT_wb : Hid (TRow wb (gt) 25 (l)) := Lib.hid (TRow.other (TRow.below RT_wa.out ((Below.refl _ _).alloc (Nat.le_refl _) _) RT_wa.out.lt) HO.out (Nat.ne_of_lt RT_wa.out.lt))
         have RN_wb : Hid (TRow wb (gn) 46 (n)) := Lib.hid (TRow.other (TRow.below RN_wa.out ((Below.refl _ _).alloc (Nat.le_refl _) _) RN_wa.out.lt) HO.out (Nat.ne_of_lt RN_wa.out.lt))
         have RW_wb : Hid (TRow wb wa.heap.size 25 (u)) := HN
         have BB_wb : Hid (Below w.heap.size w wb) := Lib.hid ((BB_wa.out.alloc BB_wa.out.size _).trans (HB.out.mono BB_wa.out.size))
         clear HO HB HN RT_wa RN_wa BB_wa)
      | (go_at_call 9; have hc := BB_wr; clear hc; refine (KU.out _).mono ?_; rintro e wa ⟨rfl, hB⟩
         have RT_wa : Hid (TRow wa (gt) 25 (l)) := Lib.hid (TRow.below RT_wr.out hB RT_wr.out.lt)
         have RN_wa : Hid (TRow wa (gn) 46 (n)) := Lib.hid (TRow.below RN_wr.out hB RN_wr.out.lt)
         have BB_wa : Hid (Below w.heap.size w wa) := Lib.hid (BB_wr.out.trans (hB.mono BB_wr.out.size))
         clear hB RT_wr RN_wr BB_wr)
      | ((with_reducible show wpList _ _ _ (⟨some 43, .load 25 (.tmp 7), _, _, _, _⟩ :: _) _ _); refine wpList_load_t (by rfl) 25 _ rfl (gt) (by exact rfl) _ Try.underlying25 (by kernel_rfl) 25 RT_wr.out ?_))
      generalize wa.heap.size = gw at *
      go_loopw [10] (fun jv wr => ∃ j : Nat, j ≤ 3 ∧ jv = .int .i64 j ∧ TRow wr gt 25 l ∧ TRow wr gw 25 u ∧ TRow wr gn 46 n ∧ Below w.heap.size w wr) (fun jv _ => 3 - (intOf jv).toNat)
      case atStart => exact ⟨0, by omega, rfl, RT_wb.out, RW_wb.out, RN_wb.out, BB_wb.out⟩
      case round =>
        clear RT_wb RW_wb RN_wb BB_wb
        obtain ⟨j, hj, rfl, ht, hw, hnr, hb⟩ := hrel
        have RT_wr := Lib.hid ht
        have RW_wr := Lib.hid hw
        have RN_wr := Lib.hid hnr
        have BB_wr := Lib.hid hb
        clear ht hw hnr hb
        by_cases hlj : j < 3
        · have d2 : (j : Int) < 3 := by omega
          have HJ := Lib.hid hlj
          have KP := Lib.hid (fun W => H.peek l j W HL.out (by omega) (by omega))
          have KQ := Lib.hid (fun W => H.peek u j W HOK.out (by omega) (by omega))
          have hpw := peek_write l i j v hlt hlj
          rw [HU.out] at hpw
          by_cases hij : j = i
          · rw [if_pos hij] at hpw
            rw [hpw] at KQ
            have dij : ((j : Int) == (i : Int)) = true := by simp [hij]
            have HLW : Hid (v % 65536 = ((low16 v : Nat) : Int)) := Lib.hid (low16_cast v).symm
            have hlow := low16_lt v
            have HLZ : Hid (IntKind.i32.wrap ((low16 v : Nat) : Int) = ((low16 v : Nat) : Int)) := Lib.hid (by
              simp [IntKind.wrap, IntKind.bits, IntKind.signed]
              omega)
            have hne : (((low16 v : Nat) : Int) != wrap32 (IntKind.u16.wrap v)) = false := by
              have h1 : IntKind.u16.wrap v = v % 65536 := by simp [IntKind.wrap, IntKind.bits, IntKind.signed]
              have h2 : wrap32 ((low16 v : Nat) : Int) = ((low16 v : Nat) : Int) := by
                unfold wrap32
                omega
              rw [h1, ← low16_cast, h2]
              simp
            clear hpw hij
            generalize peekT l (j : Int) = pl at *
            go_wp2_with (first
      | (go_at_call 15; have hc := BB_wa; clear hc; refine (KQ.out _).mono ?_; rintro e wb ⟨rfl, hB⟩
         have RT_wb : Hid (TRow wb (gt) 25 (l)) := Lib.hid (TRow.below RT_wa.out hB RT_wa.out.lt)
         have RW_wb : Hid (TRow wb (gw) 25 (u)) := Lib.hid (TRow.below RW_wa.out hB RW_wa.out.lt)
         have RN_wb : Hid (TRow wb (gn) 46 (n)) := Lib.hid (TRow.below RN_wa.out hB RN_wa.out.lt)
         have BB_wb : Hid (Below w.heap.size w wb) := Lib.hid (BB_wa.out.trans (hB.mono BB_wa.out.size))
         clear hB RT_wa RW_wa RN_wa BB_wa)
      | ((with_reducible show wpList _ _ _ (⟨some 60, .load 25 (.tmp 9), _, _, _, _⟩ :: _) _ _); refine wpList_load_t (by rfl) 25 _ rfl (gw) (by exact rfl) _ Try.underlying25 (by kernel_rfl) 25 RW_wa.out ?_)
      | (go_at_call 15; have hc := BB_wr; clear hc; refine (KP.out _).mono ?_; rintro e wa ⟨rfl, hB⟩
         have RT_wa : Hid (TRow wa (gt) 25 (l)) := Lib.hid (TRow.below RT_wr.out hB RT_wr.out.lt)
         have RW_wa : Hid (TRow wa (gw) 25 (u)) := Lib.hid (TRow.below RW_wr.out hB RW_wr.out.lt)
         have RN_wa : Hid (TRow wa (gn) 46 (n)) := Lib.hid (TRow.below RN_wr.out hB RN_wr.out.lt)
         have BB_wa : Hid (Below w.heap.size w wa) := Lib.hid (BB_wr.out.trans (hB.mono BB_wr.out.size))
         clear hB RT_wr RW_wr RN_wr BB_wr)
      | ((with_reducible show wpList _ _ _ (⟨some 51, .load 25 (.tmp 7), _, _, _, _⟩ :: _) _ _); refine wpList_load_t (by rfl) 25 _ rfl (gt) (by exact rfl) _ Try.underlying25 (by kernel_rfl) 25 RT_wr.out ?_))
            go_roundw
            case rel => exact ⟨j + 1, by have := HJ.out; omega, by go_num, RT_wb.out, RW_wb.out, RN_wb.out, BB_wb.out⟩
            case measure =>
              simp [intOf]
              omega
          · rw [if_neg hij] at hpw
            rw [hpw] at KQ
            have dij : ((j : Int) == (i : Int)) = false := by simp; omega
            clear hpw hij
            generalize peekT l (j : Int) = pl at *
            go_wp2_with (first
      | (go_at_call 15; have hc := BB_wa; clear hc; refine (KQ.out _).mono ?_; rintro e wb ⟨rfl, hB⟩
         have RT_wb : Hid (TRow wb (gt) 25 (l)) := Lib.hid (TRow.below RT_wa.out hB RT_wa.out.lt)
         have RW_wb : Hid (TRow wb (gw) 25 (u)) := Lib.hid (TRow.below RW_wa.out hB RW_wa.out.lt)
         have RN_wb : Hid (TRow wb (gn) 46 (n)) := Lib.hid (TRow.below RN_wa.out hB RN_wa.out.lt)
         have BB_wb : Hid (Below w.heap.size w wb) := Lib.hid (BB_wa.out.trans (hB.mono BB_wa.out.size))
         clear hB RT_wa RW_wa RN_wa BB_wa)
      | ((with_reducible show wpList _ _ _ (⟨some 60, .load 25 (.tmp 9), _, _, _, _⟩ :: _) _ _); refine wpList_load_t (by rfl) 25 _ rfl (gw) (by exact rfl) _ Try.underlying25 (by kernel_rfl) 25 RW_wa.out ?_)
      | (go_at_call 15; have hc := BB_wr; clear hc; refine (KP.out _).mono ?_; rintro e wa ⟨rfl, hB⟩
         have RT_wa : Hid (TRow wa (gt) 25 (l)) := Lib.hid (TRow.below RT_wr.out hB RT_wr.out.lt)
         have RW_wa : Hid (TRow wa (gw) 25 (u)) := Lib.hid (TRow.below RW_wr.out hB RW_wr.out.lt)
         have RN_wa : Hid (TRow wa (gn) 46 (n)) := Lib.hid (TRow.below RN_wr.out hB RN_wr.out.lt)
         have BB_wa : Hid (Below w.heap.size w wa) := Lib.hid (BB_wr.out.trans (hB.mono BB_wr.out.size))
         clear hB RT_wr RW_wr RN_wr BB_wr)
      | ((with_reducible show wpList _ _ _ (⟨some 51, .load 25 (.tmp 7), _, _, _, _⟩ :: _) _ _); refine wpList_load_t (by rfl) 25 _ rfl (gt) (by exact rfl) _ Try.underlying25 (by kernel_rfl) 25 RT_wr.out ?_))
            go_roundw
            case rel => exact ⟨j + 1, by have := HJ.out; omega, by go_num, RT_wb.out, RW_wb.out, RN_wb.out, BB_wb.out⟩
            case measure =>
              simp [intOf]
              omega
        · obtain rfl : j = 3 := by omega
          go_wp2_with fail
          go_roundw
          case rel => exact ⟨i + 1, by have := HI.out; omega, by go_num, RT_wr.out, RN_wr.out, BB_wr.out⟩
          case measure =>
            simp [intOf]
            omega
    · obtain rfl : i = 3 := by omega
      have hla := HL.out.a
      have hlb := HL.out.b
      have hlc := HL.out.c
      have hna := HN.out.a
      have hnb := HN.out.b
      have hnc := HN.out.c
      have hc0 := even_and l.c
      have hc1 := and_lt16 l.c hlc
      have hbit : bits .andNot .u16 (l.c : Int) 1 = ((l.c &&& 65534 : Nat) : Int) := u16_andNot_nat l.c 1 hlc (by decide)
      generalize l.c &&& 65534 = cz at *
      obtain ⟨off, hoff⟩ : ∃ off, Tm.mk l.a l.b cz = off := ⟨_, rfl⟩
      have hoffc : off.c % 2 = 0 := by rw [← hoff]; exact hc0
      have hoffok : off.ok := by rw [← hoff]; exact ⟨hla, hlb, hc1⟩
      obtain ⟨on, hon⟩ : ∃ on, Tm.mk l.a l.b 3 = on := ⟨_, rfl⟩
      have honok : on.ok := by rw [← hon]; exact ⟨hla, hlb, show (3 : Nat) < 65536 from by decide⟩
      have honc : on.c = 3 := by first | (rw [← hon]; done) | (rw [← hon]; rfl)
      obtain ⟨tA, hA⟩ : ∃ tA, ticksT on n.a = tA := ⟨_, rfl⟩
      have hAok : tA.ok := by rw [← hA]; exact ticksT_ok honok _
      have hAc : tA.c = 3 := by rw [← hA, (ticks_keep (t := on) (by rw [honc]) n.a).2, honc]
      obtain ⟨tB, hB⟩ : ∃ tB, Tm.mk tA.a tA.b 2 = tB := ⟨_, rfl⟩
      have hBok : tB.ok := by rw [← hB]; exact ⟨hAok.a, hAok.b, show (2 : Nat) < 65536 from by decide⟩
      have hBc : tB.c % 2 = 0 := by rw [← hB]; show (2 : Nat) % 2 = 0; decide
      obtain ⟨tC, hC⟩ : ∃ tC, ticksT tA n.c = tC := ⟨_, rfl⟩
      obtain ⟨xa, hxa⟩ : ∃ x, countT on n.a = x := ⟨_, rfl⟩
      obtain ⟨xc, hxc⟩ : ∃ x, countT tA n.c = x := ⟨_, rfl⟩
      have hxa2 : xa ≤ n.a := by rw [← hxa]; exact countT_le _ _
      have hxc2 : xc ≤ n.c := by rw [← hxc]; exact countT_le _ _
      obtain ⟨once, honce⟩ : ∃ t, Tm.mk l.a l.b 1 = t := ⟨_, rfl⟩
      have honceok : once.ok := by rw [← honce]; exact ⟨hla, hlb, show (1 : Nat) < 65536 from by decide⟩
      have honcec : once.c = 1 := by first | (rw [← honce]; done) | (rw [← honce]; rfl)
      obtain ⟨fst, hfst⟩ : ∃ k, nextT once = k := ⟨_, rfl⟩
      have hfst2 : fst ≤ 65536 := by rw [← hfst]; exact nextT_le _
      have hfst3 : 0 < fst := by rw [← hfst, nextT_run (by rw [honcec])]; omega
      obtain ⟨tD, hD⟩ : ∃ t, Tm.mk 0 l.b 0 = t := ⟨_, rfl⟩
      have hDok : tD.ok := by rw [← hD]; exact ⟨show (0 : Nat) < 65536 from by decide, hlb, show (0 : Nat) < 65536 from by decide⟩
      have hDc : tD.c % 2 = 0 := by rw [← hD]; show (0 : Nat) % 2 = 0; decide
      have K1 : Hid (∀ W : World, Calls Try.prog 9 #[tv l, .int .i64 2, .int .i32 (cz : Nat)] W fun e w' => e = .returned (tv off) ∧ Below W.heap.size W w') := Lib.hid (fun W => by
        have h := H.write l 2 (cz : Int) W HL.out (by decide) (by decide) (by omega) (by omega)
        rw [show writeT l 2 (cz : Int) = off from by rw [← hoff]; show Tm.mk l.a l.b (low16 (cz : Int)) = _; rw [low16_small cz hc1]] at h
        exact h)
      have K2 : Hid (∀ W : World, Calls Try.prog 13 #[tv off, .int .i64 (n.a : Nat)] W fun e w' => e = .returned (.tuple #[tv off, .int .i64 0]) ∧ Below W.heap.size W w') := Lib.hid (fun W => by
        have h := H.ticks off (n.a : Int) W hoffok (by omega) (by omega)
        rw [(still hoffc _).1, (still hoffc _).2] at h
        exact h)
      have K3 : Hid (∀ W : World, Calls Try.prog 7 #[tv off] W fun e w' => e = .returned (.int .i64 0) ∧ Below W.heap.size W w') := Lib.hid (fun W => by
        have h := H.next off W hoffok
        rw [show nextT off = 0 from if_pos hoffc] at h
        exact h)
      have K4 : Hid (∀ W : World, Calls Try.prog 9 #[tv l, .int .i64 2, .int .i32 3] W fun e w' => e = .returned (tv on) ∧ Below W.heap.size W w') := Lib.hid (fun W => by
        have h := H.write l 2 3 W HL.out (by decide) (by decide) (by decide) (by decide)
        rw [show writeT l 2 3 = on from by rw [← hon]; rfl] at h
        exact h)
      have K5 : Hid (∀ W : World, Calls Try.prog 13 #[tv on, .int .i64 (n.a : Nat)] W fun e w' => e = .returned (.tuple #[tv tA, .int .i64 (xa : Nat)]) ∧ Below W.heap.size W w') := Lib.hid (fun W => by
        have h := H.ticks on (n.a : Int) W honok (by omega) (by omega)
        rw [show ((n.a : Nat) : Int).toNat = n.a from by omega, hA, hxa] at h
        exact h)
      have K6 : Hid (∀ W : World, Calls Try.prog 9 #[tv tA, .int .i64 2, .int .i32 2] W fun e w' => e = .returned (tv tB) ∧ Below W.heap.size W w') := Lib.hid (fun W => by
        have h := H.write tA 2 2 W hAok (by decide) (by decide) (by decide) (by decide)
        rw [show writeT tA 2 2 = tB from by rw [← hB]; rfl] at h
        exact h)
      have K7 : Hid (∀ W : World, Calls Try.prog 13 #[tv tB, .int .i64 (n.b : Nat)] W fun e w' => e = .returned (.tuple #[tv tB, .int .i64 0]) ∧ Below W.heap.size W w') := Lib.hid (fun W => by
        have h := H.ticks tB (n.b : Int) W hBok (by omega) (by omega)
        rw [(still hBc _).1, (still hBc _).2] at h
        exact h)
      have K8 : Hid (∀ W : World, Calls Try.prog 9 #[tv tB, .int .i64 2, .int .i32 3] W fun e w' => e = .returned (tv tA) ∧ Below W.heap.size W w') := Lib.hid (fun W => by
        have h := H.write tB 2 3 W hBok (by decide) (by decide) (by decide) (by decide)
        rw [show writeT tB 2 3 = tA from by rw [← hB]; show Tm.mk tA.a tA.b 3 = tA; rw [← hAc]] at h
        exact h)
      have K9 : Hid (∀ W : World, Calls Try.prog 13 #[tv tA, .int .i64 (n.c : Nat)] W fun e w' => e = .returned (.tuple #[tv tC, .int .i64 (xc : Nat)]) ∧ Below W.heap.size W w') := Lib.hid (fun W => by
        have h := H.ticks tA (n.c : Int) W hAok (by omega) (by omega)
        rw [show ((n.c : Nat) : Int).toNat = n.c from by omega, hC, hxc] at h
        exact h)
      have K10 : Hid (∀ W : World, Calls Try.prog 13 #[tv on, .int .i64 ((n.a : Int) + (n.c : Int))] W fun e w' => e = .returned (.tuple #[tv tC, .int .i64 ((xa : Int) + (xc : Int))]) ∧ Below W.heap.size W w') := Lib.hid (fun W => by
        have h := H.ticks on ((n.a : Int) + (n.c : Int)) W honok (by omega) (by omega)
        rw [show ((n.a : Int) + (n.c : Int)).toNat = n.a + n.c from by omega, ticksT_add, countT_add, hA, hC, hxa, hxc] at h
        exact h)
      have K11 : Hid (∀ W : World, Calls Try.prog 9 #[tv l, .int .i64 2, .int .i32 1] W fun e w' => e = .returned (tv once) ∧ Below W.heap.size W w') := Lib.hid (fun W => by
        have h := H.write l 2 1 W HL.out (by decide) (by decide) (by decide) (by decide)
        rw [show writeT l 2 1 = once from by rw [← honce]; rfl] at h
        exact h)
      have K12 : Hid (∀ W : World, Calls Try.prog 7 #[tv once] W fun e w' => e = .returned (.int .i64 (fst : Nat)) ∧ Below W.heap.size W w') := Lib.hid (fun W => by
        have h := H.next once W honceok
        rw [hfst] at h
        exact h)
      have K13 : Hid (∀ W : World, Calls Try.prog 13 #[tv once, .int .i64 (fst : Nat)] W fun e w' => e = .returned (.tuple #[tv tD, .int .i64 1]) ∧ Below W.heap.size W w') := Lib.hid (fun W => by
        have h := H.ticks once (fst : Int) W honceok (by omega) (by omega)
        obtain ⟨e1, e2⟩ := ticks_first honceok (by rw [honcec])
        rw [show ((fst : Nat) : Int).toNat = fst from by omega, ← hfst, e1, e2, show (Tm.mk 0 once.b (if once.c / 2 % 2 = 0 then once.c - 1 else once.c)) = tD from by rw [← hD, ← honce]; show Tm.mk 0 l.b (if 1 / 2 % 2 = 0 then 1 - 1 else 1) = _; rw [if_pos (by decide)]] at h
        rw [← hfst]
        exact h)
      have K14 : Hid (∀ W : World, Calls Try.prog 13 #[tv tD, .int .i64 (n.b : Nat)] W fun e w' => e = .returned (.tuple #[tv tD, .int .i64 0]) ∧ Below W.heap.size W w') := Lib.hid (fun W => by
        have h := H.ticks tD (n.b : Int) W hDok (by omega) (by omega)
        rw [(still hDc _).1, (still hDc _).2] at h
        exact h)
      have hE := run_neq_t
      have hE2 := run_eql_t
      have hG := guard_t
      have HFP : Hid (0 < fst) := Lib.hid hfst3
      have HDD : Hid (tD.a = 0 ∧ tD.c = 0) := Lib.hid (by rw [← hD]; exact ⟨rfl, rfl⟩)
      clear hoff hon hA hB hC hxa hxc honce hfst hD hoffc hoffok honok honc hAok hAc hBok hBc honceok honcec hDok hDc hc0 hla hlb
      have HC1 := Lib.hid hc1
      have HZb : Hid (IntKind.i64.wrap (n.b : Int) = (n.b : Int)) := Lib.hid (by
        simp [IntKind.wrap, IntKind.bits, IntKind.signed]
        omega)
      have HZc : Hid (IntKind.i64.wrap (n.c : Int) = (n.c : Int)) := Lib.hid (by
        simp [IntKind.wrap, IntKind.bits, IntKind.signed]
        omega)
      have qc := RT_wr.out.c2
      go_upto_region 22 with (first
      | ((with_reducible show wpList _ _ _ (⟨none, .store 25 (.tmp 16) (.tmp 99), _, _, _, _⟩ :: _) _ _); refine wpList_store_t  rfl 25 _ _ rfl (wh.heap.size) (by exact rfl) (by exact rfl) (by kernel_rfl) 25 (show TRow _ _ _ ⟨0, 0, 0⟩ from alloc_at _ _) ?_; intro wi HN HO HB
         have RT_wi : Hid (TRow wi (gt) 25 (l)) := Lib.hid (TRow.other (TRow.below RT_wh.out ((Below.refl _ _).alloc (Nat.le_refl _) _) RT_wh.out.lt) HO.out (Nat.ne_of_lt RT_wh.out.lt))
         have RN_wi : Hid (TRow wi (gn) 46 (n)) := Lib.hid (TRow.other (TRow.below RN_wh.out ((Below.refl _ _).alloc (Nat.le_refl _) _) RN_wh.out.lt) HO.out (Nat.ne_of_lt RN_wh.out.lt))
         have RO_wi : Hid (TRow wi (wa.heap.size) 25 (off)) := Lib.hid (TRow.other (TRow.below RO_wh.out ((Below.refl _ _).alloc (Nat.le_refl _) _) RO_wh.out.lt) HO.out (Nat.ne_of_lt RO_wh.out.lt))
         have RS_wi : Hid (TRow wi (wc.heap.size) 25 (off)) := Lib.hid (TRow.other (TRow.below RS_wh.out ((Below.refl _ _).alloc (Nat.le_refl _) _) RS_wh.out.lt) HO.out (Nat.ne_of_lt RS_wh.out.lt))
         have RQ_wi : Hid (TRow wi (wf.heap.size) 25 (on)) := Lib.hid (TRow.other (TRow.below RQ_wh.out ((Below.refl _ _).alloc (Nat.le_refl _) _) RQ_wh.out.lt) HO.out (Nat.ne_of_lt RQ_wh.out.lt))
         have RA_wi : Hid (TRow wi wh.heap.size 25 (tA)) := HN
         have BB_wi : Hid (Below w.heap.size w wi) := Lib.hid ((BB_wh.out.alloc BB_wh.out.size _).trans (HB.out.mono BB_wh.out.size))
         clear HO HB HN RT_wh RN_wh RO_wh RS_wh RQ_wh BB_wh)
      | (go_at_call 13; have hc := BB_wg; clear hc; refine (K5.out _).mono ?_; rintro e wh ⟨rfl, hB⟩
         have RT_wh : Hid (TRow wh (gt) 25 (l)) := Lib.hid (TRow.below RT_wg.out hB RT_wg.out.lt)
         have RN_wh : Hid (TRow wh (gn) 46 (n)) := Lib.hid (TRow.below RN_wg.out hB RN_wg.out.lt)
         have RO_wh : Hid (TRow wh (wa.heap.size) 25 (off)) := Lib.hid (TRow.below RO_wg.out hB RO_wg.out.lt)
         have RS_wh : Hid (TRow wh (wc.heap.size) 25 (off)) := Lib.hid (TRow.below RS_wg.out hB RS_wg.out.lt)
         have RQ_wh : Hid (TRow wh (wf.heap.size) 25 (on)) := Lib.hid (TRow.below RQ_wg.out hB RQ_wg.out.lt)
         have BB_wh : Hid (Below w.heap.size w wh) := Lib.hid (BB_wg.out.trans (hB.mono BB_wg.out.size))
         clear m0
         clear hB RT_wg RN_wg RO_wg RS_wg RQ_wg BB_wg)
      | ((with_reducible show wpList _ _ _ (⟨some 94, .load 25 (.tmp 15), _, _, _, _⟩ :: _) _ _); refine wpList_load_t (by rfl) 25 _ rfl (wf.heap.size) (by exact rfl) _ Try.underlying25 (by kernel_rfl) 25 RQ_wg.out ?_)
      | ((with_reducible show wpList _ _ _ (⟨none, .store 25 (.tmp 15) (.tmp 92), _, _, _, _⟩ :: _) _ _); refine wpList_store_t  rfl 25 _ _ rfl (wf.heap.size) (by exact rfl) (by exact rfl) (by kernel_rfl) 25 (show TRow _ _ _ ⟨0, 0, 0⟩ from alloc_at _ _) ?_; intro wg HN HO HB
         have RT_wg : Hid (TRow wg (gt) 25 (l)) := Lib.hid (TRow.other (TRow.below RT_wf.out ((Below.refl _ _).alloc (Nat.le_refl _) _) RT_wf.out.lt) HO.out (Nat.ne_of_lt RT_wf.out.lt))
         have RN_wg : Hid (TRow wg (gn) 46 (n)) := Lib.hid (TRow.other (TRow.below RN_wf.out ((Below.refl _ _).alloc (Nat.le_refl _) _) RN_wf.out.lt) HO.out (Nat.ne_of_lt RN_wf.out.lt))
         have RO_wg : Hid (TRow wg (wa.heap.size) 25 (off)) := Lib.hid (TRow.other (TRow.below RO_wf.out ((Below.refl _ _).alloc (Nat.le_refl _) _) RO_wf.out.lt) HO.out (Nat.ne_of_lt RO_wf.out.lt))
         have RS_wg : Hid (TRow wg (wc.heap.size) 25 (off)) := Lib.hid (TRow.other (TRow.below RS_wf.out ((Below.refl _ _).alloc (Nat.le_refl _) _) RS_wf.out.lt) HO.out (Nat.ne_of_lt RS_wf.out.lt))
         have RQ_wg : Hid (TRow wg wf.heap.size 25 (on)) := HN
         have BB_wg : Hid (Below w.heap.size w wg) := Lib.hid ((BB_wf.out.alloc BB_wf.out.size _).trans (HB.out.mono BB_wf.out.size))
         have m0 := RN_wg.out.c0
         clear HO HB HN RT_wf RN_wf RO_wf RS_wf BB_wf)
      | (go_at_call 9; have hc := BB_we; clear hc; refine (K4.out _).mono ?_; rintro e wf ⟨rfl, hB⟩
         have RT_wf : Hid (TRow wf (gt) 25 (l)) := Lib.hid (TRow.below RT_we.out hB RT_we.out.lt)
         have RN_wf : Hid (TRow wf (gn) 46 (n)) := Lib.hid (TRow.below RN_we.out hB RN_we.out.lt)
         have RO_wf : Hid (TRow wf (wa.heap.size) 25 (off)) := Lib.hid (TRow.below RO_we.out hB RO_we.out.lt)
         have RS_wf : Hid (TRow wf (wc.heap.size) 25 (off)) := Lib.hid (TRow.below RS_we.out hB RS_we.out.lt)
         have BB_wf : Hid (Below w.heap.size w wf) := Lib.hid (BB_we.out.trans (hB.mono BB_we.out.size))
         clear hB RT_we RN_we RO_we RS_we BB_we)
      | ((with_reducible show wpList _ _ _ (⟨some 91, .load 25 (.tmp 7), _, _, _, _⟩ :: _) _ _); refine wpList_load_t (by rfl) 25 _ rfl (gt) (by exact rfl) _ Try.underlying25 (by kernel_rfl) 25 RT_we.out ?_)
      | (go_at_call 7; have hc := BB_wd; clear hc; refine (K3.out _).mono ?_; rintro e we ⟨rfl, hB⟩
         have RT_we : Hid (TRow we (gt) 25 (l)) := Lib.hid (TRow.below RT_wd.out hB RT_wd.out.lt)
         have RN_we : Hid (TRow we (gn) 46 (n)) := Lib.hid (TRow.below RN_wd.out hB RN_wd.out.lt)
         have RO_we : Hid (TRow we (wa.heap.size) 25 (off)) := Lib.hid (TRow.below RO_wd.out hB RO_wd.out.lt)
         have RS_we : Hid (TRow we (wc.heap.size) 25 (off)) := Lib.hid (TRow.below RS_wd.out hB RS_wd.out.lt)
         have BB_we : Hid (Below w.heap.size w we) := Lib.hid (BB_wd.out.trans (hB.mono BB_wd.out.size))
         clear hB RT_wd RN_wd RO_wd RS_wd BB_wd)
      | ((with_reducible show wpList _ _ _ (⟨some 87, .load 25 (.tmp 12), _, _, _, _⟩ :: _) _ _); refine wpList_load_t (by kernel_rfl) 25 _ rfl (wa.heap.size) (by exact rfl) _ Try.underlying25 (by kernel_rfl) 25 RO_wd.out ?_)
      | ((with_reducible show wpList _ _ _ (⟨some 80, .load 25 (.tmp 12), _, _, _, _⟩ :: _) _ _); refine wpList_load_t (by rfl) 25 _ rfl (wa.heap.size) (by exact rfl) _ Try.underlying25 (by kernel_rfl) 25 RO_wd.out ?_)
      | ((with_reducible show wpList _ _ _ (⟨some 79, .load 25 (.tmp 13), _, _, _, _⟩ :: _) _ _); refine wpList_load_t (by rfl) 25 _ rfl (wc.heap.size) (by exact rfl) _ Try.underlying25 (by kernel_rfl) 25 RS_wd.out ?_)
      | ((with_reducible show wpList _ _ _ (⟨none, .store 25 (.tmp 13) (.tmp 77), _, _, _, _⟩ :: _) _ _); refine wpList_store_t  rfl 25 _ _ rfl (wc.heap.size) (by exact rfl) (by exact rfl) (by kernel_rfl) 25 (show TRow _ _ _ ⟨0, 0, 0⟩ from alloc_at _ _) ?_; intro wd HN HO HB
         have RT_wd : Hid (TRow wd (gt) 25 (l)) := Lib.hid (TRow.other (TRow.below RT_wc.out ((Below.refl _ _).alloc (Nat.le_refl _) _) RT_wc.out.lt) HO.out (Nat.ne_of_lt RT_wc.out.lt))
         have RN_wd : Hid (TRow wd (gn) 46 (n)) := Lib.hid (TRow.other (TRow.below RN_wc.out ((Below.refl _ _).alloc (Nat.le_refl _) _) RN_wc.out.lt) HO.out (Nat.ne_of_lt RN_wc.out.lt))
         have RO_wd : Hid (TRow wd (wa.heap.size) 25 (off)) := Lib.hid (TRow.other (TRow.below RO_wc.out ((Below.refl _ _).alloc (Nat.le_refl _) _) RO_wc.out.lt) HO.out (Nat.ne_of_lt RO_wc.out.lt))
         have RS_wd : Hid (TRow wd wc.heap.size 25 (off)) := HN
         have BB_wd : Hid (Below w.heap.size w wd) := Lib.hid ((BB_wc.out.alloc BB_wc.out.size _).trans (HB.out.mono BB_wc.out.size))
         clear HO HB HN RT_wc RN_wc RO_wc BB_wc)
      | (go_at_call 13; have hc := BB_wb; clear hc; refine (K2.out _).mono ?_; rintro e wc ⟨rfl, hB⟩
         have RT_wc : Hid (TRow wc (gt) 25 (l)) := Lib.hid (TRow.below RT_wb.out hB RT_wb.out.lt)
         have RN_wc : Hid (TRow wc (gn) 46 (n)) := Lib.hid (TRow.below RN_wb.out hB RN_wb.out.lt)
         have RO_wc : Hid (TRow wc (wa.heap.size) 25 (off)) := Lib.hid (TRow.below RO_wb.out hB RO_wb.out.lt)
         have BB_wc : Hid (Below w.heap.size w wc) := Lib.hid (BB_wb.out.trans (hB.mono BB_wb.out.size))
         clear m0
         clear hB RT_wb RN_wb RO_wb BB_wb)
      | ((with_reducible show wpList _ _ _ (⟨some 72, .load 25 (.tmp 12), _, _, _, _⟩ :: _) _ _); refine wpList_load_t (by rfl) 25 _ rfl (wa.heap.size) (by exact rfl) _ Try.underlying25 (by kernel_rfl) 25 RO_wb.out ?_)
      | ((with_reducible show wpList _ _ _ (⟨none, .store 25 (.tmp 12) (.tmp 70), _, _, _, _⟩ :: _) _ _); refine wpList_store_t  rfl 25 _ _ rfl (wa.heap.size) (by exact rfl) (by exact rfl) (by kernel_rfl) 25 (show TRow _ _ _ ⟨0, 0, 0⟩ from alloc_at _ _) ?_; intro wb HN HO HB
         have RT_wb : Hid (TRow wb (gt) 25 (l)) := Lib.hid (TRow.other (TRow.below RT_wa.out ((Below.refl _ _).alloc (Nat.le_refl _) _) RT_wa.out.lt) HO.out (Nat.ne_of_lt RT_wa.out.lt))
         have RN_wb : Hid (TRow wb (gn) 46 (n)) := Lib.hid (TRow.other (TRow.below RN_wa.out ((Below.refl _ _).alloc (Nat.le_refl _) _) RN_wa.out.lt) HO.out (Nat.ne_of_lt RN_wa.out.lt))
         have RO_wb : Hid (TRow wb wa.heap.size 25 (off)) := HN
         have BB_wb : Hid (Below w.heap.size w wb) := Lib.hid ((BB_wa.out.alloc BB_wa.out.size _).trans (HB.out.mono BB_wa.out.size))
         have m0 := RN_wb.out.c0
         clear HO HB HN RT_wa RN_wa BB_wa)
      | (go_at_call 9; have hc := BB_wr; clear hc; refine (K1.out _).mono ?_; rintro e wa ⟨rfl, hB⟩
         have RT_wa : Hid (TRow wa (gt) 25 (l)) := Lib.hid (TRow.below RT_wr.out hB RT_wr.out.lt)
         have RN_wa : Hid (TRow wa (gn) 46 (n)) := Lib.hid (TRow.below RN_wr.out hB RN_wr.out.lt)
         have BB_wa : Hid (Below w.heap.size w wa) := Lib.hid (BB_wr.out.trans (hB.mono BB_wr.out.size))
         clear qc
         clear hB RT_wr RN_wr BB_wr)
      | ((with_reducible show wpList _ _ _ (⟨some 65, .load 25 (.tmp 7), _, _, _, _⟩ :: _) _ _); refine wpList_load_t (by rfl) 25 _ rfl (gt) (by exact rfl) _ Try.underlying25 (by kernel_rfl) 25 RT_wr.out ?_))
      go_cut [18, 19] (fun pv yv wx => ∃ (Wc : World) (B : Nat), Wc = wx ∧ pv = .pointer (some ⟨B, 0, none⟩) ∧ yv = .int .i64 0 ∧ TRow Wc B 25 tB ∧ Below wi.heap.size wi Wc ∧ wi.heap.size ≤ B)
      case first =>
        refine wp_region_noPanic ?_
        refine wp_region_held_drew (S := fun X => Below wi.heap.size wi X) (by kernel_rfl) ((Below.refl _ wi).drew) (fun hHeld => ?_)
        refine' take_ 0 rfl (by kernel_rfl) (by kernel_rfl) (by kernel_rfl) (fun _ _ _ h => h) (by rfl) (fun wS hSw => run_load_t wS 25 _ (wh.heap.size) rfl _ Try.underlying25 (by kernel_rfl) 25 (RA_wi.out.below hSw RA_wi.out.lt) _ _ _ _ _) hHeld ?_
        try simp only [Act.put, List.setIfInBounds_toArray, List.set_cons_zero, List.set_cons_succ]
        refine' take_ 2 rfl (by kernel_rfl) (by kernel_rfl) (by kernel_rfl) (fun _ _ _ h => h) (by rfl) (fun wS hSw => ?_) hHeld ?_
        rotate_left
        focus (go_simp; (try with_reducible rfl); done)
        try simp only [Act.put, List.setIfInBounds_toArray, List.set_cons_zero, List.set_cons_succ]
        refine' take_ 3 rfl (by kernel_rfl) (by kernel_rfl) (by kernel_rfl) (fun _ _ _ h => h) (by rfl) (fun wS hSw => ?_) hHeld ?_
        rotate_left
        focus (have s0 := (RN_wi.out.below hSw RN_wi.out.lt).c1; clear hSw; go_simp; (try with_reducible rfl); done)
        try simp only [Act.put, List.setIfInBounds_toArray, List.set_cons_zero, List.set_cons_succ]
        refine' take_ 4 rfl (by kernel_rfl) (by kernel_rfl) (by kernel_rfl) (fun _ _ _ h => h) (by rfl) (fun wS hSw => ?_) hHeld ?_
        rotate_left
        focus (go_simp; (try rw [HZb.out]); (try rw [HZc.out]); (try with_reducible rfl); done)
        try simp only [Act.put, List.setIfInBounds_toArray, List.set_cons_zero, List.set_cons_succ]
        refine both_ 1 9 rfl rfl (by kernel_rfl) (by rfl) (by rfl) (fun K hK => ?_) (fun K hK => ?_)
        · go_simp
          (with_reducible refine (K6.out _).mono ?_)
          rintro e wp ⟨rfl, hB⟩
          go_simp
          refine hK.out _ _ (hHeld.trans (hB.mono hHeld.size)) (fun hHeld2 => ?_)
          clear hK K hHeld
          have hHeld := hHeld2
          clear hHeld2
          try simp only [Act.put, List.setIfInBounds_toArray, List.set_cons_zero, List.set_cons_succ]
          clear hB
          have HWp := Lib.hid hHeld
          refine both_ 5 9 rfl rfl (by kernel_rfl) (by rfl) (by rfl) (fun K hK => ?_) (fun K hK => ?_)
          · go_simp
            (with_reducible refine (K7.out _).mono ?_)
            rintro e wo ⟨rfl, hB⟩
            go_simp
            refine hK.out _ _ (hHeld.trans (hB.mono hHeld.size)) (fun hHeld2 => ?_)
            clear hK K hHeld
            have hHeld := hHeld2
            clear hHeld2
            try simp only [Act.put, List.setIfInBounds_toArray, List.set_cons_zero, List.set_cons_succ]
            clear hB
            have HWo := Lib.hid hHeld
            refine' take_ 6 rfl (by kernel_rfl) (by kernel_rfl) (by kernel_rfl) (fun _ _ _ h => h) (by rfl) (fun wS hSw => ?_) hHeld ?_
            rotate_left
            focus (go_simp; (try with_reducible rfl); done)
            try simp only [Act.put, List.setIfInBounds_toArray, List.set_cons_zero, List.set_cons_succ]
            refine' take_ 7 rfl (by kernel_rfl) (by kernel_rfl) (by kernel_rfl) (fun _ _ _ h => h) (by rfl) (fun wS hSw => ?_) hHeld ?_
            rotate_left
            focus (go_simp; (try with_reducible rfl); done)
            try simp only [Act.put, List.setIfInBounds_toArray, List.set_cons_zero, List.set_cons_succ]
            refine' take_ 8 rfl (by kernel_rfl) (by kernel_rfl) (by kernel_rfl) (fun _ _ _ h => h) (by rfl) (fun wS hSw => ?_) hHeld ?_
            rotate_left
            focus (go_simp; (try with_reducible rfl); done)
            try simp only [Act.put, List.setIfInBounds_toArray, List.set_cons_zero, List.set_cons_succ]
            refine only_ 9 rfl (by kernel_rfl) (by rfl) (fun K hK => ?_)
            go_simp
            refine hK.out _ _ (hHeld.alloc hHeld.size _) (fun hHeld2 => ?_)
            clear hK K hHeld
            have hHeld := hHeld2
            clear hHeld2
            try simp only [Act.put, List.setIfInBounds_toArray, List.set_cons_zero, List.set_cons_succ]
            refine only_ 10 rfl (by kernel_rfl) (by rfl) (fun K hK => ?_)
            refine wp_store_t 25 _ _ rfl (wo.heap.size) rfl rfl (by kernel_rfl) 25 (show TRow _ _ _ ⟨0, 0, 0⟩ from alloc_at _ _) ?_
            intro wf HNr HOr HBr
            refine hK.out _ _ (hHeld.trans (HBr.out.mono (HWo.out.size))) (fun hHeld2 => ?_)
            clear hK K hHeld
            have hHeld := hHeld2
            clear hHeld2
            try simp only [Act.put]
            refine' take_ 11 rfl (by kernel_rfl) (by kernel_rfl) (by kernel_rfl) (fun _ _ _ h => h) (by rfl) (fun wS hSw => ?_) hHeld ?_
            rotate_left
            focus (go_simp; (try with_reducible rfl); done)
            try simp only [Act.put, List.setIfInBounds_toArray, List.set_cons_zero, List.set_cons_succ]
            refine wpAnyH_done (by kernel_rfl) ?_ _
            refine NoPanic.normal ?_
            go_wp2
            go_meet
            case rel => exact ⟨_, _, rfl, rfl, rfl, HNr.out, hHeld, HWo.out.size⟩
          · go_simp
            refine hK.out _ _ (hHeld.alloc hHeld.size _) (fun hHeld2 => ?_)
            clear hK K hHeld
            have hHeld := hHeld2
            clear hHeld2
            try simp only [Act.put, List.setIfInBounds_toArray, List.set_cons_zero, List.set_cons_succ]
            refine only_ 5 rfl (by kernel_rfl) (by rfl) (fun K hK => ?_)
            go_simp
            (with_reducible refine (K7.out _).mono ?_)
            rintro e wo ⟨rfl, hB⟩
            have ZR : Hid (TRow wo wp.heap.size 25 ⟨0, 0, 0⟩) := Lib.hid (TRow.below (show TRow _ _ _ ⟨0, 0, 0⟩ from alloc_at wp _) hB (by simp))
            go_simp
            refine hK.out _ _ (hHeld.trans (hB.mono hHeld.size)) (fun hHeld2 => ?_)
            clear hK K hHeld
            have hHeld := hHeld2
            clear hHeld2
            try simp only [Act.put, List.setIfInBounds_toArray, List.set_cons_zero, List.set_cons_succ]
            clear hB
            refine' take_ 6 rfl (by kernel_rfl) (by kernel_rfl) (by kernel_rfl) (fun _ _ _ h => h) (by rfl) (fun wS hSw => ?_) hHeld ?_
            rotate_left
            focus (go_simp; (try with_reducible rfl); done)
            try simp only [Act.put, List.setIfInBounds_toArray, List.set_cons_zero, List.set_cons_succ]
            refine' take_ 7 rfl (by kernel_rfl) (by kernel_rfl) (by kernel_rfl) (fun _ _ _ h => h) (by rfl) (fun wS hSw => ?_) hHeld ?_
            rotate_left
            focus (go_simp; (try with_reducible rfl); done)
            try simp only [Act.put, List.setIfInBounds_toArray, List.set_cons_zero, List.set_cons_succ]
            refine' take_ 8 rfl (by kernel_rfl) (by kernel_rfl) (by kernel_rfl) (fun _ _ _ h => h) (by rfl) (fun wS hSw => ?_) hHeld ?_
            rotate_left
            focus (go_simp; (try with_reducible rfl); done)
            try simp only [Act.put, List.setIfInBounds_toArray, List.set_cons_zero, List.set_cons_succ]
            refine only_ 10 rfl (by kernel_rfl) (by rfl) (fun K hK => ?_)
            refine wp_store_t 25 _ _ rfl (wp.heap.size) rfl rfl (by kernel_rfl) 25 (ZR.out) ?_
            intro wf HNr HOr HBr
            refine hK.out _ _ (hHeld.trans (HBr.out.mono (HWp.out.size))) (fun hHeld2 => ?_)
            clear hK K hHeld
            have hHeld := hHeld2
            clear hHeld2
            try simp only [Act.put]
            refine' take_ 11 rfl (by kernel_rfl) (by kernel_rfl) (by kernel_rfl) (fun _ _ _ h => h) (by rfl) (fun wS hSw => ?_) hHeld ?_
            rotate_left
            focus (go_simp; (try with_reducible rfl); done)
            try simp only [Act.put, List.setIfInBounds_toArray, List.set_cons_zero, List.set_cons_succ]
            refine wpAnyH_done (by kernel_rfl) ?_ _
            refine NoPanic.normal ?_
            go_wp2
            go_meet
            case rel => exact ⟨_, _, rfl, rfl, rfl, HNr.out, hHeld, HWp.out.size⟩
        · go_simp
          refine hK.out _ _ (hHeld.alloc hHeld.size _) (fun hHeld2 => ?_)
          clear hK K hHeld
          have hHeld := hHeld2
          clear hHeld2
          try simp only [Act.put, List.setIfInBounds_toArray, List.set_cons_zero, List.set_cons_succ]
          refine only_ 1 rfl (by kernel_rfl) (by rfl) (fun K hK => ?_)
          go_simp
          (with_reducible refine (K6.out _).mono ?_)
          rintro e wp ⟨rfl, hB⟩
          have ZR0 : Hid (TRow wp wi.heap.size 25 ⟨0, 0, 0⟩) := Lib.hid (TRow.below (w := wi.drew.alloc _) (show TRow _ _ _ ⟨0, 0, 0⟩ from alloc_at wi.drew _) hB (by simp))
          go_simp
          refine hK.out _ _ (hHeld.trans (hB.mono hHeld.size)) (fun hHeld2 => ?_)
          clear hK K hHeld
          have hHeld := hHeld2
          clear hHeld2
          try simp only [Act.put, List.setIfInBounds_toArray, List.set_cons_zero, List.set_cons_succ]
          clear hB
          refine only_ 5 rfl (by kernel_rfl) (by rfl) (fun K hK => ?_)
          go_simp
          (with_reducible refine (K7.out _).mono ?_)
          rintro e wo ⟨rfl, hB⟩
          have ZR : Hid (TRow wo wi.heap.size 25 ⟨0, 0, 0⟩) := Lib.hid (ZR0.out.below hB ZR0.out.lt)
          go_simp
          refine hK.out _ _ (hHeld.trans (hB.mono hHeld.size)) (fun hHeld2 => ?_)
          clear hK K hHeld
          have hHeld := hHeld2
          clear hHeld2
          try simp only [Act.put, List.setIfInBounds_toArray, List.set_cons_zero, List.set_cons_succ]
          clear hB
          refine' take_ 6 rfl (by kernel_rfl) (by kernel_rfl) (by kernel_rfl) (fun _ _ _ h => h) (by rfl) (fun wS hSw => ?_) hHeld ?_
          rotate_left
          focus (go_simp; (try with_reducible rfl); done)
          try simp only [Act.put, List.setIfInBounds_toArray, List.set_cons_zero, List.set_cons_succ]
          refine' take_ 7 rfl (by kernel_rfl) (by kernel_rfl) (by kernel_rfl) (fun _ _ _ h => h) (by rfl) (fun wS hSw => ?_) hHeld ?_
          rotate_left
          focus (go_simp; (try with_reducible rfl); done)
          try simp only [Act.put, List.setIfInBounds_toArray, List.set_cons_zero, List.set_cons_succ]
          refine' take_ 8 rfl (by kernel_rfl) (by kernel_rfl) (by kernel_rfl) (fun _ _ _ h => h) (by rfl) (fun wS hSw => ?_) hHeld ?_
          rotate_left
          focus (go_simp; (try with_reducible rfl); done)
          try simp only [Act.put, List.setIfInBounds_toArray, List.set_cons_zero, List.set_cons_succ]
          refine only_ 10 rfl (by kernel_rfl) (by rfl) (fun K hK => ?_)
          refine wp_store_t 25 _ _ rfl (wi.heap.size) rfl rfl (by kernel_rfl) 25 (ZR.out) ?_
          intro wf HNr HOr HBr
          refine hK.out _ _ (hHeld.trans (HBr.out.mono (Nat.le_refl _))) (fun hHeld2 => ?_)
          clear hK K hHeld
          have hHeld := hHeld2
          clear hHeld2
          try simp only [Act.put]
          refine' take_ 11 rfl (by kernel_rfl) (by kernel_rfl) (by kernel_rfl) (fun _ _ _ h => h) (by rfl) (fun wS hSw => ?_) hHeld ?_
          rotate_left
          focus (go_simp; (try with_reducible rfl); done)
          try simp only [Act.put, List.setIfInBounds_toArray, List.set_cons_zero, List.set_cons_succ]
          refine wpAnyH_done (by kernel_rfl) ?_ _
          refine NoPanic.normal ?_
          go_wp2
          go_meet
          case rel => exact ⟨_, _, rfl, rfl, rfl, HNr.out, hHeld, Nat.le_refl _⟩
      case rest =>
        obtain ⟨W, B1, rfl, rfl, rfl, hx, hbw, -⟩ := hcut
        have RX_W := Lib.hid hx
        have RT_W := Lib.hid (RT_wi.out.below hbw RT_wi.out.lt)
        have RN_W := Lib.hid (RN_wi.out.below hbw RN_wi.out.lt)
        have RQ_W := Lib.hid (RQ_wi.out.below hbw RQ_wi.out.lt)
        have BB_W := Lib.hid (BB_wi.out.trans (hbw.mono BB_wi.out.size))
        clear hx hbw RT_wi RN_wi RQ_wi RO_wi RS_wi RA_wi BB_wi K1 K2 K3 K4 K5 K6 K7
        generalize wf.heap.size = gq at *
        go_upto_region 23 with fail
        go_cut [20, 21] (fun pv yv wx => ∃ (Wc : World) (B : Nat), Wc = wx ∧ pv = .pointer (some ⟨B, 0, none⟩) ∧ yv = .int .i64 (xc : Nat) ∧ TRow Wc B 25 tC ∧ Below W.heap.size W Wc ∧ W.heap.size ≤ B)
        case first =>
          refine wp_region_noPanic ?_
          refine wp_region_held_drew (S := fun X => Below W.heap.size W X) (by kernel_rfl) ((Below.refl _ W).drew) (fun hHeld => ?_)
          refine' take_ 0 rfl (by kernel_rfl) (by kernel_rfl) (by kernel_rfl) (fun _ _ _ h => h) (by rfl) (fun wS hSw => run_load_t wS 25 _ (B1) rfl _ Try.underlying25 (by kernel_rfl) 25 (RX_W.out.below hSw RX_W.out.lt) _ _ _ _ _) hHeld ?_
          try simp only [Act.put, List.setIfInBounds_toArray, List.set_cons_zero, List.set_cons_succ]
          refine' take_ 2 rfl (by kernel_rfl) (by kernel_rfl) (by kernel_rfl) (fun _ _ _ h => h) (by rfl) (fun wS hSw => ?_) hHeld ?_
          rotate_left
          focus (go_simp; (try with_reducible rfl); done)
          try simp only [Act.put, List.setIfInBounds_toArray, List.set_cons_zero, List.set_cons_succ]
          refine' take_ 3 rfl (by kernel_rfl) (by kernel_rfl) (by kernel_rfl) (fun _ _ _ h => h) (by rfl) (fun wS hSw => ?_) hHeld ?_
          rotate_left
          focus (have s0 := (RN_W.out.below hSw RN_W.out.lt).c2; clear hSw; go_simp; (try with_reducible rfl); done)
          try simp only [Act.put, List.setIfInBounds_toArray, List.set_cons_zero, List.set_cons_succ]
          refine' take_ 4 rfl (by kernel_rfl) (by kernel_rfl) (by kernel_rfl) (fun _ _ _ h => h) (by rfl) (fun wS hSw => ?_) hHeld ?_
          rotate_left
          focus (go_simp; (try rw [HZb.out]); (try rw [HZc.out]); (try with_reducible rfl); done)
          try simp only [Act.put, List.setIfInBounds_toArray, List.set_cons_zero, List.set_cons_succ]
          refine both_ 1 9 rfl rfl (by kernel_rfl) (by rfl) (by rfl) (fun K hK => ?_) (fun K hK => ?_)
          · go_simp
            (with_reducible refine (K8.out _).mono ?_)
            rintro e wp ⟨rfl, hB⟩
            go_simp
            refine hK.out _ _ (hHeld.trans (hB.mono hHeld.size)) (fun hHeld2 => ?_)
            clear hK K hHeld
            have hHeld := hHeld2
            clear hHeld2
            try simp only [Act.put, List.setIfInBounds_toArray, List.set_cons_zero, List.set_cons_succ]
            clear hB
            have HWp := Lib.hid hHeld
            refine both_ 5 9 rfl rfl (by kernel_rfl) (by rfl) (by rfl) (fun K hK => ?_) (fun K hK => ?_)
            · go_simp
              (with_reducible refine (K9.out _).mono ?_)
              rintro e wo ⟨rfl, hB⟩
              go_simp
              refine hK.out _ _ (hHeld.trans (hB.mono hHeld.size)) (fun hHeld2 => ?_)
              clear hK K hHeld
              have hHeld := hHeld2
              clear hHeld2
              try simp only [Act.put, List.setIfInBounds_toArray, List.set_cons_zero, List.set_cons_succ]
              clear hB
              have HWo := Lib.hid hHeld
              refine' take_ 6 rfl (by kernel_rfl) (by kernel_rfl) (by kernel_rfl) (fun _ _ _ h => h) (by rfl) (fun wS hSw => ?_) hHeld ?_
              rotate_left
              focus (go_simp; (try with_reducible rfl); done)
              try simp only [Act.put, List.setIfInBounds_toArray, List.set_cons_zero, List.set_cons_succ]
              refine' take_ 7 rfl (by kernel_rfl) (by kernel_rfl) (by kernel_rfl) (fun _ _ _ h => h) (by rfl) (fun wS hSw => ?_) hHeld ?_
              rotate_left
              focus (go_simp; (try with_reducible rfl); done)
              try simp only [Act.put, List.setIfInBounds_toArray, List.set_cons_zero, List.set_cons_succ]
              refine' take_ 8 rfl (by kernel_rfl) (by kernel_rfl) (by kernel_rfl) (fun _ _ _ h => h) (by rfl) (fun wS hSw => ?_) hHeld ?_
              rotate_left
              focus (go_simp; (try with_reducible rfl); done)
              try simp only [Act.put, List.setIfInBounds_toArray, List.set_cons_zero, List.set_cons_succ]
              refine only_ 9 rfl (by kernel_rfl) (by rfl) (fun K hK => ?_)
              go_simp
              refine hK.out _ _ (hHeld.alloc hHeld.size _) (fun hHeld2 => ?_)
              clear hK K hHeld
              have hHeld := hHeld2
              clear hHeld2
              try simp only [Act.put, List.setIfInBounds_toArray, List.set_cons_zero, List.set_cons_succ]
              refine only_ 10 rfl (by kernel_rfl) (by rfl) (fun K hK => ?_)
              refine wp_store_t 25 _ _ rfl (wo.heap.size) rfl rfl (by kernel_rfl) 25 (show TRow _ _ _ ⟨0, 0, 0⟩ from alloc_at _ _) ?_
              intro wf HNr HOr HBr
              refine hK.out _ _ (hHeld.trans (HBr.out.mono (HWo.out.size))) (fun hHeld2 => ?_)
              clear hK K hHeld
              have hHeld := hHeld2
              clear hHeld2
              try simp only [Act.put]
              refine' take_ 11 rfl (by kernel_rfl) (by kernel_rfl) (by kernel_rfl) (fun _ _ _ h => h) (by rfl) (fun wS hSw => ?_) hHeld ?_
              rotate_left
              focus (go_simp; (try with_reducible rfl); done)
              try simp only [Act.put, List.setIfInBounds_toArray, List.set_cons_zero, List.set_cons_succ]
              refine wpAnyH_done (by kernel_rfl) ?_ _
              refine NoPanic.normal ?_
              go_wp2
              go_meet
              case rel => exact ⟨_, _, rfl, rfl, rfl, HNr.out, hHeld, HWo.out.size⟩
            · go_simp
              refine hK.out _ _ (hHeld.alloc hHeld.size _) (fun hHeld2 => ?_)
              clear hK K hHeld
              have hHeld := hHeld2
              clear hHeld2
              try simp only [Act.put, List.setIfInBounds_toArray, List.set_cons_zero, List.set_cons_succ]
              refine only_ 5 rfl (by kernel_rfl) (by rfl) (fun K hK => ?_)
              go_simp
              (with_reducible refine (K9.out _).mono ?_)
              rintro e wo ⟨rfl, hB⟩
              have ZR : Hid (TRow wo wp.heap.size 25 ⟨0, 0, 0⟩) := Lib.hid (TRow.below (show TRow _ _ _ ⟨0, 0, 0⟩ from alloc_at wp _) hB (by simp))
              go_simp
              refine hK.out _ _ (hHeld.trans (hB.mono hHeld.size)) (fun hHeld2 => ?_)
              clear hK K hHeld
              have hHeld := hHeld2
              clear hHeld2
              try simp only [Act.put, List.setIfInBounds_toArray, List.set_cons_zero, List.set_cons_succ]
              clear hB
              refine' take_ 6 rfl (by kernel_rfl) (by kernel_rfl) (by kernel_rfl) (fun _ _ _ h => h) (by rfl) (fun wS hSw => ?_) hHeld ?_
              rotate_left
              focus (go_simp; (try with_reducible rfl); done)
              try simp only [Act.put, List.setIfInBounds_toArray, List.set_cons_zero, List.set_cons_succ]
              refine' take_ 7 rfl (by kernel_rfl) (by kernel_rfl) (by kernel_rfl) (fun _ _ _ h => h) (by rfl) (fun wS hSw => ?_) hHeld ?_
              rotate_left
              focus (go_simp; (try with_reducible rfl); done)
              try simp only [Act.put, List.setIfInBounds_toArray, List.set_cons_zero, List.set_cons_succ]
              refine' take_ 8 rfl (by kernel_rfl) (by kernel_rfl) (by kernel_rfl) (fun _ _ _ h => h) (by rfl) (fun wS hSw => ?_) hHeld ?_
              rotate_left
              focus (go_simp; (try with_reducible rfl); done)
              try simp only [Act.put, List.setIfInBounds_toArray, List.set_cons_zero, List.set_cons_succ]
              refine only_ 10 rfl (by kernel_rfl) (by rfl) (fun K hK => ?_)
              refine wp_store_t 25 _ _ rfl (wp.heap.size) rfl rfl (by kernel_rfl) 25 (ZR.out) ?_
              intro wf HNr HOr HBr
              refine hK.out _ _ (hHeld.trans (HBr.out.mono (HWp.out.size))) (fun hHeld2 => ?_)
              clear hK K hHeld
              have hHeld := hHeld2
              clear hHeld2
              try simp only [Act.put]
              refine' take_ 11 rfl (by kernel_rfl) (by kernel_rfl) (by kernel_rfl) (fun _ _ _ h => h) (by rfl) (fun wS hSw => ?_) hHeld ?_
              rotate_left
              focus (go_simp; (try with_reducible rfl); done)
              try simp only [Act.put, List.setIfInBounds_toArray, List.set_cons_zero, List.set_cons_succ]
              refine wpAnyH_done (by kernel_rfl) ?_ _
              refine NoPanic.normal ?_
              go_wp2
              go_meet
              case rel => exact ⟨_, _, rfl, rfl, rfl, HNr.out, hHeld, HWp.out.size⟩
          · go_simp
            refine hK.out _ _ (hHeld.alloc hHeld.size _) (fun hHeld2 => ?_)
            clear hK K hHeld
            have hHeld := hHeld2
            clear hHeld2
            try simp only [Act.put, List.setIfInBounds_toArray, List.set_cons_zero, List.set_cons_succ]
            refine only_ 1 rfl (by kernel_rfl) (by rfl) (fun K hK => ?_)
            go_simp
            (with_reducible refine (K8.out _).mono ?_)
            rintro e wp ⟨rfl, hB⟩
            have ZR0 : Hid (TRow wp W.heap.size 25 ⟨0, 0, 0⟩) := Lib.hid (TRow.below (w := W.drew.alloc _) (show TRow _ _ _ ⟨0, 0, 0⟩ from alloc_at W.drew _) hB (by simp))
            go_simp
            refine hK.out _ _ (hHeld.trans (hB.mono hHeld.size)) (fun hHeld2 => ?_)
            clear hK K hHeld
            have hHeld := hHeld2
            clear hHeld2
            try simp only [Act.put, List.setIfInBounds_toArray, List.set_cons_zero, List.set_cons_succ]
            clear hB
            refine only_ 5 rfl (by kernel_rfl) (by rfl) (fun K hK => ?_)
            go_simp
            (with_reducible refine (K9.out _).mono ?_)
            rintro e wo ⟨rfl, hB⟩
            have ZR : Hid (TRow wo W.heap.size 25 ⟨0, 0, 0⟩) := Lib.hid (ZR0.out.below hB ZR0.out.lt)
            go_simp
            refine hK.out _ _ (hHeld.trans (hB.mono hHeld.size)) (fun hHeld2 => ?_)
            clear hK K hHeld
            have hHeld := hHeld2
            clear hHeld2
            try simp only [Act.put, List.setIfInBounds_toArray, List.set_cons_zero, List.set_cons_succ]
            clear hB
            refine' take_ 6 rfl (by kernel_rfl) (by kernel_rfl) (by kernel_rfl) (fun _ _ _ h => h) (by rfl) (fun wS hSw => ?_) hHeld ?_
            rotate_left
            focus (go_simp; (try with_reducible rfl); done)
            try simp only [Act.put, List.setIfInBounds_toArray, List.set_cons_zero, List.set_cons_succ]
            refine' take_ 7 rfl (by kernel_rfl) (by kernel_rfl) (by kernel_rfl) (fun _ _ _ h => h) (by rfl) (fun wS hSw => ?_) hHeld ?_
            rotate_left
            focus (go_simp; (try with_reducible rfl); done)
            try simp only [Act.put, List.setIfInBounds_toArray, List.set_cons_zero, List.set_cons_succ]
            refine' take_ 8 rfl (by kernel_rfl) (by kernel_rfl) (by kernel_rfl) (fun _ _ _ h => h) (by rfl) (fun wS hSw => ?_) hHeld ?_
            rotate_left
            focus (go_simp; (try with_reducible rfl); done)
            try simp only [Act.put, List.setIfInBounds_toArray, List.set_cons_zero, List.set_cons_succ]
            refine only_ 10 rfl (by kernel_rfl) (by rfl) (fun K hK => ?_)
            refine wp_store_t 25 _ _ rfl (W.heap.size) rfl rfl (by kernel_rfl) 25 (ZR.out) ?_
            intro wf HNr HOr HBr
            refine hK.out _ _ (hHeld.trans (HBr.out.mono (Nat.le_refl _))) (fun hHeld2 => ?_)
            clear hK K hHeld
            have hHeld := hHeld2
            clear hHeld2
            try simp only [Act.put]
            refine' take_ 11 rfl (by kernel_rfl) (by kernel_rfl) (by kernel_rfl) (fun _ _ _ h => h) (by rfl) (fun wS hSw => ?_) hHeld ?_
            rotate_left
            focus (go_simp; (try with_reducible rfl); done)
            try simp only [Act.put, List.setIfInBounds_toArray, List.set_cons_zero, List.set_cons_succ]
            refine wpAnyH_done (by kernel_rfl) ?_ _
            refine NoPanic.normal ?_
            go_wp2
            go_meet
            case rel => exact ⟨_, _, rfl, rfl, rfl, HNr.out, hHeld, Nat.le_refl _⟩
        case rest =>
          obtain ⟨V, B2, rfl, rfl, rfl, hx, hbw, -⟩ := hcut
          have RY_V := Lib.hid hx
          have RT_V := Lib.hid (RT_W.out.below hbw RT_W.out.lt)
          have RN_V := Lib.hid (RN_W.out.below hbw RN_W.out.lt)
          have RQ_V := Lib.hid (RQ_W.out.below hbw RQ_W.out.lt)
          have BB_V := Lib.hid (BB_W.out.trans (hbw.mono BB_W.out.size))
          clear hx hbw RT_W RN_W RQ_W RX_W BB_W K8 K9
          have m0 := RN_V.out.c0
          have m2 := RN_V.out.c2
          have dfp : (0 : Int) < (fst : Int) := by have := HFP.out; omega
          go_wp2_with (first
      | ((with_reducible show wpList _ _ _ (⟨some 181, .load 25 (.tmp 26), _, _, _, _⟩ :: _) _ _); refine wpList_load_t (by kernel_rfl) 25 _ rfl (x6.heap.size) (by exact rfl) _ Try.underlying25 (by kernel_rfl) 25 RD_x9.out ?_)
      | ((with_reducible show wpList _ _ _ (⟨some 180, .load 25 (.tmp 28), _, _, _, _⟩ :: _) _ _); refine wpList_load_t (by kernel_rfl) 25 _ rfl (x8.heap.size) (by exact rfl) _ Try.underlying25 (by kernel_rfl) 25 RE_x9.out ?_)
      | ((with_reducible show wpList _ _ _ (⟨none, .store 25 (.tmp 28) (.tmp 161), _, _, _, _⟩ :: _) _ _); refine wpList_store_t  rfl 25 _ _ rfl (x8.heap.size) (by exact rfl) (by exact rfl) (by kernel_rfl) 25 (show TRow _ _ _ ⟨0, 0, 0⟩ from alloc_at _ _) ?_; intro x9 HN HO HB
         have RT_x9 : Hid (TRow x9 (gt) 25 (l)) := Lib.hid (TRow.other (TRow.below RT_x8.out ((Below.refl _ _).alloc (Nat.le_refl _) _) RT_x8.out.lt) HO.out (Nat.ne_of_lt RT_x8.out.lt))
         have RN_x9 : Hid (TRow x9 (gn) 46 (n)) := Lib.hid (TRow.other (TRow.below RN_x8.out ((Below.refl _ _).alloc (Nat.le_refl _) _) RN_x8.out.lt) HO.out (Nat.ne_of_lt RN_x8.out.lt))
         have RQ_x9 : Hid (TRow x9 (gq) 25 (on)) := Lib.hid (TRow.other (TRow.below RQ_x8.out ((Below.refl _ _).alloc (Nat.le_refl _) _) RQ_x8.out.lt) HO.out (Nat.ne_of_lt RQ_x8.out.lt))
         have RY_x9 : Hid (TRow x9 (B2) 25 (tC)) := Lib.hid (TRow.other (TRow.below RY_x8.out ((Below.refl _ _).alloc (Nat.le_refl _) _) RY_x8.out.lt) HO.out (Nat.ne_of_lt RY_x8.out.lt))
         have RZ_x9 : Hid (TRow x9 (x1.heap.size) 25 (tC)) := Lib.hid (TRow.other (TRow.below RZ_x8.out ((Below.refl _ _).alloc (Nat.le_refl _) _) RZ_x8.out.lt) HO.out (Nat.ne_of_lt RZ_x8.out.lt))
         have RO_x9 : Hid (TRow x9 (x3.heap.size) 25 (once)) := Lib.hid (TRow.other (TRow.below RO_x8.out ((Below.refl _ _).alloc (Nat.le_refl _) _) RO_x8.out.lt) HO.out (Nat.ne_of_lt RO_x8.out.lt))
         have RD_x9 : Hid (TRow x9 (x6.heap.size) 25 (tD)) := Lib.hid (TRow.other (TRow.below RD_x8.out ((Below.refl _ _).alloc (Nat.le_refl _) _) RD_x8.out.lt) HO.out (Nat.ne_of_lt RD_x8.out.lt))
         have RE_x9 : Hid (TRow x9 x8.heap.size 25 (tD)) := HN
         have BB_x9 : Hid (Below w.heap.size w x9) := Lib.hid ((BB_x8.out.alloc BB_x8.out.size _).trans (HB.out.mono BB_x8.out.size))
         have z0 : x9.cell? ⟨x6.heap.size, 0, none⟩ = some (.int .u16 0) := by have h := RD_x9.out.c0; rw [HDD.out.1] at h; exact h
         have z2 : x9.cell? ⟨x6.heap.size, 2, none⟩ = some (.int .u16 0) := by have h := RD_x9.out.c2; rw [HDD.out.2] at h; exact h
         clear HO HB HN RT_x8 RN_x8 RQ_x8 RY_x8 RZ_x8 RO_x8 RD_x8 BB_x8)
      | (go_at_call 13; have hc := BB_x7; clear hc; refine (K14.out _).mono ?_; rintro e x8 ⟨rfl, hB⟩
         have RT_x8 : Hid (TRow x8 (gt) 25 (l)) := Lib.hid (TRow.below RT_x7.out hB RT_x7.out.lt)
         have RN_x8 : Hid (TRow x8 (gn) 46 (n)) := Lib.hid (TRow.below RN_x7.out hB RN_x7.out.lt)
         have RQ_x8 : Hid (TRow x8 (gq) 25 (on)) := Lib.hid (TRow.below RQ_x7.out hB RQ_x7.out.lt)
         have RY_x8 : Hid (TRow x8 (B2) 25 (tC)) := Lib.hid (TRow.below RY_x7.out hB RY_x7.out.lt)
         have RZ_x8 : Hid (TRow x8 (x1.heap.size) 25 (tC)) := Lib.hid (TRow.below RZ_x7.out hB RZ_x7.out.lt)
         have RO_x8 : Hid (TRow x8 (x3.heap.size) 25 (once)) := Lib.hid (TRow.below RO_x7.out hB RO_x7.out.lt)
         have RD_x8 : Hid (TRow x8 (x6.heap.size) 25 (tD)) := Lib.hid (TRow.below RD_x7.out hB RD_x7.out.lt)
         have BB_x8 : Hid (Below w.heap.size w x8) := Lib.hid (BB_x7.out.trans (hB.mono BB_x7.out.size))
         clear m1
         clear hB RT_x7 RN_x7 RQ_x7 RY_x7 RZ_x7 RO_x7 RD_x7 BB_x7)
      | ((with_reducible show wpList _ _ _ (⟨some 156, .load 25 (.tmp 26), _, _, _, _⟩ :: _) _ _); refine wpList_load_t (by rfl) 25 _ rfl (x6.heap.size) (by exact rfl) _ Try.underlying25 (by kernel_rfl) 25 RD_x7.out ?_)
      | ((with_reducible show wpList _ _ _ (⟨none, .store 25 (.tmp 26) (.tmp 153), _, _, _, _⟩ :: _) _ _); refine wpList_store_t  rfl 25 _ _ rfl (x6.heap.size) (by exact rfl) (by exact rfl) (by kernel_rfl) 25 (show TRow _ _ _ ⟨0, 0, 0⟩ from alloc_at _ _) ?_; intro x7 HN HO HB
         have RT_x7 : Hid (TRow x7 (gt) 25 (l)) := Lib.hid (TRow.other (TRow.below RT_x6.out ((Below.refl _ _).alloc (Nat.le_refl _) _) RT_x6.out.lt) HO.out (Nat.ne_of_lt RT_x6.out.lt))
         have RN_x7 : Hid (TRow x7 (gn) 46 (n)) := Lib.hid (TRow.other (TRow.below RN_x6.out ((Below.refl _ _).alloc (Nat.le_refl _) _) RN_x6.out.lt) HO.out (Nat.ne_of_lt RN_x6.out.lt))
         have RQ_x7 : Hid (TRow x7 (gq) 25 (on)) := Lib.hid (TRow.other (TRow.below RQ_x6.out ((Below.refl _ _).alloc (Nat.le_refl _) _) RQ_x6.out.lt) HO.out (Nat.ne_of_lt RQ_x6.out.lt))
         have RY_x7 : Hid (TRow x7 (B2) 25 (tC)) := Lib.hid (TRow.other (TRow.below RY_x6.out ((Below.refl _ _).alloc (Nat.le_refl _) _) RY_x6.out.lt) HO.out (Nat.ne_of_lt RY_x6.out.lt))
         have RZ_x7 : Hid (TRow x7 (x1.heap.size) 25 (tC)) := Lib.hid (TRow.other (TRow.below RZ_x6.out ((Below.refl _ _).alloc (Nat.le_refl _) _) RZ_x6.out.lt) HO.out (Nat.ne_of_lt RZ_x6.out.lt))
         have RO_x7 : Hid (TRow x7 (x3.heap.size) 25 (once)) := Lib.hid (TRow.other (TRow.below RO_x6.out ((Below.refl _ _).alloc (Nat.le_refl _) _) RO_x6.out.lt) HO.out (Nat.ne_of_lt RO_x6.out.lt))
         have RD_x7 : Hid (TRow x7 x6.heap.size 25 (tD)) := HN
         have BB_x7 : Hid (Below w.heap.size w x7) := Lib.hid ((BB_x6.out.alloc BB_x6.out.size _).trans (HB.out.mono BB_x6.out.size))
         have m1 := RN_x7.out.c1
         clear HO HB HN RT_x6 RN_x6 RQ_x6 RY_x6 RZ_x6 RO_x6 BB_x6)
      | (go_at_call 13; have hc := BB_x5; clear hc; refine (K13.out _).mono ?_; rintro e x6 ⟨rfl, hB⟩
         have RT_x6 : Hid (TRow x6 (gt) 25 (l)) := Lib.hid (TRow.below RT_x5.out hB RT_x5.out.lt)
         have RN_x6 : Hid (TRow x6 (gn) 46 (n)) := Lib.hid (TRow.below RN_x5.out hB RN_x5.out.lt)
         have RQ_x6 : Hid (TRow x6 (gq) 25 (on)) := Lib.hid (TRow.below RQ_x5.out hB RQ_x5.out.lt)
         have RY_x6 : Hid (TRow x6 (B2) 25 (tC)) := Lib.hid (TRow.below RY_x5.out hB RY_x5.out.lt)
         have RZ_x6 : Hid (TRow x6 (x1.heap.size) 25 (tC)) := Lib.hid (TRow.below RZ_x5.out hB RZ_x5.out.lt)
         have RO_x6 : Hid (TRow x6 (x3.heap.size) 25 (once)) := Lib.hid (TRow.below RO_x5.out hB RO_x5.out.lt)
         have BB_x6 : Hid (Below w.heap.size w x6) := Lib.hid (BB_x5.out.trans (hB.mono BB_x5.out.size))
         clear hB RT_x5 RN_x5 RQ_x5 RY_x5 RZ_x5 RO_x5 BB_x5)
      | ((with_reducible show wpList _ _ _ (⟨some 150, .load 25 (.tmp 24), _, _, _, _⟩ :: _) _ _); refine wpList_load_t (by rfl) 25 _ rfl (x3.heap.size) (by exact rfl) _ Try.underlying25 (by kernel_rfl) 25 RO_x5.out ?_)
      | (go_at_call 7; have hc := BB_x4; clear hc; refine (K12.out _).mono ?_; rintro e x5 ⟨rfl, hB⟩
         have RT_x5 : Hid (TRow x5 (gt) 25 (l)) := Lib.hid (TRow.below RT_x4.out hB RT_x4.out.lt)
         have RN_x5 : Hid (TRow x5 (gn) 46 (n)) := Lib.hid (TRow.below RN_x4.out hB RN_x4.out.lt)
         have RQ_x5 : Hid (TRow x5 (gq) 25 (on)) := Lib.hid (TRow.below RQ_x4.out hB RQ_x4.out.lt)
         have RY_x5 : Hid (TRow x5 (B2) 25 (tC)) := Lib.hid (TRow.below RY_x4.out hB RY_x4.out.lt)
         have RZ_x5 : Hid (TRow x5 (x1.heap.size) 25 (tC)) := Lib.hid (TRow.below RZ_x4.out hB RZ_x4.out.lt)
         have RO_x5 : Hid (TRow x5 (x3.heap.size) 25 (once)) := Lib.hid (TRow.below RO_x4.out hB RO_x4.out.lt)
         have BB_x5 : Hid (Below w.heap.size w x5) := Lib.hid (BB_x4.out.trans (hB.mono BB_x4.out.size))
         clear hB RT_x4 RN_x4 RQ_x4 RY_x4 RZ_x4 RO_x4 BB_x4)
      | ((with_reducible show wpList _ _ _ (⟨some 147, .load 25 (.tmp 24), _, _, _, _⟩ :: _) _ _); refine wpList_load_t (by rfl) 25 _ rfl (x3.heap.size) (by exact rfl) _ Try.underlying25 (by kernel_rfl) 25 RO_x4.out ?_)
      | ((with_reducible show wpList _ _ _ (⟨none, .store 25 (.tmp 24) (.tmp 146), _, _, _, _⟩ :: _) _ _); refine wpList_store_t  rfl 25 _ _ rfl (x3.heap.size) (by exact rfl) (by exact rfl) (by kernel_rfl) 25 (show TRow _ _ _ ⟨0, 0, 0⟩ from alloc_at _ _) ?_; intro x4 HN HO HB
         have RT_x4 : Hid (TRow x4 (gt) 25 (l)) := Lib.hid (TRow.other (TRow.below RT_x3.out ((Below.refl _ _).alloc (Nat.le_refl _) _) RT_x3.out.lt) HO.out (Nat.ne_of_lt RT_x3.out.lt))
         have RN_x4 : Hid (TRow x4 (gn) 46 (n)) := Lib.hid (TRow.other (TRow.below RN_x3.out ((Below.refl _ _).alloc (Nat.le_refl _) _) RN_x3.out.lt) HO.out (Nat.ne_of_lt RN_x3.out.lt))
         have RQ_x4 : Hid (TRow x4 (gq) 25 (on)) := Lib.hid (TRow.other (TRow.below RQ_x3.out ((Below.refl _ _).alloc (Nat.le_refl _) _) RQ_x3.out.lt) HO.out (Nat.ne_of_lt RQ_x3.out.lt))
         have RY_x4 : Hid (TRow x4 (B2) 25 (tC)) := Lib.hid (TRow.other (TRow.below RY_x3.out ((Below.refl _ _).alloc (Nat.le_refl _) _) RY_x3.out.lt) HO.out (Nat.ne_of_lt RY_x3.out.lt))
         have RZ_x4 : Hid (TRow x4 (x1.heap.size) 25 (tC)) := Lib.hid (TRow.other (TRow.below RZ_x3.out ((Below.refl _ _).alloc (Nat.le_refl _) _) RZ_x3.out.lt) HO.out (Nat.ne_of_lt RZ_x3.out.lt))
         have RO_x4 : Hid (TRow x4 x3.heap.size 25 (once)) := HN
         have BB_x4 : Hid (Below w.heap.size w x4) := Lib.hid ((BB_x3.out.alloc BB_x3.out.size _).trans (HB.out.mono BB_x3.out.size))
         clear HO HB HN RT_x3 RN_x3 RQ_x3 RY_x3 RZ_x3 BB_x3)
      | (go_at_call 9; have hc := BB_x2; clear hc; refine (K11.out _).mono ?_; rintro e x3 ⟨rfl, hB⟩
         have RT_x3 : Hid (TRow x3 (gt) 25 (l)) := Lib.hid (TRow.below RT_x2.out hB RT_x2.out.lt)
         have RN_x3 : Hid (TRow x3 (gn) 46 (n)) := Lib.hid (TRow.below RN_x2.out hB RN_x2.out.lt)
         have RQ_x3 : Hid (TRow x3 (gq) 25 (on)) := Lib.hid (TRow.below RQ_x2.out hB RQ_x2.out.lt)
         have RY_x3 : Hid (TRow x3 (B2) 25 (tC)) := Lib.hid (TRow.below RY_x2.out hB RY_x2.out.lt)
         have RZ_x3 : Hid (TRow x3 (x1.heap.size) 25 (tC)) := Lib.hid (TRow.below RZ_x2.out hB RZ_x2.out.lt)
         have BB_x3 : Hid (Below w.heap.size w x3) := Lib.hid (BB_x2.out.trans (hB.mono BB_x2.out.size))
         clear hB RT_x2 RN_x2 RQ_x2 RY_x2 RZ_x2 BB_x2)
      | ((with_reducible show wpList _ _ _ (⟨some 145, .load 25 (.tmp 7), _, _, _, _⟩ :: _) _ _); refine wpList_load_t (by rfl) 25 _ rfl (gt) (by exact rfl) _ Try.underlying25 (by kernel_rfl) 25 RT_x2.out ?_)
      | ((with_reducible show wpList _ _ _ (⟨some 135, .load 25 (.tmp 22), _, _, _, _⟩ :: _) _ _); refine wpList_load_t (by kernel_rfl) 25 _ rfl (x1.heap.size) (by exact rfl) _ Try.underlying25 (by kernel_rfl) 25 RZ_x2.out ?_)
      | ((with_reducible show wpList _ _ _ (⟨some 134, .load 25 (.tmp 20), _, _, _, _⟩ :: _) _ _); refine wpList_load_t (by kernel_rfl) 25 _ rfl (B2) (by exact rfl) _ Try.underlying25 (by kernel_rfl) 25 RY_x2.out ?_)
      | ((with_reducible show wpList _ _ _ (⟨none, .store 25 (.tmp 22) (.tmp 129), _, _, _, _⟩ :: _) _ _); refine wpList_store_t  rfl 25 _ _ rfl (x1.heap.size) (by exact rfl) (by exact rfl) (by kernel_rfl) 25 (show TRow _ _ _ ⟨0, 0, 0⟩ from alloc_at _ _) ?_; intro x2 HN HO HB
         have RT_x2 : Hid (TRow x2 (gt) 25 (l)) := Lib.hid (TRow.other (TRow.below RT_x1.out ((Below.refl _ _).alloc (Nat.le_refl _) _) RT_x1.out.lt) HO.out (Nat.ne_of_lt RT_x1.out.lt))
         have RN_x2 : Hid (TRow x2 (gn) 46 (n)) := Lib.hid (TRow.other (TRow.below RN_x1.out ((Below.refl _ _).alloc (Nat.le_refl _) _) RN_x1.out.lt) HO.out (Nat.ne_of_lt RN_x1.out.lt))
         have RQ_x2 : Hid (TRow x2 (gq) 25 (on)) := Lib.hid (TRow.other (TRow.below RQ_x1.out ((Below.refl _ _).alloc (Nat.le_refl _) _) RQ_x1.out.lt) HO.out (Nat.ne_of_lt RQ_x1.out.lt))
         have RY_x2 : Hid (TRow x2 (B2) 25 (tC)) := Lib.hid (TRow.other (TRow.below RY_x1.out ((Below.refl _ _).alloc (Nat.le_refl _) _) RY_x1.out.lt) HO.out (Nat.ne_of_lt RY_x1.out.lt))
         have RZ_x2 : Hid (TRow x2 x1.heap.size 25 (tC)) := HN
         have BB_x2 : Hid (Below w.heap.size w x2) := Lib.hid ((BB_x1.out.alloc BB_x1.out.size _).trans (HB.out.mono BB_x1.out.size))
         clear HO HB HN RT_x1 RN_x1 RQ_x1 RY_x1 BB_x1)
      | (go_at_call 13; have hc := BB_V; clear hc; refine (K10.out _).mono ?_; rintro e x1 ⟨rfl, hB⟩
         have RT_x1 : Hid (TRow x1 (gt) 25 (l)) := Lib.hid (TRow.below RT_V.out hB RT_V.out.lt)
         have RN_x1 : Hid (TRow x1 (gn) 46 (n)) := Lib.hid (TRow.below RN_V.out hB RN_V.out.lt)
         have RQ_x1 : Hid (TRow x1 (gq) 25 (on)) := Lib.hid (TRow.below RQ_V.out hB RQ_V.out.lt)
         have RY_x1 : Hid (TRow x1 (B2) 25 (tC)) := Lib.hid (TRow.below RY_V.out hB RY_V.out.lt)
         have BB_x1 : Hid (Below w.heap.size w x1) := Lib.hid (BB_V.out.trans (hB.mono BB_V.out.size))
         clear m0 m2
         clear hB RT_V RN_V RQ_V RY_V BB_V)
      | ((with_reducible show wpList _ _ _ (⟨some 120, .load 25 (.tmp 15), _, _, _, _⟩ :: _) _ _); refine wpList_load_t (by rfl) 25 _ rfl (gq) (by exact rfl) _ Try.underlying25 (by kernel_rfl) 25 RQ_V.out ?_))
          go_ret
          exact ⟨rfl, BB_x9.out⟩
end Go.Proofs.Ytgibindoblhkeaa
