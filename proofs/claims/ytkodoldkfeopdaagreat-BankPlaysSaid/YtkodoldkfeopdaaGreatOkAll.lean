/-
  The program's All by its contract. Made by wip/genbankok.py.
-/
import Derived.Test.YtkodoldkfeopdaaGreatOkPeek
namespace Go.Proofs.YtkodoldkfeopdaaGreat
open Go.RowKit
set_option linter.unusedVariables false
set_option maxRecDepth 100000
theorem run_look1 {P : Program} {t k e : TypeId} (ht : P.underlying t = some (.map k e)) (hk : P.underlying k = some (.int .i64)) (w : World) (r : Nat) (es : Array MapEntry) (c : Nat) (hb : w.heap[r]? = some (.map es c)) (key : Int) (i : Nat) (v : Value)
    (hf : Instr.findNow (.int .i64) (.int .i64 key) es.toList 0 = some (some (i, v))) :
    (Instr.lookup t (.map (some r)) (.int .i64 key) false).run P w = .ok v w := by
  have hck : (Instr.checkKey es.isEmpty 10000 k (.int .i64 key)).run P w = .ok () w := MapKept.run_checkKey (k := .int .i64 key) hk (by simp [MapKept.IsKey]) _ 9999
  simp [Instr.lookup, run_underlying ht, MapKept.run_getObj_map hb, hck, MapKept.run_findKey hk hf]
/-- Between the rounds of All. -/
structure AllT (w W : World) (g ra ro m : Nat) (b : Bk) (k : Nat) : Prop where
  q : BRow W g 37 b
  z : VRow W ra 69 (outK b 0)
  o : VRow W ro 69 (outK b k)
  hm : W.heap[m]? = some (.map own 15)
  b : Below w.heap.size w W
  lo : w.heap.size ≤ ro
  la : w.heap.size ≤ ra
  n1 : g ≠ ro
  n2 : ra ≠ ro
  n3 : m ≠ ro
theorem heap_lt {W : World} {m : Nat} {o : Obj} (h : W.heap[m]? = some o) : m < W.heap.size := by
  rcases Nat.lt_or_ge m W.heap.size with h1 | h1
  · exact h1
  · rw [Array.getElem?_eq_none h1] at h; cases h
theorem AllT.under {w W W' : World} {g ra ro m : Nat} {b : Bk} {k : Nat} (h : AllT w W g ra ro m b k) (hb : Below W.heap.size W W') : AllT w W' g ra ro m b k :=
  ⟨h.q.below hb h.q.lt, VRow.below h.z hb (VRow.lt h.z), VRow.below h.o hb (VRow.lt h.o), (hb.block m (heap_lt h.hm)).trans h.hm, h.b.trans (hb.mono h.b.size), h.lo, h.la, h.n1, h.n2, h.n3⟩
theorem AllT.set {w W W' : World} {g ra ro m : Nat} {b : Bk} {k : Nat} (h : AllT w W g ra ro m b k) (hn : VRow W' ro 69 ((outK b k).set k (.int .i32 (peekB b ((k : Nat) : Int))))) (ho : ∀ j, j ≠ ro → W'.heap[j]? = W.heap[j]?) (hb : Below ro W W') : AllT w W' g ra ro m b (k + 1) :=
  ⟨h.q.other ho h.n1, VRow.oth h.z ho h.n2, hn, (ho m h.n3).trans h.hm, h.b.trans (hb.mono h.lo), h.lo, h.la, h.n1, h.n2, h.n3⟩
set_option maxHeartbeats 4000000 in
theorem allB_any : AllC 18 := by
  intro b w h
  have KO := Lib.hid (fun W => owners_any W)
  have HB := Lib.hid h
  unfold bv
  go_enter Tryz.func18, Tryz.ntmps18
  go_upto_region 2 with (fail)
  refine name_3 (Q := fun X => Code.wp _ _ _ _ X) ?_
  intro W0 hq1 hq2 hq3 hB0
  have R0 : Hid (BRow W0 w.heap.size 37 b) := Lib.hid hq1
  have Z0 : Hid (VRow W0 (w.heap.size + 1) 69 (outK b 0)) := Lib.hid hq2
  have O0 : Hid (VRow W0 (w.heap.size + 1 + 1) 69 (outK b 0)) := Lib.hid hq3
  have B0 := Lib.hid hB0
  clear hq1 hq2 hq3 hB0
  obtain ⟨g, hg⟩ : ∃ g, w.heap.size = g := ⟨_, rfl⟩
  obtain ⟨ra, hra⟩ : ∃ r, w.heap.size + 1 = r := ⟨_, rfl⟩
  obtain ⟨ro, hro⟩ : ∃ r, w.heap.size + 1 + 1 = r := ⟨_, rfl⟩
  have LO : Hid (w.heap.size ≤ ro) := Lib.hid (by omega)
  have LA : Hid (w.heap.size ≤ ra) := Lib.hid (by omega)
  have N1 : Hid (g ≠ ro) := Lib.hid (by omega)
  have N2 : Hid (ra ≠ ro) := Lib.hid (by omega)
  rw [hro] at O0 ⊢
  rw [hra] at Z0 ⊢
  rw [hg] at R0 ⊢
  clear hg hra hro
  go_wp2_with (go_at_call 38; refine (KO.out _).mono ?_; rintro e W1 ⟨rfl, hW1⟩
               have Q1 : Hid (AllT w W1 g ra ro W0.heap.size b 0) := Lib.hid (by
                 have hB1 : Below W0.heap.size W0 W1 := by rw [hW1]; exact (Below.refl _ _).alloc (Nat.le_refl _) _
                 exact ⟨R0.out.below hB1 R0.out.lt, VRow.below Z0.out hB1 (VRow.lt Z0.out), VRow.below O0.out hB1 (VRow.lt O0.out), by rw [hW1]; exact alloc_at _ _, B0.out.trans (hB1.mono B0.out.size), LO.out, LA.out, N1.out, N2.out, Nat.ne_of_gt (VRow.lt O0.out)⟩)
               clear hW1 R0 Z0 O0 B0 LO LA N1 N2)
  obtain ⟨m, hm⟩ : ∃ m, W0.heap.size = m := ⟨_, rfl⟩
  rw [hm] at Q1 ⊢
  clear hm
  go_loopw [7] (fun iv wx => ∃ k : Nat, k ≤ 15 ∧ iv = .int .i64 (k : Int) ∧ AllT w wx g ra ro m b k) (fun iv _ => 15 - (intOf iv).toNat)
  case atStart => exact ⟨0, by omega, rfl, Q1.out⟩
  case round =>
    clear Q1
    obtain ⟨k, hk, rfl, q1⟩ := hrel
    have Q1 := Lib.hid q1
    clear q1
    obtain ⟨u, hu⟩ : ∃ W, wr = W := ⟨_, rfl⟩
    rw [hu] at Q1 ⊢
    clear hu
    have hcs : k = 0 ∨ k = 1 ∨ k = 2 ∨ k = 3 ∨ k = 4 ∨ k = 5 ∨ k = 6 ∨ k = 7 ∨ k = 8 ∨ k = 9 ∨ k = 10 ∨ k = 11 ∨ k = 12 ∨ k = 13 ∨ k = 14 ∨ k = 15 := by omega
    rcases hcs with rfl | rfl | rfl | rfl | rfl | rfl | rfl | rfl | rfl | rfl | rfl | rfl | rfl | rfl | rfl | rfl
    · have hl := run_look1 mtyD uIntB u m _ _ Q1.out.hm 0 0 (fn0 59) rfl
      have hl2 := run_look1 mtyD uIntB u m _ _ Q1.out.hm ((0 : Nat) : Int) 0 (fn0 59) rfl
      have hI := fun W => run_index_fifteen ro 0 W (by decide)
      have KM := Lib.hid (fun W => pinsOf_any g W)
      go_wp2_with (first
        | ((with_reducible show wpList _ _ _ (⟨none, .store 21 (.tmp 17) (.tmp 16), _, _, _, _⟩ :: _) _ _); refine wpList_store_c rfl 21 _ _ rfl ro 0 (by exact rfl) (.int .i32 (peekB b 0)) (by exact rfl) rfl (by kernel_rfl) 69 _ Q3.out.o (by rw [outK_length]; decide) ?_; intro W4 HN HO HBW
           have Q4 := Lib.hid (Q3.out.set HN.out HO.out HBW.out)
           clear HN HO HBW Q3)
        | (go_at_call 104; refine (peek_pinsOf c 0 _ _ (fun W hBW => look_pinsOf b 0 W g c 37 HB.out (by decide) (by decide) (Q2.out.q.below hBW Q2.out.q.lt) (C1.out.below hBW (VRow.lt C1.out)))).mono ?_; rintro e W3 ⟨rfl, hB⟩
           have Q3 := Lib.hid (Q2.out.under hB)
           clear hB Q2)
        | (go_at_call 59; refine (KM.out _).mono ?_; rintro e W2 ⟨rfl, hC, hB⟩
           have Q2 := Lib.hid (Q1.out.under hB)
           have C1 := Lib.hid hC
           clear hB hC Q1 hl hl2
           generalize u.heap.size = c at *))
      go_roundw
      case rel => exact ⟨1, by omega, by first | rfl | go_num, Q4.out⟩
      case measure => simp [intOf]
    · have hl := run_look1 mtyD uIntB u m _ _ Q1.out.hm 1 1 (fn0 59) rfl
      have hl2 := run_look1 mtyD uIntB u m _ _ Q1.out.hm ((1 : Nat) : Int) 1 (fn0 59) rfl
      have hI := fun W => run_index_fifteen ro 1 W (by decide)
      have KM := Lib.hid (fun W => pinsOf_any g W)
      go_wp2_with (first
        | ((with_reducible show wpList _ _ _ (⟨none, .store 21 (.tmp 17) (.tmp 16), _, _, _, _⟩ :: _) _ _); refine wpList_store_c rfl 21 _ _ rfl ro 1 (by exact rfl) (.int .i32 (peekB b 1)) (by exact rfl) rfl (by kernel_rfl) 69 _ Q3.out.o (by rw [outK_length]; decide) ?_; intro W4 HN HO HBW
           have Q4 := Lib.hid (Q3.out.set HN.out HO.out HBW.out)
           clear HN HO HBW Q3)
        | (go_at_call 104; refine (peek_pinsOf c 1 _ _ (fun W hBW => look_pinsOf b 1 W g c 37 HB.out (by decide) (by decide) (Q2.out.q.below hBW Q2.out.q.lt) (C1.out.below hBW (VRow.lt C1.out)))).mono ?_; rintro e W3 ⟨rfl, hB⟩
           have Q3 := Lib.hid (Q2.out.under hB)
           clear hB Q2)
        | (go_at_call 59; refine (KM.out _).mono ?_; rintro e W2 ⟨rfl, hC, hB⟩
           have Q2 := Lib.hid (Q1.out.under hB)
           have C1 := Lib.hid hC
           clear hB hC Q1 hl hl2
           generalize u.heap.size = c at *))
      go_roundw
      case rel => exact ⟨2, by omega, by first | rfl | go_num, Q4.out⟩
      case measure => simp [intOf]
    · have hl := run_look1 mtyD uIntB u m _ _ Q1.out.hm 2 2 (fn0 59) rfl
      have hl2 := run_look1 mtyD uIntB u m _ _ Q1.out.hm ((2 : Nat) : Int) 2 (fn0 59) rfl
      have hI := fun W => run_index_fifteen ro 2 W (by decide)
      have KM := Lib.hid (fun W => pinsOf_any g W)
      go_wp2_with (first
        | ((with_reducible show wpList _ _ _ (⟨none, .store 21 (.tmp 17) (.tmp 16), _, _, _, _⟩ :: _) _ _); refine wpList_store_c rfl 21 _ _ rfl ro 2 (by exact rfl) (.int .i32 (peekB b 2)) (by exact rfl) rfl (by kernel_rfl) 69 _ Q3.out.o (by rw [outK_length]; decide) ?_; intro W4 HN HO HBW
           have Q4 := Lib.hid (Q3.out.set HN.out HO.out HBW.out)
           clear HN HO HBW Q3)
        | (go_at_call 104; refine (peek_pinsOf c 2 _ _ (fun W hBW => look_pinsOf b 2 W g c 37 HB.out (by decide) (by decide) (Q2.out.q.below hBW Q2.out.q.lt) (C1.out.below hBW (VRow.lt C1.out)))).mono ?_; rintro e W3 ⟨rfl, hB⟩
           have Q3 := Lib.hid (Q2.out.under hB)
           clear hB Q2)
        | (go_at_call 59; refine (KM.out _).mono ?_; rintro e W2 ⟨rfl, hC, hB⟩
           have Q2 := Lib.hid (Q1.out.under hB)
           have C1 := Lib.hid hC
           clear hB hC Q1 hl hl2
           generalize u.heap.size = c at *))
      go_roundw
      case rel => exact ⟨3, by omega, by first | rfl | go_num, Q4.out⟩
      case measure => simp [intOf]
    · have hl := run_look1 mtyD uIntB u m _ _ Q1.out.hm 3 3 (fn0 60) rfl
      have hl2 := run_look1 mtyD uIntB u m _ _ Q1.out.hm ((3 : Nat) : Int) 3 (fn0 60) rfl
      have hI := fun W => run_index_fifteen ro 3 W (by decide)
      have KM := Lib.hid (fun W => serialOf_any g W)
      go_wp2_with (first
        | ((with_reducible show wpList _ _ _ (⟨none, .store 21 (.tmp 17) (.tmp 16), _, _, _, _⟩ :: _) _ _); refine wpList_store_c rfl 21 _ _ rfl ro 3 (by exact rfl) (.int .i32 (peekB b 3)) (by exact rfl) rfl (by kernel_rfl) 69 _ Q3.out.o (by rw [outK_length]; decide) ?_; intro W4 HN HO HBW
           have Q4 := Lib.hid (Q3.out.set HN.out HO.out HBW.out)
           clear HN HO HBW Q3)
        | (go_at_call 104; refine (peek_serialOf c 3 _ _ (fun W hBW => look_serialOf b 3 W g c 37 HB.out (by decide) (by decide) (Q2.out.q.below hBW Q2.out.q.lt) (C1.out.below hBW (VRow.lt C1.out)))).mono ?_; rintro e W3 ⟨rfl, hB⟩
           have Q3 := Lib.hid (Q2.out.under hB)
           clear hB Q2)
        | (go_at_call 60; refine (KM.out _).mono ?_; rintro e W2 ⟨rfl, hC, hB⟩
           have Q2 := Lib.hid (Q1.out.under hB)
           have C1 := Lib.hid hC
           clear hB hC Q1 hl hl2
           generalize u.heap.size = c at *))
      go_roundw
      case rel => exact ⟨4, by omega, by first | rfl | go_num, Q4.out⟩
      case measure => simp [intOf]
    · have hl := run_look1 mtyD uIntB u m _ _ Q1.out.hm 4 4 (fn0 60) rfl
      have hl2 := run_look1 mtyD uIntB u m _ _ Q1.out.hm ((4 : Nat) : Int) 4 (fn0 60) rfl
      have hI := fun W => run_index_fifteen ro 4 W (by decide)
      have KM := Lib.hid (fun W => serialOf_any g W)
      go_wp2_with (first
        | ((with_reducible show wpList _ _ _ (⟨none, .store 21 (.tmp 17) (.tmp 16), _, _, _, _⟩ :: _) _ _); refine wpList_store_c rfl 21 _ _ rfl ro 4 (by exact rfl) (.int .i32 (peekB b 4)) (by exact rfl) rfl (by kernel_rfl) 69 _ Q3.out.o (by rw [outK_length]; decide) ?_; intro W4 HN HO HBW
           have Q4 := Lib.hid (Q3.out.set HN.out HO.out HBW.out)
           clear HN HO HBW Q3)
        | (go_at_call 104; refine (peek_serialOf c 4 _ _ (fun W hBW => look_serialOf b 4 W g c 37 HB.out (by decide) (by decide) (Q2.out.q.below hBW Q2.out.q.lt) (C1.out.below hBW (VRow.lt C1.out)))).mono ?_; rintro e W3 ⟨rfl, hB⟩
           have Q3 := Lib.hid (Q2.out.under hB)
           clear hB Q2)
        | (go_at_call 60; refine (KM.out _).mono ?_; rintro e W2 ⟨rfl, hC, hB⟩
           have Q2 := Lib.hid (Q1.out.under hB)
           have C1 := Lib.hid hC
           clear hB hC Q1 hl hl2
           generalize u.heap.size = c at *))
      go_roundw
      case rel => exact ⟨5, by omega, by first | rfl | go_num, Q4.out⟩
      case measure => simp [intOf]
    · have hl := run_look1 mtyD uIntB u m _ _ Q1.out.hm 5 5 (fn0 60) rfl
      have hl2 := run_look1 mtyD uIntB u m _ _ Q1.out.hm ((5 : Nat) : Int) 5 (fn0 60) rfl
      have hI := fun W => run_index_fifteen ro 5 W (by decide)
      have KM := Lib.hid (fun W => serialOf_any g W)
      go_wp2_with (first
        | ((with_reducible show wpList _ _ _ (⟨none, .store 21 (.tmp 17) (.tmp 16), _, _, _, _⟩ :: _) _ _); refine wpList_store_c rfl 21 _ _ rfl ro 5 (by exact rfl) (.int .i32 (peekB b 5)) (by exact rfl) rfl (by kernel_rfl) 69 _ Q3.out.o (by rw [outK_length]; decide) ?_; intro W4 HN HO HBW
           have Q4 := Lib.hid (Q3.out.set HN.out HO.out HBW.out)
           clear HN HO HBW Q3)
        | (go_at_call 104; refine (peek_serialOf c 5 _ _ (fun W hBW => look_serialOf b 5 W g c 37 HB.out (by decide) (by decide) (Q2.out.q.below hBW Q2.out.q.lt) (C1.out.below hBW (VRow.lt C1.out)))).mono ?_; rintro e W3 ⟨rfl, hB⟩
           have Q3 := Lib.hid (Q2.out.under hB)
           clear hB Q2)
        | (go_at_call 60; refine (KM.out _).mono ?_; rintro e W2 ⟨rfl, hC, hB⟩
           have Q2 := Lib.hid (Q1.out.under hB)
           have C1 := Lib.hid hC
           clear hB hC Q1 hl hl2
           generalize u.heap.size = c at *))
      go_roundw
      case rel => exact ⟨6, by omega, by first | rfl | go_num, Q4.out⟩
      case measure => simp [intOf]
    · have hl := run_look1 mtyD uIntB u m _ _ Q1.out.hm 6 6 (fn0 61) rfl
      have hl2 := run_look1 mtyD uIntB u m _ _ Q1.out.hm ((6 : Nat) : Int) 6 (fn0 61) rfl
      have hI := fun W => run_index_fifteen ro 6 W (by decide)
      have KM := Lib.hid (fun W => firstOf_any g W)
      go_wp2_with (first
        | ((with_reducible show wpList _ _ _ (⟨none, .store 21 (.tmp 17) (.tmp 16), _, _, _, _⟩ :: _) _ _); refine wpList_store_c rfl 21 _ _ rfl ro 6 (by exact rfl) (.int .i32 (peekB b 6)) (by exact rfl) rfl (by kernel_rfl) 69 _ Q3.out.o (by rw [outK_length]; decide) ?_; intro W4 HN HO HBW
           have Q4 := Lib.hid (Q3.out.set HN.out HO.out HBW.out)
           clear HN HO HBW Q3)
        | (go_at_call 104; refine (peek_counterOf c d 6 _ _ (fun W hBW => look_counterOf b.t0 6 6 0 W g 24 c d HB.out.t0 (by decide) (by decide) (by decide) ⟨C1.out.below hBW (VRow.lt C1.out), D1.out.below hBW (VRow.lt D1.out), (Q2.out.q.below hBW Q2.out.q.lt).ta, (Q2.out.q.below hBW Q2.out.q.lt).lt, Below.refl _ _⟩)).mono ?_; rintro e W3 ⟨rfl, hB⟩
           have Q3 := Lib.hid (Q2.out.under hB)
           clear hB Q2)
        | (go_at_call 61; refine (KM.out _).mono ?_; rintro e W2 ⟨rfl, hC, hD, hB⟩
           have Q2 := Lib.hid (Q1.out.under hB)
           have C1 := Lib.hid hC
           have D1 := Lib.hid hD
           clear hB hC Q1 hl hl2 hD
           generalize u.heap.size + 1 = d at *
           generalize u.heap.size = c at *))
      go_roundw
      case rel => exact ⟨7, by omega, by first | rfl | go_num, Q4.out⟩
      case measure => simp [intOf]
    · have hl := run_look1 mtyD uIntB u m _ _ Q1.out.hm 7 7 (fn0 61) rfl
      have hl2 := run_look1 mtyD uIntB u m _ _ Q1.out.hm ((7 : Nat) : Int) 7 (fn0 61) rfl
      have hI := fun W => run_index_fifteen ro 7 W (by decide)
      have KM := Lib.hid (fun W => firstOf_any g W)
      go_wp2_with (first
        | ((with_reducible show wpList _ _ _ (⟨none, .store 21 (.tmp 17) (.tmp 16), _, _, _, _⟩ :: _) _ _); refine wpList_store_c rfl 21 _ _ rfl ro 7 (by exact rfl) (.int .i32 (peekB b 7)) (by exact rfl) rfl (by kernel_rfl) 69 _ Q3.out.o (by rw [outK_length]; decide) ?_; intro W4 HN HO HBW
           have Q4 := Lib.hid (Q3.out.set HN.out HO.out HBW.out)
           clear HN HO HBW Q3)
        | (go_at_call 104; refine (peek_counterOf c d 7 _ _ (fun W hBW => look_counterOf b.t0 7 6 1 W g 24 c d HB.out.t0 (by decide) (by decide) (by decide) ⟨C1.out.below hBW (VRow.lt C1.out), D1.out.below hBW (VRow.lt D1.out), (Q2.out.q.below hBW Q2.out.q.lt).ta, (Q2.out.q.below hBW Q2.out.q.lt).lt, Below.refl _ _⟩)).mono ?_; rintro e W3 ⟨rfl, hB⟩
           have Q3 := Lib.hid (Q2.out.under hB)
           clear hB Q2)
        | (go_at_call 61; refine (KM.out _).mono ?_; rintro e W2 ⟨rfl, hC, hD, hB⟩
           have Q2 := Lib.hid (Q1.out.under hB)
           have C1 := Lib.hid hC
           have D1 := Lib.hid hD
           clear hB hC Q1 hl hl2 hD
           generalize u.heap.size + 1 = d at *
           generalize u.heap.size = c at *))
      go_roundw
      case rel => exact ⟨8, by omega, by first | rfl | go_num, Q4.out⟩
      case measure => simp [intOf]
    · have hl := run_look1 mtyD uIntB u m _ _ Q1.out.hm 8 8 (fn0 61) rfl
      have hl2 := run_look1 mtyD uIntB u m _ _ Q1.out.hm ((8 : Nat) : Int) 8 (fn0 61) rfl
      have hI := fun W => run_index_fifteen ro 8 W (by decide)
      have KM := Lib.hid (fun W => firstOf_any g W)
      go_wp2_with (first
        | ((with_reducible show wpList _ _ _ (⟨none, .store 21 (.tmp 17) (.tmp 16), _, _, _, _⟩ :: _) _ _); refine wpList_store_c rfl 21 _ _ rfl ro 8 (by exact rfl) (.int .i32 (peekB b 8)) (by exact rfl) rfl (by kernel_rfl) 69 _ Q3.out.o (by rw [outK_length]; decide) ?_; intro W4 HN HO HBW
           have Q4 := Lib.hid (Q3.out.set HN.out HO.out HBW.out)
           clear HN HO HBW Q3)
        | (go_at_call 104; refine (peek_counterOf c d 8 _ _ (fun W hBW => look_counterOf b.t0 8 6 2 W g 24 c d HB.out.t0 (by decide) (by decide) (by decide) ⟨C1.out.below hBW (VRow.lt C1.out), D1.out.below hBW (VRow.lt D1.out), (Q2.out.q.below hBW Q2.out.q.lt).ta, (Q2.out.q.below hBW Q2.out.q.lt).lt, Below.refl _ _⟩)).mono ?_; rintro e W3 ⟨rfl, hB⟩
           have Q3 := Lib.hid (Q2.out.under hB)
           clear hB Q2)
        | (go_at_call 61; refine (KM.out _).mono ?_; rintro e W2 ⟨rfl, hC, hD, hB⟩
           have Q2 := Lib.hid (Q1.out.under hB)
           have C1 := Lib.hid hC
           have D1 := Lib.hid hD
           clear hB hC Q1 hl hl2 hD
           generalize u.heap.size + 1 = d at *
           generalize u.heap.size = c at *))
      go_roundw
      case rel => exact ⟨9, by omega, by first | rfl | go_num, Q4.out⟩
      case measure => simp [intOf]
    · have hl := run_look1 mtyD uIntB u m _ _ Q1.out.hm 9 9 (fn0 62) rfl
      have hl2 := run_look1 mtyD uIntB u m _ _ Q1.out.hm ((9 : Nat) : Int) 9 (fn0 62) rfl
      have hI := fun W => run_index_fifteen ro 9 W (by decide)
      have KM := Lib.hid (fun W => secondOf_any g W)
      go_wp2_with (first
        | ((with_reducible show wpList _ _ _ (⟨none, .store 21 (.tmp 17) (.tmp 16), _, _, _, _⟩ :: _) _ _); refine wpList_store_c rfl 21 _ _ rfl ro 9 (by exact rfl) (.int .i32 (peekB b 9)) (by exact rfl) rfl (by kernel_rfl) 69 _ Q3.out.o (by rw [outK_length]; decide) ?_; intro W4 HN HO HBW
           have Q4 := Lib.hid (Q3.out.set HN.out HO.out HBW.out)
           clear HN HO HBW Q3)
        | (go_at_call 104; refine (peek_counterOf c d 9 _ _ (fun W hBW => look_counterOf b.t1 9 9 0 W g 27 c d HB.out.t1 (by decide) (by decide) (by decide) ⟨C1.out.below hBW (VRow.lt C1.out), D1.out.below hBW (VRow.lt D1.out), (Q2.out.q.below hBW Q2.out.q.lt).tb, (Q2.out.q.below hBW Q2.out.q.lt).lt, Below.refl _ _⟩)).mono ?_; rintro e W3 ⟨rfl, hB⟩
           have Q3 := Lib.hid (Q2.out.under hB)
           clear hB Q2)
        | (go_at_call 62; refine (KM.out _).mono ?_; rintro e W2 ⟨rfl, hC, hD, hB⟩
           have Q2 := Lib.hid (Q1.out.under hB)
           have C1 := Lib.hid hC
           have D1 := Lib.hid hD
           clear hB hC Q1 hl hl2 hD
           generalize u.heap.size + 1 = d at *
           generalize u.heap.size = c at *))
      go_roundw
      case rel => exact ⟨10, by omega, by first | rfl | go_num, Q4.out⟩
      case measure => simp [intOf]
    · have hl := run_look1 mtyD uIntB u m _ _ Q1.out.hm 10 10 (fn0 62) rfl
      have hl2 := run_look1 mtyD uIntB u m _ _ Q1.out.hm ((10 : Nat) : Int) 10 (fn0 62) rfl
      have hI := fun W => run_index_fifteen ro 10 W (by decide)
      have KM := Lib.hid (fun W => secondOf_any g W)
      go_wp2_with (first
        | ((with_reducible show wpList _ _ _ (⟨none, .store 21 (.tmp 17) (.tmp 16), _, _, _, _⟩ :: _) _ _); refine wpList_store_c rfl 21 _ _ rfl ro 10 (by exact rfl) (.int .i32 (peekB b 10)) (by exact rfl) rfl (by kernel_rfl) 69 _ Q3.out.o (by rw [outK_length]; decide) ?_; intro W4 HN HO HBW
           have Q4 := Lib.hid (Q3.out.set HN.out HO.out HBW.out)
           clear HN HO HBW Q3)
        | (go_at_call 104; refine (peek_counterOf c d 10 _ _ (fun W hBW => look_counterOf b.t1 10 9 1 W g 27 c d HB.out.t1 (by decide) (by decide) (by decide) ⟨C1.out.below hBW (VRow.lt C1.out), D1.out.below hBW (VRow.lt D1.out), (Q2.out.q.below hBW Q2.out.q.lt).tb, (Q2.out.q.below hBW Q2.out.q.lt).lt, Below.refl _ _⟩)).mono ?_; rintro e W3 ⟨rfl, hB⟩
           have Q3 := Lib.hid (Q2.out.under hB)
           clear hB Q2)
        | (go_at_call 62; refine (KM.out _).mono ?_; rintro e W2 ⟨rfl, hC, hD, hB⟩
           have Q2 := Lib.hid (Q1.out.under hB)
           have C1 := Lib.hid hC
           have D1 := Lib.hid hD
           clear hB hC Q1 hl hl2 hD
           generalize u.heap.size + 1 = d at *
           generalize u.heap.size = c at *))
      go_roundw
      case rel => exact ⟨11, by omega, by first | rfl | go_num, Q4.out⟩
      case measure => simp [intOf]
    · have hl := run_look1 mtyD uIntB u m _ _ Q1.out.hm 11 11 (fn0 62) rfl
      have hl2 := run_look1 mtyD uIntB u m _ _ Q1.out.hm ((11 : Nat) : Int) 11 (fn0 62) rfl
      have hI := fun W => run_index_fifteen ro 11 W (by decide)
      have KM := Lib.hid (fun W => secondOf_any g W)
      go_wp2_with (first
        | ((with_reducible show wpList _ _ _ (⟨none, .store 21 (.tmp 17) (.tmp 16), _, _, _, _⟩ :: _) _ _); refine wpList_store_c rfl 21 _ _ rfl ro 11 (by exact rfl) (.int .i32 (peekB b 11)) (by exact rfl) rfl (by kernel_rfl) 69 _ Q3.out.o (by rw [outK_length]; decide) ?_; intro W4 HN HO HBW
           have Q4 := Lib.hid (Q3.out.set HN.out HO.out HBW.out)
           clear HN HO HBW Q3)
        | (go_at_call 104; refine (peek_counterOf c d 11 _ _ (fun W hBW => look_counterOf b.t1 11 9 2 W g 27 c d HB.out.t1 (by decide) (by decide) (by decide) ⟨C1.out.below hBW (VRow.lt C1.out), D1.out.below hBW (VRow.lt D1.out), (Q2.out.q.below hBW Q2.out.q.lt).tb, (Q2.out.q.below hBW Q2.out.q.lt).lt, Below.refl _ _⟩)).mono ?_; rintro e W3 ⟨rfl, hB⟩
           have Q3 := Lib.hid (Q2.out.under hB)
           clear hB Q2)
        | (go_at_call 62; refine (KM.out _).mono ?_; rintro e W2 ⟨rfl, hC, hD, hB⟩
           have Q2 := Lib.hid (Q1.out.under hB)
           have C1 := Lib.hid hC
           have D1 := Lib.hid hD
           clear hB hC Q1 hl hl2 hD
           generalize u.heap.size + 1 = d at *
           generalize u.heap.size = c at *))
      go_roundw
      case rel => exact ⟨12, by omega, by first | rfl | go_num, Q4.out⟩
      case measure => simp [intOf]
    · have hl := run_look1 mtyD uIntB u m _ _ Q1.out.hm 12 12 (fn0 63) rfl
      have hl2 := run_look1 mtyD uIntB u m _ _ Q1.out.hm ((12 : Nat) : Int) 12 (fn0 63) rfl
      have hI := fun W => run_index_fifteen ro 12 W (by decide)
      have KM := Lib.hid (fun W => controllerOf_any g W)
      go_wp2_with (first
        | ((with_reducible show wpList _ _ _ (⟨none, .store 21 (.tmp 17) (.tmp 16), _, _, _, _⟩ :: _) _ _); refine wpList_store_c rfl 21 _ _ rfl ro 12 (by exact rfl) (.int .i32 (peekB b 12)) (by exact rfl) rfl (by kernel_rfl) 69 _ Q3.out.o (by rw [outK_length]; decide) ?_; intro W4 HN HO HBW
           have Q4 := Lib.hid (Q3.out.set HN.out HO.out HBW.out)
           clear HN HO HBW Q3)
        | (go_at_call 104; refine (peek_controllerOf c 12 _ _ (fun W hBW => look_controllerOf b 12 W g c 37 HB.out (by decide) (by decide) (Q2.out.q.below hBW Q2.out.q.lt) (C1.out.below hBW (VRow.lt C1.out)))).mono ?_; rintro e W3 ⟨rfl, hB⟩
           have Q3 := Lib.hid (Q2.out.under hB)
           clear hB Q2)
        | (go_at_call 63; refine (KM.out _).mono ?_; rintro e W2 ⟨rfl, hC, hB⟩
           have Q2 := Lib.hid (Q1.out.under hB)
           have C1 := Lib.hid hC
           clear hB hC Q1 hl hl2
           generalize u.heap.size = c at *))
      go_roundw
      case rel => exact ⟨13, by omega, by first | rfl | go_num, Q4.out⟩
      case measure => simp [intOf]
    · have hl := run_look1 mtyD uIntB u m _ _ Q1.out.hm 13 13 (fn0 63) rfl
      have hl2 := run_look1 mtyD uIntB u m _ _ Q1.out.hm ((13 : Nat) : Int) 13 (fn0 63) rfl
      have hI := fun W => run_index_fifteen ro 13 W (by decide)
      have KM := Lib.hid (fun W => controllerOf_any g W)
      go_wp2_with (first
        | ((with_reducible show wpList _ _ _ (⟨none, .store 21 (.tmp 17) (.tmp 16), _, _, _, _⟩ :: _) _ _); refine wpList_store_c rfl 21 _ _ rfl ro 13 (by exact rfl) (.int .i32 (peekB b 13)) (by exact rfl) rfl (by kernel_rfl) 69 _ Q3.out.o (by rw [outK_length]; decide) ?_; intro W4 HN HO HBW
           have Q4 := Lib.hid (Q3.out.set HN.out HO.out HBW.out)
           clear HN HO HBW Q3)
        | (go_at_call 104; refine (peek_controllerOf c 13 _ _ (fun W hBW => look_controllerOf b 13 W g c 37 HB.out (by decide) (by decide) (Q2.out.q.below hBW Q2.out.q.lt) (C1.out.below hBW (VRow.lt C1.out)))).mono ?_; rintro e W3 ⟨rfl, hB⟩
           have Q3 := Lib.hid (Q2.out.under hB)
           clear hB Q2)
        | (go_at_call 63; refine (KM.out _).mono ?_; rintro e W2 ⟨rfl, hC, hB⟩
           have Q2 := Lib.hid (Q1.out.under hB)
           have C1 := Lib.hid hC
           clear hB hC Q1 hl hl2
           generalize u.heap.size = c at *))
      go_roundw
      case rel => exact ⟨14, by omega, by first | rfl | go_num, Q4.out⟩
      case measure => simp [intOf]
    · have hl := run_look1 mtyD uIntB u m _ _ Q1.out.hm 14 14 (fn0 63) rfl
      have hl2 := run_look1 mtyD uIntB u m _ _ Q1.out.hm ((14 : Nat) : Int) 14 (fn0 63) rfl
      have hI := fun W => run_index_fifteen ro 14 W (by decide)
      have KM := Lib.hid (fun W => controllerOf_any g W)
      go_wp2_with (first
        | ((with_reducible show wpList _ _ _ (⟨none, .store 21 (.tmp 17) (.tmp 16), _, _, _, _⟩ :: _) _ _); refine wpList_store_c rfl 21 _ _ rfl ro 14 (by exact rfl) (.int .i32 (peekB b 14)) (by exact rfl) rfl (by kernel_rfl) 69 _ Q3.out.o (by rw [outK_length]; decide) ?_; intro W4 HN HO HBW
           have Q4 := Lib.hid (Q3.out.set HN.out HO.out HBW.out)
           clear HN HO HBW Q3)
        | (go_at_call 104; refine (peek_controllerOf c 14 _ _ (fun W hBW => look_controllerOf b 14 W g c 37 HB.out (by decide) (by decide) (Q2.out.q.below hBW Q2.out.q.lt) (C1.out.below hBW (VRow.lt C1.out)))).mono ?_; rintro e W3 ⟨rfl, hB⟩
           have Q3 := Lib.hid (Q2.out.under hB)
           clear hB Q2)
        | (go_at_call 63; refine (KM.out _).mono ?_; rintro e W2 ⟨rfl, hC, hB⟩
           have Q2 := Lib.hid (Q1.out.under hB)
           have C1 := Lib.hid hC
           clear hB hC Q1 hl hl2
           generalize u.heap.size = c at *))
      go_roundw
      case rel => exact ⟨15, by omega, by first | rfl | go_num, Q4.out⟩
      case measure => simp [intOf]
    · go_wp2_with (first
        | ((with_reducible show wpList _ _ _ (⟨none, .store 69 (.tmp 2) (.tmp 19), _, _, _, _⟩ :: _) _ _); refine wpList_store_v rfl 69 _ _ rfl ra (by exact rfl) (outK b 15) (by exact rfl) (by rw [outK_length]; kernel_rfl) (outK_one b 15) 69 _ Q1.out.z (by rw [outK_length, outK_length]) ?_; intro WZ HN HO HB
           have HZ := HN
           have BZ := Lib.hid (Q1.out.b.trans (HB.out.mono Q1.out.la))
           clear HN HO HB)
        | ((with_reducible show wpList _ _ _ (⟨some 19, .load 69 (.tmp 3), _, _, _, _⟩ :: _) _ _); refine wpList_load_arr (by rfl) 69 _ rfl ro (by exact rfl) _ _ Tryz.underlying69 69 (outK b 15) Q1.out.o (by rw [outK_length]; kernel_rfl) ?_))
      exact bodyPost_ret (v := .agg (outK b 15).toArray) (results_c Tryz.results18 _ _ _ _ _ rfl (run_loadVar_at WZ ra 0 69 (outK b 15) _ (row_cells HZ.out) Tryz.underlying69 rfl (by rw [outK_length]; kernel_rfl))) rfl ⟨by rw [outK_all], BZ.out⟩
end Go.Proofs.YtkodoldkfeopdaaGreat
