/-
  UartApart's walk, if the program's functions are what they must be: true. Made by wip/genuartapart.py.
-/
import Derived.Test.YtgpgijdciaieaaaOs
import Derived.Deep.DeepCutAuto
import Derived.Deep.CutBlock
namespace Go.Proofs.Ytgpgijdciaieaaa
open Go.RowKit
set_option linter.unusedVariables false
theorem lowN_small' (b : Nat) (h : b < 256) : lowN (b : Int) = b := by
  unfold lowN
  omega
theorem name_three {Q : World → Prop} {w : World} {o o2 o3 : Obj} (F : ∀ X : World, X.heap[w.heap.size]? = some o → X.heap[w.heap.size + 1]? = some o2 → X.heap[w.heap.size + 1 + 1]? = some o3 → Below w.heap.size w X → w.heap.size + 1 + 1 < X.heap.size → Q X) : Q (((w.alloc o).alloc o2).alloc o3) := by
  have h3 := alloc_at ((w.alloc o).alloc o2) o3
  have hs : ((w.alloc o).alloc o2).heap.size = w.heap.size + 1 + 1 := by simp
  have hb : Below (w.heap.size + 1 + 1) ((w.alloc o).alloc o2) (((w.alloc o).alloc o2).alloc o3) := (Below.refl _ _).alloc (by simp) _
  rw [hs] at h3
  exact F _ ((hb.block _ (by omega)).trans (two_at0 _ _ _)) ((hb.block _ (by omega)).trans (two_at _ _ _)) h3 ((two_below _ _ _).trans (hb.mono (by omega))) (by simp)
theorem wpList_load_q9g {P : Program} {w : World} {n : Int} {bs : List Nat} {ops : Array Oper} {rest : List Oper} {o : Oper} {a : Act} {Q : Exit → Act → World → Prop} (hw : Region.wanted o (yielded ops a.tmps) = true) (ty : TypeId) (x : Operand) (ho : o.op = .load ty x) (g off : Nat) (hx : a.eval x = .pointer (some ⟨g, off, none⟩))
    (fs : Array Field) (hu : P.underlying ty = some (.struct fs)) (hi : (P.info? ty).map (·.size) = some 9) (hr : CellsAt w g off (.int .i64 n :: bvals bs)) (hb : bs.length = 8)
    (h : wpList P ops Q rest (a.put o.dst (qv n bs)) w) : wpList P ops Q (o :: rest) a w :=
  BigFrame.wpList_want hw fun _ hK => by
    unfold Oper.wp execOp
    simp only [ho, hx, Instr.loadAt, Instr.sureAddr, Sem.run_bind, Sem.run_pure, Result.andThen_ok, run_loadVar_at w g off ty _ _ hr hu rfl (by rw [hi]; simp [bv8 hb])]
    exact hK _ _ h
theorem stat_and5 (I O : List Nat) (l : Bool) : bits .and .i32 (statU I O l) 5 = bits .and .i32 (statU I [] l) 5 := by
  have h : ∀ a b d : Int, (a = 0 ∨ a = 1) → (b = 0 ∨ b = 2) → (d = 0 ∨ d = 4) → bits .and .i32 (a + b + d) 5 = bits .and .i32 (a + 0 + d) 5 := by
    rintro a b d (rfl | rfl) (rfl | rfl) (rfl | rfl) <;> decide
  refine h _ _ _ ?_ ?_ ?_
  · split
    · exact .inl rfl
    · exact .inr rfl
  · split
    · exact .inr rfl
    · exact .inl rfl
  · split
    · exact .inr rfl
    · exact .inl rfl
theorem Rg.inn {I O : List Nat} {c k : Nat} (h : Rg I O c k) : Rg I [] c 0 := ⟨h.i8, by decide, h.ib, by decide, h.c8, by decide, fun _ => rfl⟩
theorem Rg.outt {I O : List Nat} {c k : Nat} (h : Rg I O c k) : Rg [] O c k := ⟨by decide, h.o8, by decide, h.ob, h.c8, h.k4, h.k0⟩
set_option maxHeartbeats 16000000 in
set_option maxRecDepth 100000 in
theorem apart_walk (H : UartOk) (A : Option Addr) (len cap : Nat) (w : World) (hlen : len ≤ 9223372036854775807) (hA : ActsIn w A len) :
    Calls Try.prog 6 #[.slice A len cap] w fun e w' => e = .returned (.bool true) ∧ Below w.heap.size w w' := by
  have HA := Lib.hid hA
  clear hA
  go_enter Try.func6, Try.ntmps6
  go_upto_region 4 with (go_at_call 11; refine (works_any H _).mono ?_; rintro e w0 ⟨rfl, hB⟩; have HB0 := Lib.hid hB; clear hB)
  refine name_three (Q := fun X => Code.wp _ _ _ _ X) ?_
  intro W0 hq1 hq2 hq3 hB1 hz
  have RU0 : Hid (URow W0 w0.heap.size 26 0 Z8 0 Z8 false 0 0) := Lib.hid ⟨hq1, rfl, rfl⟩
  have RI0 : Hid (URow W0 (w0.heap.size + 1) 26 0 Z8 0 Z8 false 0 0) := Lib.hid ⟨hq2, rfl, rfl⟩
  have RO0 : Hid (URow W0 (w0.heap.size + 1 + 1) 26 0 Z8 0 Z8 false 0 0) := Lib.hid ⟨hq3, rfl, rfl⟩
  have BB0 : Hid (Below w.heap.size w W0) := Lib.hid (HB0.out.trans (hB1.mono HB0.out.size))
  have LE_RU := Lib.hid HB0.out.size
  clear hq1 hq2 hq3 hB1 hz HB0
  obtain ⟨gu, hgu⟩ : ∃ gu, w0.heap.size = gu := ⟨_, rfl⟩
  rw [hgu] at RU0 RI0 RO0 LE_RU ⊢
  obtain ⟨gi, hgi⟩ : ∃ gi, gu + 1 = gi := ⟨_, rfl⟩
  rw [hgi] at RI0 RO0 ⊢
  obtain ⟨go, hgo⟩ : ∃ go, gi + 1 = go := ⟨_, rfl⟩
  rw [hgo] at RO0 ⊢
  have le0 := LE_RU.out
  have LE_RI : Hid (w.heap.size ≤ gi) := Lib.hid (by omega)
  have LE_RO : Hid (w.heap.size ≤ go) := Lib.hid (by omega)
  have NE_RU_RI : Hid (gu ≠ gi) := Lib.hid (by omega)
  have NE_RU_RO : Hid (gu ≠ go) := Lib.hid (by omega)
  have NE_RI_RU : Hid (gi ≠ gu) := Lib.hid (by omega)
  have NE_RI_RO : Hid (gi ≠ go) := Lib.hid (by omega)
  have NE_RO_RU : Hid (go ≠ gu) := Lib.hid (by omega)
  have NE_RO_RI : Hid (go ≠ gi) := Lib.hid (by omega)
  clear hgu hgi hgo le0
  go_wp2_with fail
  go_loopw [6] (fun iv wr => ∃ (k : Nat) (I O : List Nat) (l : Bool) (c tk : Nat), k ≤ len ∧ k ≤ 200 ∧ iv = .int .i64 k ∧ Rg I O c tk ∧ URow wr gu 26 ((I).length : Nat) (pad (I)) ((O).length : Nat) (pad (O)) l c tk ∧ URow wr gi 26 ((I).length : Nat) (pad (I)) 0 Z8 l c 0 ∧ URow wr go 26 0 Z8 ((O).length : Nat) (pad (O)) false c tk ∧ Below w.heap.size w wr) (fun iv _ => 200 - (intOf iv).toNat)
  case atStart => exact ⟨0, [], [], false, 0, 0, by omega, by omega, rfl, Rg.new, RU0.out, RI0.out, RO0.out, BB0.out⟩
  case round =>
    clear RU0 RI0 RO0 BB0
    obtain ⟨k, I, O, l, c, tk, hk, hk2, rfl, hrg, hu, hi, ho, hb⟩ := hrel
    have RG := Lib.hid hrg
    have RU_wr := Lib.hid hu
    have RI_wr := Lib.hid hi
    have RO_wr := Lib.hid ho
    have BB_wr := Lib.hid hb
    clear hrg hu hi ho hb
    by_cases hlt : k < len ∧ k < 200
    · obtain ⟨h1, h2⟩ := hlt
      obtain ⟨a, rfl, hab, wh, b, hwh, hb8, hc1, hc2⟩ := HA.out k h1
      have q1 := (BB_wr.out.cell (World.block_lt_of_cell? w _ hc1)).trans hc1
      have q2 := cell_next ((BB_wr.out.cell (World.block_lt_of_cell? w _ hc2)).trans hc2)
      have d1 : (k : Int) < (len : Int) := by omega
      have d2 : (k : Int) < 200 := by omega
      clear hab hc1 hc2
      obtain ⟨mm, hm, hm13⟩ : ∃ m : Nat, (wh : Int) % 13 = (m : Int) ∧ m < 13 := ⟨wh % 13, by omega, by omega⟩
      go_upto_block 2 with fail
      clear q2
      rw [hm]
      go_cut [12] (fun _ wx => ∃ (W : World) (I O : List Nat) (l : Bool) (c tk : Nat), W = wx ∧ Rg I O c tk ∧ URow W gu 26 ((I).length : Nat) (pad (I)) ((O).length : Nat) (pad (O)) l c tk ∧ URow W gi 26 ((I).length : Nat) (pad (I)) 0 Z8 l c 0 ∧ URow W go 26 0 Z8 ((O).length : Nat) (pad (O)) false c tk ∧ Below w.heap.size w W)
      case first =>
        by_cases ha : mm = 0 ∨ mm = 1
        · rcases ha with rfl | rfl
          ·
            clear q1 hm
            have RG2 := Lib.hid (RG.out.addI hb8)
            have hu := fun W => rt_arrive (l := l) H W RG.out b hb8
            have hi := fun W => rt_arrive (l := l) H W RG.out.inn b hb8
            generalize addL I b = J at *
            generalize arriveL I l = l2 at *
            generalize asksU I c = b2 at *
            have KU : Hid (∀ W : World, Calls Try.prog 12 #[uv ((I).length : Nat) (pad (I)) ((O).length : Nat) (pad (O)) l c tk, .int .u8 b] W fun e w' => e = .returned (.tuple #[uv ((J).length : Nat) (pad (J)) ((O).length : Nat) (pad (O)) l2 c tk, .bool b2]) ∧ Below W.heap.size W w') := Lib.hid hu
            have KI : Hid (∀ W : World, Calls Try.prog 12 #[uv ((I).length : Nat) (pad (I)) 0 Z8 l c 0, .int .u8 b] W fun e w' => e = .returned (.tuple #[uv ((J).length : Nat) (pad (J)) 0 Z8 l2 c 0, .bool b2]) ∧ Below W.heap.size W w') := Lib.hid hi
            clear hu hi
            as_aux_lemma =>
              go_wp2_with (first
      | ((with_reducible show wpList _ _ _ (⟨none, .store 26 (.tmp 4) (.tmp 96), _, _, _, _⟩ :: _) _ _); refine wpList_store_u rfl 26 _ _ rfl (gi) (by exact rfl) (by exact rfl) (by first | exact pad_length _ | exact rfl) (by first | exact pad_length _ | exact rfl) (by kernel_rfl) 26 RI_we.out ?_; intro wf HN HO HB
         have RU_wf : Hid (URow wf (gu) 26 ((J).length : Nat) (pad (J)) ((O).length : Nat) (pad (O)) l2 c tk) := Lib.hid (URow.other RU_we.out HO.out (NE_RU_RI.out))
         have RO_wf : Hid (URow wf (go) 26 0 Z8 ((O).length : Nat) (pad (O)) false c tk) := Lib.hid (URow.other RO_we.out HO.out (NE_RO_RI.out))
         have RV_wf : Hid (URow wf (wa.heap.size) 26 ((J).length : Nat) (pad (J)) ((O).length : Nat) (pad (O)) l2 c tk) := Lib.hid (URow.other RV_we.out HO.out (NE_RV_RI.out))
         have RX_wf : Hid (URow wf (wc.heap.size) 26 ((J).length : Nat) (pad (J)) 0 Z8 l2 c 0) := Lib.hid (URow.other RX_we.out HO.out (NE_RX_RI.out))
         have RI_wf : Hid (URow wf (gi) 26 ((J).length : Nat) (pad (J)) 0 Z8 l2 c 0) := HN
         have BB_wf : Hid (Below w.heap.size w wf) := Lib.hid (BB_we.out.trans (HB.out.mono LE_RI.out))
         clear HO HB HN RU_we RI_we RO_we RV_we RX_we BB_we)
      | ((with_reducible show wpList _ _ _ (⟨some 96, .load 26 (.tmp 10), _, _, _, _⟩ :: _) _ _); refine wpList_load_u (by rfl) 26 _ rfl (wc.heap.size) (by exact rfl) _ Try.underlying26 (by kernel_rfl) 26 (RX_we.out) ?_)
      | ((with_reducible show wpList _ _ _ (⟨none, .store 26 (.tmp 3) (.tmp 95), _, _, _, _⟩ :: _) _ _); refine wpList_store_u rfl 26 _ _ rfl (gu) (by exact rfl) (by exact rfl) (by first | exact pad_length _ | exact rfl) (by first | exact pad_length _ | exact rfl) (by kernel_rfl) 26 RU_wd.out ?_; intro we HN HO HB
         have RI_we : Hid (URow we (gi) 26 ((I).length : Nat) (pad (I)) 0 Z8 l c 0) := Lib.hid (URow.other RI_wd.out HO.out (NE_RI_RU.out))
         have RO_we : Hid (URow we (go) 26 0 Z8 ((O).length : Nat) (pad (O)) false c tk) := Lib.hid (URow.other RO_wd.out HO.out (NE_RO_RU.out))
         have RV_we : Hid (URow we (wa.heap.size) 26 ((J).length : Nat) (pad (J)) ((O).length : Nat) (pad (O)) l2 c tk) := Lib.hid (URow.other RV_wd.out HO.out (NE_RV_RU.out))
         have RX_we : Hid (URow we (wc.heap.size) 26 ((J).length : Nat) (pad (J)) 0 Z8 l2 c 0) := Lib.hid (URow.other RX_wd.out HO.out (NE_RX_RU.out))
         have RU_we : Hid (URow we (gu) 26 ((J).length : Nat) (pad (J)) ((O).length : Nat) (pad (O)) l2 c tk) := HN
         have BB_we : Hid (Below w.heap.size w we) := Lib.hid (BB_wd.out.trans (HB.out.mono LE_RU.out))
         clear HO HB HN RU_wd RI_wd RO_wd RV_wd RX_wd BB_wd)
      | ((with_reducible show wpList _ _ _ (⟨some 95, .load 26 (.tmp 8), _, _, _, _⟩ :: _) _ _); refine wpList_load_u (by rfl) 26 _ rfl (wa.heap.size) (by exact rfl) _ Try.underlying26 (by kernel_rfl) 26 (RV_wd.out) ?_)
      | ((with_reducible show wpList _ _ _ (⟨none, .store 26 (.tmp 10) (.tmp 90), _, _, _, _⟩ :: _) _ _); refine wpList_store_u  rfl 26 _ _ rfl (wc.heap.size) (by exact rfl) (by exact rfl) (by first | exact pad_length _ | exact rfl) (by first | exact pad_length _ | exact rfl) (by kernel_rfl) 26 (show URow _ _ _ 0 Z8 0 Z8 false 0 0 from ⟨alloc_at _ _, rfl, rfl⟩) ?_; intro wd HN HO HB
         have RU_wd : Hid (URow wd (gu) 26 ((I).length : Nat) (pad (I)) ((O).length : Nat) (pad (O)) l c tk) := Lib.hid (URow.other (URow.below RU_wc.out ((Below.refl _ _).alloc (Nat.le_refl _) _) RU_wc.out.lt) HO.out (Nat.ne_of_lt RU_wc.out.lt))
         have RI_wd : Hid (URow wd (gi) 26 ((I).length : Nat) (pad (I)) 0 Z8 l c 0) := Lib.hid (URow.other (URow.below RI_wc.out ((Below.refl _ _).alloc (Nat.le_refl _) _) RI_wc.out.lt) HO.out (Nat.ne_of_lt RI_wc.out.lt))
         have RO_wd : Hid (URow wd (go) 26 0 Z8 ((O).length : Nat) (pad (O)) false c tk) := Lib.hid (URow.other (URow.below RO_wc.out ((Below.refl _ _).alloc (Nat.le_refl _) _) RO_wc.out.lt) HO.out (Nat.ne_of_lt RO_wc.out.lt))
         have RV_wd : Hid (URow wd (wa.heap.size) 26 ((J).length : Nat) (pad (J)) ((O).length : Nat) (pad (O)) l2 c tk) := Lib.hid (URow.other (URow.below RV_wc.out ((Below.refl _ _).alloc (Nat.le_refl _) _) RV_wc.out.lt) HO.out (Nat.ne_of_lt RV_wc.out.lt))
         have RX_wd : Hid (URow wd wc.heap.size 26 ((J).length : Nat) (pad (J)) 0 Z8 l2 c 0) := HN
         have BB_wd : Hid (Below w.heap.size w wd) := Lib.hid ((BB_wc.out.alloc BB_wc.out.size _).trans (HB.out.mono BB_wc.out.size))
         have NE_RX_RU := Lib.hid (Nat.ne_of_gt RU_wc.out.lt)
         have NE_RX_RI := Lib.hid (Nat.ne_of_gt RI_wc.out.lt)
         have NE_RX_RO := Lib.hid (Nat.ne_of_gt RO_wc.out.lt)
         clear HO HB HN RU_wc RI_wc RO_wc RV_wc BB_wc)
      | (go_at_call 12; have hc := BB_wb; clear hc; refine (KI.out _).mono ?_; rintro e wc ⟨rfl, hB⟩
         have RU_wc : Hid (URow wc (gu) 26 ((I).length : Nat) (pad (I)) ((O).length : Nat) (pad (O)) l c tk) := Lib.hid (URow.below RU_wb.out hB RU_wb.out.lt)
         have RI_wc : Hid (URow wc (gi) 26 ((I).length : Nat) (pad (I)) 0 Z8 l c 0) := Lib.hid (URow.below RI_wb.out hB RI_wb.out.lt)
         have RO_wc : Hid (URow wc (go) 26 0 Z8 ((O).length : Nat) (pad (O)) false c tk) := Lib.hid (URow.below RO_wb.out hB RO_wb.out.lt)
         have RV_wc : Hid (URow wc (wa.heap.size) 26 ((J).length : Nat) (pad (J)) ((O).length : Nat) (pad (O)) l2 c tk) := Lib.hid (URow.below RV_wb.out hB RV_wb.out.lt)
         have BB_wc : Hid (Below w.heap.size w wc) := Lib.hid (BB_wb.out.trans (hB.mono BB_wb.out.size))
         clear hB RU_wb RI_wb RO_wb RV_wb BB_wb)
      | ((with_reducible show wpList _ _ _ (⟨some 87, .load 26 (.tmp 4), _, _, _, _⟩ :: _) _ _); refine wpList_load_u (by rfl) 26 _ rfl (gi) (by exact rfl) _ Try.underlying26 (by kernel_rfl) 26 (RI_wb.out) ?_)
      | ((with_reducible show wpList _ _ _ (⟨none, .store 26 (.tmp 8) (.tmp 84), _, _, _, _⟩ :: _) _ _); refine wpList_store_u  rfl 26 _ _ rfl (wa.heap.size) (by exact rfl) (by exact rfl) (by first | exact pad_length _ | exact rfl) (by first | exact pad_length _ | exact rfl) (by kernel_rfl) 26 (show URow _ _ _ 0 Z8 0 Z8 false 0 0 from ⟨alloc_at _ _, rfl, rfl⟩) ?_; intro wb HN HO HB
         have RU_wb : Hid (URow wb (gu) 26 ((I).length : Nat) (pad (I)) ((O).length : Nat) (pad (O)) l c tk) := Lib.hid (URow.other (URow.below RU_wa.out ((Below.refl _ _).alloc (Nat.le_refl _) _) RU_wa.out.lt) HO.out (Nat.ne_of_lt RU_wa.out.lt))
         have RI_wb : Hid (URow wb (gi) 26 ((I).length : Nat) (pad (I)) 0 Z8 l c 0) := Lib.hid (URow.other (URow.below RI_wa.out ((Below.refl _ _).alloc (Nat.le_refl _) _) RI_wa.out.lt) HO.out (Nat.ne_of_lt RI_wa.out.lt))
         have RO_wb : Hid (URow wb (go) 26 0 Z8 ((O).length : Nat) (pad (O)) false c tk) := Lib.hid (URow.other (URow.below RO_wa.out ((Below.refl _ _).alloc (Nat.le_refl _) _) RO_wa.out.lt) HO.out (Nat.ne_of_lt RO_wa.out.lt))
         have RV_wb : Hid (URow wb wa.heap.size 26 ((J).length : Nat) (pad (J)) ((O).length : Nat) (pad (O)) l2 c tk) := HN
         have BB_wb : Hid (Below w.heap.size w wb) := Lib.hid ((BB_wa.out.alloc BB_wa.out.size _).trans (HB.out.mono BB_wa.out.size))
         have NE_RV_RU := Lib.hid (Nat.ne_of_gt RU_wa.out.lt)
         have NE_RV_RI := Lib.hid (Nat.ne_of_gt RI_wa.out.lt)
         have NE_RV_RO := Lib.hid (Nat.ne_of_gt RO_wa.out.lt)
         clear HO HB HN RU_wa RI_wa RO_wa BB_wa)
      | (go_at_call 12; have hc := BB_wr; clear hc; refine (KU.out _).mono ?_; rintro e wa ⟨rfl, hB⟩
         have RU_wa : Hid (URow wa (gu) 26 ((I).length : Nat) (pad (I)) ((O).length : Nat) (pad (O)) l c tk) := Lib.hid (URow.below RU_wr.out hB RU_wr.out.lt)
         have RI_wa : Hid (URow wa (gi) 26 ((I).length : Nat) (pad (I)) 0 Z8 l c 0) := Lib.hid (URow.below RI_wr.out hB RI_wr.out.lt)
         have RO_wa : Hid (URow wa (go) 26 0 Z8 ((O).length : Nat) (pad (O)) false c tk) := Lib.hid (URow.below RO_wr.out hB RO_wr.out.lt)
         have BB_wa : Hid (Below w.heap.size w wa) := Lib.hid (BB_wr.out.trans (hB.mono BB_wr.out.size))
         clear hB RU_wr RI_wr RO_wr BB_wr)
      | ((with_reducible show wpList _ _ _ (⟨some 81, .load 26 (.tmp 3), _, _, _, _⟩ :: _) _ _); refine wpList_load_u (by rfl) 26 _ rfl (gu) (by exact rfl) _ Try.underlying26 (by kernel_rfl) 26 (RU_wr.out) ?_))
              go_meet
              case rel => exact ⟨_, J, O, l2, c, tk, rfl, RG2.out, RU_wf.out, RI_wf.out, RO_wf.out, BB_wf.out⟩
          ·
            clear q1 hm
            have RG2 := Lib.hid (RG.out.addI hb8)
            have hu := fun W => rt_arrive (l := l) H W RG.out b hb8
            have hi := fun W => rt_arrive (l := l) H W RG.out.inn b hb8
            generalize addL I b = J at *
            generalize arriveL I l = l2 at *
            generalize asksU I c = b2 at *
            have KU : Hid (∀ W : World, Calls Try.prog 12 #[uv ((I).length : Nat) (pad (I)) ((O).length : Nat) (pad (O)) l c tk, .int .u8 b] W fun e w' => e = .returned (.tuple #[uv ((J).length : Nat) (pad (J)) ((O).length : Nat) (pad (O)) l2 c tk, .bool b2]) ∧ Below W.heap.size W w') := Lib.hid hu
            have KI : Hid (∀ W : World, Calls Try.prog 12 #[uv ((I).length : Nat) (pad (I)) 0 Z8 l c 0, .int .u8 b] W fun e w' => e = .returned (.tuple #[uv ((J).length : Nat) (pad (J)) 0 Z8 l2 c 0, .bool b2]) ∧ Below W.heap.size W w') := Lib.hid hi
            clear hu hi
            as_aux_lemma =>
              go_wp2_with (first
      | ((with_reducible show wpList _ _ _ (⟨none, .store 26 (.tmp 4) (.tmp 96), _, _, _, _⟩ :: _) _ _); refine wpList_store_u rfl 26 _ _ rfl (gi) (by exact rfl) (by exact rfl) (by first | exact pad_length _ | exact rfl) (by first | exact pad_length _ | exact rfl) (by kernel_rfl) 26 RI_we.out ?_; intro wf HN HO HB
         have RU_wf : Hid (URow wf (gu) 26 ((J).length : Nat) (pad (J)) ((O).length : Nat) (pad (O)) l2 c tk) := Lib.hid (URow.other RU_we.out HO.out (NE_RU_RI.out))
         have RO_wf : Hid (URow wf (go) 26 0 Z8 ((O).length : Nat) (pad (O)) false c tk) := Lib.hid (URow.other RO_we.out HO.out (NE_RO_RI.out))
         have RV_wf : Hid (URow wf (wa.heap.size) 26 ((J).length : Nat) (pad (J)) ((O).length : Nat) (pad (O)) l2 c tk) := Lib.hid (URow.other RV_we.out HO.out (NE_RV_RI.out))
         have RX_wf : Hid (URow wf (wc.heap.size) 26 ((J).length : Nat) (pad (J)) 0 Z8 l2 c 0) := Lib.hid (URow.other RX_we.out HO.out (NE_RX_RI.out))
         have RI_wf : Hid (URow wf (gi) 26 ((J).length : Nat) (pad (J)) 0 Z8 l2 c 0) := HN
         have BB_wf : Hid (Below w.heap.size w wf) := Lib.hid (BB_we.out.trans (HB.out.mono LE_RI.out))
         clear HO HB HN RU_we RI_we RO_we RV_we RX_we BB_we)
      | ((with_reducible show wpList _ _ _ (⟨some 96, .load 26 (.tmp 10), _, _, _, _⟩ :: _) _ _); refine wpList_load_u (by rfl) 26 _ rfl (wc.heap.size) (by exact rfl) _ Try.underlying26 (by kernel_rfl) 26 (RX_we.out) ?_)
      | ((with_reducible show wpList _ _ _ (⟨none, .store 26 (.tmp 3) (.tmp 95), _, _, _, _⟩ :: _) _ _); refine wpList_store_u rfl 26 _ _ rfl (gu) (by exact rfl) (by exact rfl) (by first | exact pad_length _ | exact rfl) (by first | exact pad_length _ | exact rfl) (by kernel_rfl) 26 RU_wd.out ?_; intro we HN HO HB
         have RI_we : Hid (URow we (gi) 26 ((I).length : Nat) (pad (I)) 0 Z8 l c 0) := Lib.hid (URow.other RI_wd.out HO.out (NE_RI_RU.out))
         have RO_we : Hid (URow we (go) 26 0 Z8 ((O).length : Nat) (pad (O)) false c tk) := Lib.hid (URow.other RO_wd.out HO.out (NE_RO_RU.out))
         have RV_we : Hid (URow we (wa.heap.size) 26 ((J).length : Nat) (pad (J)) ((O).length : Nat) (pad (O)) l2 c tk) := Lib.hid (URow.other RV_wd.out HO.out (NE_RV_RU.out))
         have RX_we : Hid (URow we (wc.heap.size) 26 ((J).length : Nat) (pad (J)) 0 Z8 l2 c 0) := Lib.hid (URow.other RX_wd.out HO.out (NE_RX_RU.out))
         have RU_we : Hid (URow we (gu) 26 ((J).length : Nat) (pad (J)) ((O).length : Nat) (pad (O)) l2 c tk) := HN
         have BB_we : Hid (Below w.heap.size w we) := Lib.hid (BB_wd.out.trans (HB.out.mono LE_RU.out))
         clear HO HB HN RU_wd RI_wd RO_wd RV_wd RX_wd BB_wd)
      | ((with_reducible show wpList _ _ _ (⟨some 95, .load 26 (.tmp 8), _, _, _, _⟩ :: _) _ _); refine wpList_load_u (by rfl) 26 _ rfl (wa.heap.size) (by exact rfl) _ Try.underlying26 (by kernel_rfl) 26 (RV_wd.out) ?_)
      | ((with_reducible show wpList _ _ _ (⟨none, .store 26 (.tmp 10) (.tmp 90), _, _, _, _⟩ :: _) _ _); refine wpList_store_u  rfl 26 _ _ rfl (wc.heap.size) (by exact rfl) (by exact rfl) (by first | exact pad_length _ | exact rfl) (by first | exact pad_length _ | exact rfl) (by kernel_rfl) 26 (show URow _ _ _ 0 Z8 0 Z8 false 0 0 from ⟨alloc_at _ _, rfl, rfl⟩) ?_; intro wd HN HO HB
         have RU_wd : Hid (URow wd (gu) 26 ((I).length : Nat) (pad (I)) ((O).length : Nat) (pad (O)) l c tk) := Lib.hid (URow.other (URow.below RU_wc.out ((Below.refl _ _).alloc (Nat.le_refl _) _) RU_wc.out.lt) HO.out (Nat.ne_of_lt RU_wc.out.lt))
         have RI_wd : Hid (URow wd (gi) 26 ((I).length : Nat) (pad (I)) 0 Z8 l c 0) := Lib.hid (URow.other (URow.below RI_wc.out ((Below.refl _ _).alloc (Nat.le_refl _) _) RI_wc.out.lt) HO.out (Nat.ne_of_lt RI_wc.out.lt))
         have RO_wd : Hid (URow wd (go) 26 0 Z8 ((O).length : Nat) (pad (O)) false c tk) := Lib.hid (URow.other (URow.below RO_wc.out ((Below.refl _ _).alloc (Nat.le_refl _) _) RO_wc.out.lt) HO.out (Nat.ne_of_lt RO_wc.out.lt))
         have RV_wd : Hid (URow wd (wa.heap.size) 26 ((J).length : Nat) (pad (J)) ((O).length : Nat) (pad (O)) l2 c tk) := Lib.hid (URow.other (URow.below RV_wc.out ((Below.refl _ _).alloc (Nat.le_refl _) _) RV_wc.out.lt) HO.out (Nat.ne_of_lt RV_wc.out.lt))
         have RX_wd : Hid (URow wd wc.heap.size 26 ((J).length : Nat) (pad (J)) 0 Z8 l2 c 0) := HN
         have BB_wd : Hid (Below w.heap.size w wd) := Lib.hid ((BB_wc.out.alloc BB_wc.out.size _).trans (HB.out.mono BB_wc.out.size))
         have NE_RX_RU := Lib.hid (Nat.ne_of_gt RU_wc.out.lt)
         have NE_RX_RI := Lib.hid (Nat.ne_of_gt RI_wc.out.lt)
         have NE_RX_RO := Lib.hid (Nat.ne_of_gt RO_wc.out.lt)
         clear HO HB HN RU_wc RI_wc RO_wc RV_wc BB_wc)
      | (go_at_call 12; have hc := BB_wb; clear hc; refine (KI.out _).mono ?_; rintro e wc ⟨rfl, hB⟩
         have RU_wc : Hid (URow wc (gu) 26 ((I).length : Nat) (pad (I)) ((O).length : Nat) (pad (O)) l c tk) := Lib.hid (URow.below RU_wb.out hB RU_wb.out.lt)
         have RI_wc : Hid (URow wc (gi) 26 ((I).length : Nat) (pad (I)) 0 Z8 l c 0) := Lib.hid (URow.below RI_wb.out hB RI_wb.out.lt)
         have RO_wc : Hid (URow wc (go) 26 0 Z8 ((O).length : Nat) (pad (O)) false c tk) := Lib.hid (URow.below RO_wb.out hB RO_wb.out.lt)
         have RV_wc : Hid (URow wc (wa.heap.size) 26 ((J).length : Nat) (pad (J)) ((O).length : Nat) (pad (O)) l2 c tk) := Lib.hid (URow.below RV_wb.out hB RV_wb.out.lt)
         have BB_wc : Hid (Below w.heap.size w wc) := Lib.hid (BB_wb.out.trans (hB.mono BB_wb.out.size))
         clear hB RU_wb RI_wb RO_wb RV_wb BB_wb)
      | ((with_reducible show wpList _ _ _ (⟨some 87, .load 26 (.tmp 4), _, _, _, _⟩ :: _) _ _); refine wpList_load_u (by rfl) 26 _ rfl (gi) (by exact rfl) _ Try.underlying26 (by kernel_rfl) 26 (RI_wb.out) ?_)
      | ((with_reducible show wpList _ _ _ (⟨none, .store 26 (.tmp 8) (.tmp 84), _, _, _, _⟩ :: _) _ _); refine wpList_store_u  rfl 26 _ _ rfl (wa.heap.size) (by exact rfl) (by exact rfl) (by first | exact pad_length _ | exact rfl) (by first | exact pad_length _ | exact rfl) (by kernel_rfl) 26 (show URow _ _ _ 0 Z8 0 Z8 false 0 0 from ⟨alloc_at _ _, rfl, rfl⟩) ?_; intro wb HN HO HB
         have RU_wb : Hid (URow wb (gu) 26 ((I).length : Nat) (pad (I)) ((O).length : Nat) (pad (O)) l c tk) := Lib.hid (URow.other (URow.below RU_wa.out ((Below.refl _ _).alloc (Nat.le_refl _) _) RU_wa.out.lt) HO.out (Nat.ne_of_lt RU_wa.out.lt))
         have RI_wb : Hid (URow wb (gi) 26 ((I).length : Nat) (pad (I)) 0 Z8 l c 0) := Lib.hid (URow.other (URow.below RI_wa.out ((Below.refl _ _).alloc (Nat.le_refl _) _) RI_wa.out.lt) HO.out (Nat.ne_of_lt RI_wa.out.lt))
         have RO_wb : Hid (URow wb (go) 26 0 Z8 ((O).length : Nat) (pad (O)) false c tk) := Lib.hid (URow.other (URow.below RO_wa.out ((Below.refl _ _).alloc (Nat.le_refl _) _) RO_wa.out.lt) HO.out (Nat.ne_of_lt RO_wa.out.lt))
         have RV_wb : Hid (URow wb wa.heap.size 26 ((J).length : Nat) (pad (J)) ((O).length : Nat) (pad (O)) l2 c tk) := HN
         have BB_wb : Hid (Below w.heap.size w wb) := Lib.hid ((BB_wa.out.alloc BB_wa.out.size _).trans (HB.out.mono BB_wa.out.size))
         have NE_RV_RU := Lib.hid (Nat.ne_of_gt RU_wa.out.lt)
         have NE_RV_RI := Lib.hid (Nat.ne_of_gt RI_wa.out.lt)
         have NE_RV_RO := Lib.hid (Nat.ne_of_gt RO_wa.out.lt)
         clear HO HB HN RU_wa RI_wa RO_wa BB_wa)
      | (go_at_call 12; have hc := BB_wr; clear hc; refine (KU.out _).mono ?_; rintro e wa ⟨rfl, hB⟩
         have RU_wa : Hid (URow wa (gu) 26 ((I).length : Nat) (pad (I)) ((O).length : Nat) (pad (O)) l c tk) := Lib.hid (URow.below RU_wr.out hB RU_wr.out.lt)
         have RI_wa : Hid (URow wa (gi) 26 ((I).length : Nat) (pad (I)) 0 Z8 l c 0) := Lib.hid (URow.below RI_wr.out hB RI_wr.out.lt)
         have RO_wa : Hid (URow wa (go) 26 0 Z8 ((O).length : Nat) (pad (O)) false c tk) := Lib.hid (URow.below RO_wr.out hB RO_wr.out.lt)
         have BB_wa : Hid (Below w.heap.size w wa) := Lib.hid (BB_wr.out.trans (hB.mono BB_wr.out.size))
         clear hB RU_wr RI_wr RO_wr BB_wr)
      | ((with_reducible show wpList _ _ _ (⟨some 81, .load 26 (.tmp 3), _, _, _, _⟩ :: _) _ _); refine wpList_load_u (by rfl) 26 _ rfl (gu) (by exact rfl) _ Try.underlying26 (by kernel_rfl) 26 (RU_wr.out) ?_))
              go_meet
              case rel => exact ⟨_, J, O, l2, c, tk, rfl, RG2.out, RU_wf.out, RI_wf.out, RO_wf.out, BB_wf.out⟩
        by_cases hb' : mm = 2 ∨ mm = 3
        · rcases hb' with rfl | rfl
          ·
            have RG2 := Lib.hid RG.out.cutI
            have hu := fun W => rt_read3 (l := l) H W RG.out
            have hi := fun W => rt_read3 (l := l) H W RG.out.inn
            generalize I.tail = J at *
            generalize ((I.headD 0 : Nat) : Int) = x at *
            have KU : Hid (∀ W : World, Calls Try.prog 13 #[uv ((I).length : Nat) (pad (I)) ((O).length : Nat) (pad (O)) l c tk, .int .i64 3] W fun e w' => e = .returned (.tuple #[.int .i32 x, uv ((J).length : Nat) (pad (J)) ((O).length : Nat) (pad (O)) l c tk]) ∧ Below W.heap.size W w') := Lib.hid hu
            have KI : Hid (∀ W : World, Calls Try.prog 13 #[uv ((I).length : Nat) (pad (I)) 0 Z8 l c 0, .int .i64 3] W fun e w' => e = .returned (.tuple #[.int .i32 x, uv ((J).length : Nat) (pad (J)) 0 Z8 l c 0]) ∧ Below W.heap.size W w') := Lib.hid hi
            clear hu hi
            as_aux_lemma =>
              go_wp2_with (first
      | ((with_reducible show wpList _ _ _ (⟨none, .store 26 (.tmp 4) (.tmp 135), _, _, _, _⟩ :: _) _ _); refine wpList_store_u rfl 26 _ _ rfl (gi) (by exact rfl) (by exact rfl) (by first | exact pad_length _ | exact rfl) (by first | exact pad_length _ | exact rfl) (by kernel_rfl) 26 RI_we.out ?_; intro wf HN HO HB
         have RU_wf : Hid (URow wf (gu) 26 ((J).length : Nat) (pad (J)) ((O).length : Nat) (pad (O)) l c tk) := Lib.hid (URow.other RU_we.out HO.out (NE_RU_RI.out))
         have RO_wf : Hid (URow wf (go) 26 0 Z8 ((O).length : Nat) (pad (O)) false c tk) := Lib.hid (URow.other RO_we.out HO.out (NE_RO_RI.out))
         have RV_wf : Hid (URow wf (wa.heap.size) 26 ((J).length : Nat) (pad (J)) ((O).length : Nat) (pad (O)) l c tk) := Lib.hid (URow.other RV_we.out HO.out (NE_RV_RI.out))
         have RX_wf : Hid (URow wf (wc.heap.size) 26 ((J).length : Nat) (pad (J)) 0 Z8 l c 0) := Lib.hid (URow.other RX_we.out HO.out (NE_RX_RI.out))
         have RI_wf : Hid (URow wf (gi) 26 ((J).length : Nat) (pad (J)) 0 Z8 l c 0) := HN
         have BB_wf : Hid (Below w.heap.size w wf) := Lib.hid (BB_we.out.trans (HB.out.mono LE_RI.out))
         clear HO HB HN RU_we RI_we RO_we RV_we RX_we BB_we)
      | ((with_reducible show wpList _ _ _ (⟨some 135, .load 26 (.tmp 16), _, _, _, _⟩ :: _) _ _); refine wpList_load_u (by rfl) 26 _ rfl (wc.heap.size) (by exact rfl) _ Try.underlying26 (by kernel_rfl) 26 (RX_we.out) ?_)
      | ((with_reducible show wpList _ _ _ (⟨none, .store 26 (.tmp 3) (.tmp 134), _, _, _, _⟩ :: _) _ _); refine wpList_store_u rfl 26 _ _ rfl (gu) (by exact rfl) (by exact rfl) (by first | exact pad_length _ | exact rfl) (by first | exact pad_length _ | exact rfl) (by kernel_rfl) 26 RU_wd.out ?_; intro we HN HO HB
         have RI_we : Hid (URow we (gi) 26 ((I).length : Nat) (pad (I)) 0 Z8 l c 0) := Lib.hid (URow.other RI_wd.out HO.out (NE_RI_RU.out))
         have RO_we : Hid (URow we (go) 26 0 Z8 ((O).length : Nat) (pad (O)) false c tk) := Lib.hid (URow.other RO_wd.out HO.out (NE_RO_RU.out))
         have RV_we : Hid (URow we (wa.heap.size) 26 ((J).length : Nat) (pad (J)) ((O).length : Nat) (pad (O)) l c tk) := Lib.hid (URow.other RV_wd.out HO.out (NE_RV_RU.out))
         have RX_we : Hid (URow we (wc.heap.size) 26 ((J).length : Nat) (pad (J)) 0 Z8 l c 0) := Lib.hid (URow.other RX_wd.out HO.out (NE_RX_RU.out))
         have RU_we : Hid (URow we (gu) 26 ((J).length : Nat) (pad (J)) ((O).length : Nat) (pad (O)) l c tk) := HN
         have BB_we : Hid (Below w.heap.size w we) := Lib.hid (BB_wd.out.trans (HB.out.mono LE_RU.out))
         clear HO HB HN RU_wd RI_wd RO_wd RV_wd RX_wd BB_wd)
      | ((with_reducible show wpList _ _ _ (⟨some 134, .load 26 (.tmp 14), _, _, _, _⟩ :: _) _ _); refine wpList_load_u (by rfl) 26 _ rfl (wa.heap.size) (by exact rfl) _ Try.underlying26 (by kernel_rfl) 26 (RV_wd.out) ?_)
      | ((with_reducible show wpList _ _ _ (⟨none, .store 26 (.tmp 16) (.tmp 119), _, _, _, _⟩ :: _) _ _); refine wpList_store_u  rfl 26 _ _ rfl (wc.heap.size) (by exact rfl) (by exact rfl) (by first | exact pad_length _ | exact rfl) (by first | exact pad_length _ | exact rfl) (by kernel_rfl) 26 (show URow _ _ _ 0 Z8 0 Z8 false 0 0 from ⟨alloc_at _ _, rfl, rfl⟩) ?_; intro wd HN HO HB
         have RU_wd : Hid (URow wd (gu) 26 ((I).length : Nat) (pad (I)) ((O).length : Nat) (pad (O)) l c tk) := Lib.hid (URow.other (URow.below RU_wc.out ((Below.refl _ _).alloc (Nat.le_refl _) _) RU_wc.out.lt) HO.out (Nat.ne_of_lt RU_wc.out.lt))
         have RI_wd : Hid (URow wd (gi) 26 ((I).length : Nat) (pad (I)) 0 Z8 l c 0) := Lib.hid (URow.other (URow.below RI_wc.out ((Below.refl _ _).alloc (Nat.le_refl _) _) RI_wc.out.lt) HO.out (Nat.ne_of_lt RI_wc.out.lt))
         have RO_wd : Hid (URow wd (go) 26 0 Z8 ((O).length : Nat) (pad (O)) false c tk) := Lib.hid (URow.other (URow.below RO_wc.out ((Below.refl _ _).alloc (Nat.le_refl _) _) RO_wc.out.lt) HO.out (Nat.ne_of_lt RO_wc.out.lt))
         have RV_wd : Hid (URow wd (wa.heap.size) 26 ((J).length : Nat) (pad (J)) ((O).length : Nat) (pad (O)) l c tk) := Lib.hid (URow.other (URow.below RV_wc.out ((Below.refl _ _).alloc (Nat.le_refl _) _) RV_wc.out.lt) HO.out (Nat.ne_of_lt RV_wc.out.lt))
         have RX_wd : Hid (URow wd wc.heap.size 26 ((J).length : Nat) (pad (J)) 0 Z8 l c 0) := HN
         have BB_wd : Hid (Below w.heap.size w wd) := Lib.hid ((BB_wc.out.alloc BB_wc.out.size _).trans (HB.out.mono BB_wc.out.size))
         have NE_RX_RU := Lib.hid (Nat.ne_of_gt RU_wc.out.lt)
         have NE_RX_RI := Lib.hid (Nat.ne_of_gt RI_wc.out.lt)
         have NE_RX_RO := Lib.hid (Nat.ne_of_gt RO_wc.out.lt)
         clear HO HB HN RU_wc RI_wc RO_wc RV_wc BB_wc)
      | (go_at_call 13; have hc := BB_wb; clear hc; refine (KI.out _).mono ?_; rintro e wc ⟨rfl, hB⟩
         have RU_wc : Hid (URow wc (gu) 26 ((I).length : Nat) (pad (I)) ((O).length : Nat) (pad (O)) l c tk) := Lib.hid (URow.below RU_wb.out hB RU_wb.out.lt)
         have RI_wc : Hid (URow wc (gi) 26 ((I).length : Nat) (pad (I)) 0 Z8 l c 0) := Lib.hid (URow.below RI_wb.out hB RI_wb.out.lt)
         have RO_wc : Hid (URow wc (go) 26 0 Z8 ((O).length : Nat) (pad (O)) false c tk) := Lib.hid (URow.below RO_wb.out hB RO_wb.out.lt)
         have RV_wc : Hid (URow wc (wa.heap.size) 26 ((J).length : Nat) (pad (J)) ((O).length : Nat) (pad (O)) l c tk) := Lib.hid (URow.below RV_wb.out hB RV_wb.out.lt)
         have BB_wc : Hid (Below w.heap.size w wc) := Lib.hid (BB_wb.out.trans (hB.mono BB_wb.out.size))
         clear hB RU_wb RI_wb RO_wb RV_wb BB_wb)
      | ((with_reducible show wpList _ _ _ (⟨some 115, .load 26 (.tmp 4), _, _, _, _⟩ :: _) _ _); refine wpList_load_u (by rfl) 26 _ rfl (gi) (by exact rfl) _ Try.underlying26 (by kernel_rfl) 26 (RI_wb.out) ?_)
      | ((with_reducible show wpList _ _ _ (⟨none, .store 26 (.tmp 14) (.tmp 113), _, _, _, _⟩ :: _) _ _); refine wpList_store_u  rfl 26 _ _ rfl (wa.heap.size) (by exact rfl) (by exact rfl) (by first | exact pad_length _ | exact rfl) (by first | exact pad_length _ | exact rfl) (by kernel_rfl) 26 (show URow _ _ _ 0 Z8 0 Z8 false 0 0 from ⟨alloc_at _ _, rfl, rfl⟩) ?_; intro wb HN HO HB
         have RU_wb : Hid (URow wb (gu) 26 ((I).length : Nat) (pad (I)) ((O).length : Nat) (pad (O)) l c tk) := Lib.hid (URow.other (URow.below RU_wa.out ((Below.refl _ _).alloc (Nat.le_refl _) _) RU_wa.out.lt) HO.out (Nat.ne_of_lt RU_wa.out.lt))
         have RI_wb : Hid (URow wb (gi) 26 ((I).length : Nat) (pad (I)) 0 Z8 l c 0) := Lib.hid (URow.other (URow.below RI_wa.out ((Below.refl _ _).alloc (Nat.le_refl _) _) RI_wa.out.lt) HO.out (Nat.ne_of_lt RI_wa.out.lt))
         have RO_wb : Hid (URow wb (go) 26 0 Z8 ((O).length : Nat) (pad (O)) false c tk) := Lib.hid (URow.other (URow.below RO_wa.out ((Below.refl _ _).alloc (Nat.le_refl _) _) RO_wa.out.lt) HO.out (Nat.ne_of_lt RO_wa.out.lt))
         have RV_wb : Hid (URow wb wa.heap.size 26 ((J).length : Nat) (pad (J)) ((O).length : Nat) (pad (O)) l c tk) := HN
         have BB_wb : Hid (Below w.heap.size w wb) := Lib.hid ((BB_wa.out.alloc BB_wa.out.size _).trans (HB.out.mono BB_wa.out.size))
         have NE_RV_RU := Lib.hid (Nat.ne_of_gt RU_wa.out.lt)
         have NE_RV_RI := Lib.hid (Nat.ne_of_gt RI_wa.out.lt)
         have NE_RV_RO := Lib.hid (Nat.ne_of_gt RO_wa.out.lt)
         clear HO HB HN RU_wa RI_wa RO_wa BB_wa)
      | (go_at_call 13; have hc := BB_wr; clear hc; refine (KU.out _).mono ?_; rintro e wa ⟨rfl, hB⟩
         have RU_wa : Hid (URow wa (gu) 26 ((I).length : Nat) (pad (I)) ((O).length : Nat) (pad (O)) l c tk) := Lib.hid (URow.below RU_wr.out hB RU_wr.out.lt)
         have RI_wa : Hid (URow wa (gi) 26 ((I).length : Nat) (pad (I)) 0 Z8 l c 0) := Lib.hid (URow.below RI_wr.out hB RI_wr.out.lt)
         have RO_wa : Hid (URow wa (go) 26 0 Z8 ((O).length : Nat) (pad (O)) false c tk) := Lib.hid (URow.below RO_wr.out hB RO_wr.out.lt)
         have BB_wa : Hid (Below w.heap.size w wa) := Lib.hid (BB_wr.out.trans (hB.mono BB_wr.out.size))
         clear hB RU_wr RI_wr RO_wr BB_wr)
      | ((with_reducible show wpList _ _ _ (⟨some 109, .load 26 (.tmp 3), _, _, _, _⟩ :: _) _ _); refine wpList_load_u (by rfl) 26 _ rfl (gu) (by exact rfl) _ Try.underlying26 (by kernel_rfl) 26 (RU_wr.out) ?_))
              go_meet
              case rel => exact ⟨_, J, O, l, c, tk, rfl, RG2.out, RU_wf.out, RI_wf.out, RO_wf.out, BB_wf.out⟩
          ·
            have RG2 := Lib.hid RG.out.cutI
            have hu := fun W => rt_read3 (l := l) H W RG.out
            have hi := fun W => rt_read3 (l := l) H W RG.out.inn
            generalize I.tail = J at *
            generalize ((I.headD 0 : Nat) : Int) = x at *
            have KU : Hid (∀ W : World, Calls Try.prog 13 #[uv ((I).length : Nat) (pad (I)) ((O).length : Nat) (pad (O)) l c tk, .int .i64 3] W fun e w' => e = .returned (.tuple #[.int .i32 x, uv ((J).length : Nat) (pad (J)) ((O).length : Nat) (pad (O)) l c tk]) ∧ Below W.heap.size W w') := Lib.hid hu
            have KI : Hid (∀ W : World, Calls Try.prog 13 #[uv ((I).length : Nat) (pad (I)) 0 Z8 l c 0, .int .i64 3] W fun e w' => e = .returned (.tuple #[.int .i32 x, uv ((J).length : Nat) (pad (J)) 0 Z8 l c 0]) ∧ Below W.heap.size W w') := Lib.hid hi
            clear hu hi
            as_aux_lemma =>
              go_wp2_with (first
      | ((with_reducible show wpList _ _ _ (⟨none, .store 26 (.tmp 4) (.tmp 135), _, _, _, _⟩ :: _) _ _); refine wpList_store_u rfl 26 _ _ rfl (gi) (by exact rfl) (by exact rfl) (by first | exact pad_length _ | exact rfl) (by first | exact pad_length _ | exact rfl) (by kernel_rfl) 26 RI_we.out ?_; intro wf HN HO HB
         have RU_wf : Hid (URow wf (gu) 26 ((J).length : Nat) (pad (J)) ((O).length : Nat) (pad (O)) l c tk) := Lib.hid (URow.other RU_we.out HO.out (NE_RU_RI.out))
         have RO_wf : Hid (URow wf (go) 26 0 Z8 ((O).length : Nat) (pad (O)) false c tk) := Lib.hid (URow.other RO_we.out HO.out (NE_RO_RI.out))
         have RV_wf : Hid (URow wf (wa.heap.size) 26 ((J).length : Nat) (pad (J)) ((O).length : Nat) (pad (O)) l c tk) := Lib.hid (URow.other RV_we.out HO.out (NE_RV_RI.out))
         have RX_wf : Hid (URow wf (wc.heap.size) 26 ((J).length : Nat) (pad (J)) 0 Z8 l c 0) := Lib.hid (URow.other RX_we.out HO.out (NE_RX_RI.out))
         have RI_wf : Hid (URow wf (gi) 26 ((J).length : Nat) (pad (J)) 0 Z8 l c 0) := HN
         have BB_wf : Hid (Below w.heap.size w wf) := Lib.hid (BB_we.out.trans (HB.out.mono LE_RI.out))
         clear HO HB HN RU_we RI_we RO_we RV_we RX_we BB_we)
      | ((with_reducible show wpList _ _ _ (⟨some 135, .load 26 (.tmp 16), _, _, _, _⟩ :: _) _ _); refine wpList_load_u (by rfl) 26 _ rfl (wc.heap.size) (by exact rfl) _ Try.underlying26 (by kernel_rfl) 26 (RX_we.out) ?_)
      | ((with_reducible show wpList _ _ _ (⟨none, .store 26 (.tmp 3) (.tmp 134), _, _, _, _⟩ :: _) _ _); refine wpList_store_u rfl 26 _ _ rfl (gu) (by exact rfl) (by exact rfl) (by first | exact pad_length _ | exact rfl) (by first | exact pad_length _ | exact rfl) (by kernel_rfl) 26 RU_wd.out ?_; intro we HN HO HB
         have RI_we : Hid (URow we (gi) 26 ((I).length : Nat) (pad (I)) 0 Z8 l c 0) := Lib.hid (URow.other RI_wd.out HO.out (NE_RI_RU.out))
         have RO_we : Hid (URow we (go) 26 0 Z8 ((O).length : Nat) (pad (O)) false c tk) := Lib.hid (URow.other RO_wd.out HO.out (NE_RO_RU.out))
         have RV_we : Hid (URow we (wa.heap.size) 26 ((J).length : Nat) (pad (J)) ((O).length : Nat) (pad (O)) l c tk) := Lib.hid (URow.other RV_wd.out HO.out (NE_RV_RU.out))
         have RX_we : Hid (URow we (wc.heap.size) 26 ((J).length : Nat) (pad (J)) 0 Z8 l c 0) := Lib.hid (URow.other RX_wd.out HO.out (NE_RX_RU.out))
         have RU_we : Hid (URow we (gu) 26 ((J).length : Nat) (pad (J)) ((O).length : Nat) (pad (O)) l c tk) := HN
         have BB_we : Hid (Below w.heap.size w we) := Lib.hid (BB_wd.out.trans (HB.out.mono LE_RU.out))
         clear HO HB HN RU_wd RI_wd RO_wd RV_wd RX_wd BB_wd)
      | ((with_reducible show wpList _ _ _ (⟨some 134, .load 26 (.tmp 14), _, _, _, _⟩ :: _) _ _); refine wpList_load_u (by rfl) 26 _ rfl (wa.heap.size) (by exact rfl) _ Try.underlying26 (by kernel_rfl) 26 (RV_wd.out) ?_)
      | ((with_reducible show wpList _ _ _ (⟨none, .store 26 (.tmp 16) (.tmp 119), _, _, _, _⟩ :: _) _ _); refine wpList_store_u  rfl 26 _ _ rfl (wc.heap.size) (by exact rfl) (by exact rfl) (by first | exact pad_length _ | exact rfl) (by first | exact pad_length _ | exact rfl) (by kernel_rfl) 26 (show URow _ _ _ 0 Z8 0 Z8 false 0 0 from ⟨alloc_at _ _, rfl, rfl⟩) ?_; intro wd HN HO HB
         have RU_wd : Hid (URow wd (gu) 26 ((I).length : Nat) (pad (I)) ((O).length : Nat) (pad (O)) l c tk) := Lib.hid (URow.other (URow.below RU_wc.out ((Below.refl _ _).alloc (Nat.le_refl _) _) RU_wc.out.lt) HO.out (Nat.ne_of_lt RU_wc.out.lt))
         have RI_wd : Hid (URow wd (gi) 26 ((I).length : Nat) (pad (I)) 0 Z8 l c 0) := Lib.hid (URow.other (URow.below RI_wc.out ((Below.refl _ _).alloc (Nat.le_refl _) _) RI_wc.out.lt) HO.out (Nat.ne_of_lt RI_wc.out.lt))
         have RO_wd : Hid (URow wd (go) 26 0 Z8 ((O).length : Nat) (pad (O)) false c tk) := Lib.hid (URow.other (URow.below RO_wc.out ((Below.refl _ _).alloc (Nat.le_refl _) _) RO_wc.out.lt) HO.out (Nat.ne_of_lt RO_wc.out.lt))
         have RV_wd : Hid (URow wd (wa.heap.size) 26 ((J).length : Nat) (pad (J)) ((O).length : Nat) (pad (O)) l c tk) := Lib.hid (URow.other (URow.below RV_wc.out ((Below.refl _ _).alloc (Nat.le_refl _) _) RV_wc.out.lt) HO.out (Nat.ne_of_lt RV_wc.out.lt))
         have RX_wd : Hid (URow wd wc.heap.size 26 ((J).length : Nat) (pad (J)) 0 Z8 l c 0) := HN
         have BB_wd : Hid (Below w.heap.size w wd) := Lib.hid ((BB_wc.out.alloc BB_wc.out.size _).trans (HB.out.mono BB_wc.out.size))
         have NE_RX_RU := Lib.hid (Nat.ne_of_gt RU_wc.out.lt)
         have NE_RX_RI := Lib.hid (Nat.ne_of_gt RI_wc.out.lt)
         have NE_RX_RO := Lib.hid (Nat.ne_of_gt RO_wc.out.lt)
         clear HO HB HN RU_wc RI_wc RO_wc RV_wc BB_wc)
      | (go_at_call 13; have hc := BB_wb; clear hc; refine (KI.out _).mono ?_; rintro e wc ⟨rfl, hB⟩
         have RU_wc : Hid (URow wc (gu) 26 ((I).length : Nat) (pad (I)) ((O).length : Nat) (pad (O)) l c tk) := Lib.hid (URow.below RU_wb.out hB RU_wb.out.lt)
         have RI_wc : Hid (URow wc (gi) 26 ((I).length : Nat) (pad (I)) 0 Z8 l c 0) := Lib.hid (URow.below RI_wb.out hB RI_wb.out.lt)
         have RO_wc : Hid (URow wc (go) 26 0 Z8 ((O).length : Nat) (pad (O)) false c tk) := Lib.hid (URow.below RO_wb.out hB RO_wb.out.lt)
         have RV_wc : Hid (URow wc (wa.heap.size) 26 ((J).length : Nat) (pad (J)) ((O).length : Nat) (pad (O)) l c tk) := Lib.hid (URow.below RV_wb.out hB RV_wb.out.lt)
         have BB_wc : Hid (Below w.heap.size w wc) := Lib.hid (BB_wb.out.trans (hB.mono BB_wb.out.size))
         clear hB RU_wb RI_wb RO_wb RV_wb BB_wb)
      | ((with_reducible show wpList _ _ _ (⟨some 115, .load 26 (.tmp 4), _, _, _, _⟩ :: _) _ _); refine wpList_load_u (by rfl) 26 _ rfl (gi) (by exact rfl) _ Try.underlying26 (by kernel_rfl) 26 (RI_wb.out) ?_)
      | ((with_reducible show wpList _ _ _ (⟨none, .store 26 (.tmp 14) (.tmp 113), _, _, _, _⟩ :: _) _ _); refine wpList_store_u  rfl 26 _ _ rfl (wa.heap.size) (by exact rfl) (by exact rfl) (by first | exact pad_length _ | exact rfl) (by first | exact pad_length _ | exact rfl) (by kernel_rfl) 26 (show URow _ _ _ 0 Z8 0 Z8 false 0 0 from ⟨alloc_at _ _, rfl, rfl⟩) ?_; intro wb HN HO HB
         have RU_wb : Hid (URow wb (gu) 26 ((I).length : Nat) (pad (I)) ((O).length : Nat) (pad (O)) l c tk) := Lib.hid (URow.other (URow.below RU_wa.out ((Below.refl _ _).alloc (Nat.le_refl _) _) RU_wa.out.lt) HO.out (Nat.ne_of_lt RU_wa.out.lt))
         have RI_wb : Hid (URow wb (gi) 26 ((I).length : Nat) (pad (I)) 0 Z8 l c 0) := Lib.hid (URow.other (URow.below RI_wa.out ((Below.refl _ _).alloc (Nat.le_refl _) _) RI_wa.out.lt) HO.out (Nat.ne_of_lt RI_wa.out.lt))
         have RO_wb : Hid (URow wb (go) 26 0 Z8 ((O).length : Nat) (pad (O)) false c tk) := Lib.hid (URow.other (URow.below RO_wa.out ((Below.refl _ _).alloc (Nat.le_refl _) _) RO_wa.out.lt) HO.out (Nat.ne_of_lt RO_wa.out.lt))
         have RV_wb : Hid (URow wb wa.heap.size 26 ((J).length : Nat) (pad (J)) ((O).length : Nat) (pad (O)) l c tk) := HN
         have BB_wb : Hid (Below w.heap.size w wb) := Lib.hid ((BB_wa.out.alloc BB_wa.out.size _).trans (HB.out.mono BB_wa.out.size))
         have NE_RV_RU := Lib.hid (Nat.ne_of_gt RU_wa.out.lt)
         have NE_RV_RI := Lib.hid (Nat.ne_of_gt RI_wa.out.lt)
         have NE_RV_RO := Lib.hid (Nat.ne_of_gt RO_wa.out.lt)
         clear HO HB HN RU_wa RI_wa RO_wa BB_wa)
      | (go_at_call 13; have hc := BB_wr; clear hc; refine (KU.out _).mono ?_; rintro e wa ⟨rfl, hB⟩
         have RU_wa : Hid (URow wa (gu) 26 ((I).length : Nat) (pad (I)) ((O).length : Nat) (pad (O)) l c tk) := Lib.hid (URow.below RU_wr.out hB RU_wr.out.lt)
         have RI_wa : Hid (URow wa (gi) 26 ((I).length : Nat) (pad (I)) 0 Z8 l c 0) := Lib.hid (URow.below RI_wr.out hB RI_wr.out.lt)
         have RO_wa : Hid (URow wa (go) 26 0 Z8 ((O).length : Nat) (pad (O)) false c tk) := Lib.hid (URow.below RO_wr.out hB RO_wr.out.lt)
         have BB_wa : Hid (Below w.heap.size w wa) := Lib.hid (BB_wr.out.trans (hB.mono BB_wr.out.size))
         clear hB RU_wr RI_wr RO_wr BB_wr)
      | ((with_reducible show wpList _ _ _ (⟨some 109, .load 26 (.tmp 3), _, _, _, _⟩ :: _) _ _); refine wpList_load_u (by rfl) 26 _ rfl (gu) (by exact rfl) _ Try.underlying26 (by kernel_rfl) 26 (RU_wr.out) ?_))
              go_meet
              case rel => exact ⟨_, J, O, l, c, tk, rfl, RG2.out, RU_wf.out, RI_wf.out, RO_wf.out, BB_wf.out⟩
        by_cases h12 : mm = 12
        · subst h12
          have RG2 := RG
          have hu := fun W => rt_read4 (l := l) H W RG.out
          have hi := fun W => rt_read4 (l := l) H W RG.out.inn
          have h5 := stat_and5 I O l
          generalize statU I O l = x at *
          generalize statU I [] l = y at *
          have KU : Hid (∀ W : World, Calls Try.prog 13 #[uv ((I).length : Nat) (pad (I)) ((O).length : Nat) (pad (O)) l c tk, .int .i64 4] W fun e w' => e = .returned (.tuple #[.int .i32 x, uv ((I).length : Nat) (pad (I)) ((O).length : Nat) (pad (O)) false c tk]) ∧ Below W.heap.size W w') := Lib.hid hu
          have KI : Hid (∀ W : World, Calls Try.prog 13 #[uv ((I).length : Nat) (pad (I)) 0 Z8 l c 0, .int .i64 4] W fun e w' => e = .returned (.tuple #[.int .i32 y, uv ((I).length : Nat) (pad (I)) 0 Z8 false c 0]) ∧ Below W.heap.size W w') := Lib.hid hi
          clear hu hi
          as_aux_lemma =>
            go_wp2_with (first
      | ((with_reducible show wpList _ _ _ (⟨none, .store 26 (.tmp 4) (.tmp 135), _, _, _, _⟩ :: _) _ _); refine wpList_store_u rfl 26 _ _ rfl (gi) (by exact rfl) (by exact rfl) (by first | exact pad_length _ | exact rfl) (by first | exact pad_length _ | exact rfl) (by kernel_rfl) 26 RI_we.out ?_; intro wf HN HO HB
         have RU_wf : Hid (URow wf (gu) 26 ((I).length : Nat) (pad (I)) ((O).length : Nat) (pad (O)) false c tk) := Lib.hid (URow.other RU_we.out HO.out (NE_RU_RI.out))
         have RO_wf : Hid (URow wf (go) 26 0 Z8 ((O).length : Nat) (pad (O)) false c tk) := Lib.hid (URow.other RO_we.out HO.out (NE_RO_RI.out))
         have RV_wf : Hid (URow wf (wa.heap.size) 26 ((I).length : Nat) (pad (I)) ((O).length : Nat) (pad (O)) false c tk) := Lib.hid (URow.other RV_we.out HO.out (NE_RV_RI.out))
         have RX_wf : Hid (URow wf (wc.heap.size) 26 ((I).length : Nat) (pad (I)) 0 Z8 false c 0) := Lib.hid (URow.other RX_we.out HO.out (NE_RX_RI.out))
         have RI_wf : Hid (URow wf (gi) 26 ((I).length : Nat) (pad (I)) 0 Z8 false c 0) := HN
         have BB_wf : Hid (Below w.heap.size w wf) := Lib.hid (BB_we.out.trans (HB.out.mono LE_RI.out))
         clear HO HB HN RU_we RI_we RO_we RV_we RX_we BB_we)
      | ((with_reducible show wpList _ _ _ (⟨some 135, .load 26 (.tmp 16), _, _, _, _⟩ :: _) _ _); refine wpList_load_u (by rfl) 26 _ rfl (wc.heap.size) (by exact rfl) _ Try.underlying26 (by kernel_rfl) 26 (RX_we.out) ?_)
      | ((with_reducible show wpList _ _ _ (⟨none, .store 26 (.tmp 3) (.tmp 134), _, _, _, _⟩ :: _) _ _); refine wpList_store_u rfl 26 _ _ rfl (gu) (by exact rfl) (by exact rfl) (by first | exact pad_length _ | exact rfl) (by first | exact pad_length _ | exact rfl) (by kernel_rfl) 26 RU_wd.out ?_; intro we HN HO HB
         have RI_we : Hid (URow we (gi) 26 ((I).length : Nat) (pad (I)) 0 Z8 l c 0) := Lib.hid (URow.other RI_wd.out HO.out (NE_RI_RU.out))
         have RO_we : Hid (URow we (go) 26 0 Z8 ((O).length : Nat) (pad (O)) false c tk) := Lib.hid (URow.other RO_wd.out HO.out (NE_RO_RU.out))
         have RV_we : Hid (URow we (wa.heap.size) 26 ((I).length : Nat) (pad (I)) ((O).length : Nat) (pad (O)) false c tk) := Lib.hid (URow.other RV_wd.out HO.out (NE_RV_RU.out))
         have RX_we : Hid (URow we (wc.heap.size) 26 ((I).length : Nat) (pad (I)) 0 Z8 false c 0) := Lib.hid (URow.other RX_wd.out HO.out (NE_RX_RU.out))
         have RU_we : Hid (URow we (gu) 26 ((I).length : Nat) (pad (I)) ((O).length : Nat) (pad (O)) false c tk) := HN
         have BB_we : Hid (Below w.heap.size w we) := Lib.hid (BB_wd.out.trans (HB.out.mono LE_RU.out))
         clear HO HB HN RU_wd RI_wd RO_wd RV_wd RX_wd BB_wd)
      | ((with_reducible show wpList _ _ _ (⟨some 134, .load 26 (.tmp 14), _, _, _, _⟩ :: _) _ _); refine wpList_load_u (by rfl) 26 _ rfl (wa.heap.size) (by exact rfl) _ Try.underlying26 (by kernel_rfl) 26 (RV_wd.out) ?_)
      | ((with_reducible show wpList _ _ _ (⟨none, .store 26 (.tmp 16) (.tmp 119), _, _, _, _⟩ :: _) _ _); refine wpList_store_u  rfl 26 _ _ rfl (wc.heap.size) (by exact rfl) (by exact rfl) (by first | exact pad_length _ | exact rfl) (by first | exact pad_length _ | exact rfl) (by kernel_rfl) 26 (show URow _ _ _ 0 Z8 0 Z8 false 0 0 from ⟨alloc_at _ _, rfl, rfl⟩) ?_; intro wd HN HO HB
         have RU_wd : Hid (URow wd (gu) 26 ((I).length : Nat) (pad (I)) ((O).length : Nat) (pad (O)) l c tk) := Lib.hid (URow.other (URow.below RU_wc.out ((Below.refl _ _).alloc (Nat.le_refl _) _) RU_wc.out.lt) HO.out (Nat.ne_of_lt RU_wc.out.lt))
         have RI_wd : Hid (URow wd (gi) 26 ((I).length : Nat) (pad (I)) 0 Z8 l c 0) := Lib.hid (URow.other (URow.below RI_wc.out ((Below.refl _ _).alloc (Nat.le_refl _) _) RI_wc.out.lt) HO.out (Nat.ne_of_lt RI_wc.out.lt))
         have RO_wd : Hid (URow wd (go) 26 0 Z8 ((O).length : Nat) (pad (O)) false c tk) := Lib.hid (URow.other (URow.below RO_wc.out ((Below.refl _ _).alloc (Nat.le_refl _) _) RO_wc.out.lt) HO.out (Nat.ne_of_lt RO_wc.out.lt))
         have RV_wd : Hid (URow wd (wa.heap.size) 26 ((I).length : Nat) (pad (I)) ((O).length : Nat) (pad (O)) false c tk) := Lib.hid (URow.other (URow.below RV_wc.out ((Below.refl _ _).alloc (Nat.le_refl _) _) RV_wc.out.lt) HO.out (Nat.ne_of_lt RV_wc.out.lt))
         have RX_wd : Hid (URow wd wc.heap.size 26 ((I).length : Nat) (pad (I)) 0 Z8 false c 0) := HN
         have BB_wd : Hid (Below w.heap.size w wd) := Lib.hid ((BB_wc.out.alloc BB_wc.out.size _).trans (HB.out.mono BB_wc.out.size))
         have NE_RX_RU := Lib.hid (Nat.ne_of_gt RU_wc.out.lt)
         have NE_RX_RI := Lib.hid (Nat.ne_of_gt RI_wc.out.lt)
         have NE_RX_RO := Lib.hid (Nat.ne_of_gt RO_wc.out.lt)
         clear HO HB HN RU_wc RI_wc RO_wc RV_wc BB_wc)
      | (go_at_call 13; have hc := BB_wb; clear hc; refine (KI.out _).mono ?_; rintro e wc ⟨rfl, hB⟩
         have RU_wc : Hid (URow wc (gu) 26 ((I).length : Nat) (pad (I)) ((O).length : Nat) (pad (O)) l c tk) := Lib.hid (URow.below RU_wb.out hB RU_wb.out.lt)
         have RI_wc : Hid (URow wc (gi) 26 ((I).length : Nat) (pad (I)) 0 Z8 l c 0) := Lib.hid (URow.below RI_wb.out hB RI_wb.out.lt)
         have RO_wc : Hid (URow wc (go) 26 0 Z8 ((O).length : Nat) (pad (O)) false c tk) := Lib.hid (URow.below RO_wb.out hB RO_wb.out.lt)
         have RV_wc : Hid (URow wc (wa.heap.size) 26 ((I).length : Nat) (pad (I)) ((O).length : Nat) (pad (O)) false c tk) := Lib.hid (URow.below RV_wb.out hB RV_wb.out.lt)
         have BB_wc : Hid (Below w.heap.size w wc) := Lib.hid (BB_wb.out.trans (hB.mono BB_wb.out.size))
         clear hB RU_wb RI_wb RO_wb RV_wb BB_wb)
      | ((with_reducible show wpList _ _ _ (⟨some 115, .load 26 (.tmp 4), _, _, _, _⟩ :: _) _ _); refine wpList_load_u (by rfl) 26 _ rfl (gi) (by exact rfl) _ Try.underlying26 (by kernel_rfl) 26 (RI_wb.out) ?_)
      | ((with_reducible show wpList _ _ _ (⟨none, .store 26 (.tmp 14) (.tmp 113), _, _, _, _⟩ :: _) _ _); refine wpList_store_u  rfl 26 _ _ rfl (wa.heap.size) (by exact rfl) (by exact rfl) (by first | exact pad_length _ | exact rfl) (by first | exact pad_length _ | exact rfl) (by kernel_rfl) 26 (show URow _ _ _ 0 Z8 0 Z8 false 0 0 from ⟨alloc_at _ _, rfl, rfl⟩) ?_; intro wb HN HO HB
         have RU_wb : Hid (URow wb (gu) 26 ((I).length : Nat) (pad (I)) ((O).length : Nat) (pad (O)) l c tk) := Lib.hid (URow.other (URow.below RU_wa.out ((Below.refl _ _).alloc (Nat.le_refl _) _) RU_wa.out.lt) HO.out (Nat.ne_of_lt RU_wa.out.lt))
         have RI_wb : Hid (URow wb (gi) 26 ((I).length : Nat) (pad (I)) 0 Z8 l c 0) := Lib.hid (URow.other (URow.below RI_wa.out ((Below.refl _ _).alloc (Nat.le_refl _) _) RI_wa.out.lt) HO.out (Nat.ne_of_lt RI_wa.out.lt))
         have RO_wb : Hid (URow wb (go) 26 0 Z8 ((O).length : Nat) (pad (O)) false c tk) := Lib.hid (URow.other (URow.below RO_wa.out ((Below.refl _ _).alloc (Nat.le_refl _) _) RO_wa.out.lt) HO.out (Nat.ne_of_lt RO_wa.out.lt))
         have RV_wb : Hid (URow wb wa.heap.size 26 ((I).length : Nat) (pad (I)) ((O).length : Nat) (pad (O)) false c tk) := HN
         have BB_wb : Hid (Below w.heap.size w wb) := Lib.hid ((BB_wa.out.alloc BB_wa.out.size _).trans (HB.out.mono BB_wa.out.size))
         have NE_RV_RU := Lib.hid (Nat.ne_of_gt RU_wa.out.lt)
         have NE_RV_RI := Lib.hid (Nat.ne_of_gt RI_wa.out.lt)
         have NE_RV_RO := Lib.hid (Nat.ne_of_gt RO_wa.out.lt)
         clear HO HB HN RU_wa RI_wa RO_wa BB_wa)
      | (go_at_call 13; have hc := BB_wr; clear hc; refine (KU.out _).mono ?_; rintro e wa ⟨rfl, hB⟩
         have RU_wa : Hid (URow wa (gu) 26 ((I).length : Nat) (pad (I)) ((O).length : Nat) (pad (O)) l c tk) := Lib.hid (URow.below RU_wr.out hB RU_wr.out.lt)
         have RI_wa : Hid (URow wa (gi) 26 ((I).length : Nat) (pad (I)) 0 Z8 l c 0) := Lib.hid (URow.below RI_wr.out hB RI_wr.out.lt)
         have RO_wa : Hid (URow wa (go) 26 0 Z8 ((O).length : Nat) (pad (O)) false c tk) := Lib.hid (URow.below RO_wr.out hB RO_wr.out.lt)
         have BB_wa : Hid (Below w.heap.size w wa) := Lib.hid (BB_wr.out.trans (hB.mono BB_wr.out.size))
         clear hB RU_wr RI_wr RO_wr BB_wr)
      | ((with_reducible show wpList _ _ _ (⟨some 109, .load 26 (.tmp 3), _, _, _, _⟩ :: _) _ _); refine wpList_load_u (by rfl) 26 _ rfl (gu) (by exact rfl) _ Try.underlying26 (by kernel_rfl) 26 (RU_wr.out) ?_))
            go_meet
            case rel => exact ⟨_, I, O, false, c, tk, rfl, RG2.out, RU_wf.out, RI_wf.out, RO_wf.out, BB_wf.out⟩
        by_cases hc' : mm = 4 ∨ mm = 5
        · rcases hc' with rfl | rfl
          ·
            clear q1 hm
            have RG2 := Lib.hid (RG.out.addO hb8)
            have hu := fun W => rt_write3 (l := l) H W RG.out (b : Int) (by omega) (by omega)
            have ho := fun W => rt_write3 (l := false) H W RG.out.outt (b : Int) (by omega) (by omega)
            rw [lowN_small' b hb8] at hu ho
            generalize addL O b = J at *
            have KU : Hid (∀ W : World, Calls Try.prog 14 #[uv ((I).length : Nat) (pad (I)) ((O).length : Nat) (pad (O)) l c tk, .int .i64 3, .int .i32 b] W fun e w' => e = .returned (uv ((I).length : Nat) (pad (I)) ((J).length : Nat) (pad (J)) l c tk) ∧ Below W.heap.size W w') := Lib.hid hu
            have KO : Hid (∀ W : World, Calls Try.prog 14 #[uv 0 Z8 ((O).length : Nat) (pad (O)) false c tk, .int .i64 3, .int .i32 b] W fun e w' => e = .returned (uv 0 Z8 ((J).length : Nat) (pad (J)) false c tk) ∧ Below W.heap.size W w') := Lib.hid ho
            clear hu ho
            as_aux_lemma =>
              go_wp2_with (first
      | ((with_reducible show wpList _ _ _ (⟨none, .store 26 (.tmp 5) (.tmp 146), _, _, _, _⟩ :: _) _ _); refine wpList_store_u rfl 26 _ _ rfl (go) (by exact rfl) (by exact rfl) (by first | exact pad_length _ | exact rfl) (by first | exact pad_length _ | exact rfl) (by kernel_rfl) 26 RO_wc.out ?_; intro wd HN HO HB
         have RU_wd : Hid (URow wd (gu) 26 ((I).length : Nat) (pad (I)) ((J).length : Nat) (pad (J)) l c tk) := Lib.hid (URow.other RU_wc.out HO.out (NE_RU_RO.out))
         have RI_wd : Hid (URow wd (gi) 26 ((I).length : Nat) (pad (I)) 0 Z8 l c 0) := Lib.hid (URow.other RI_wc.out HO.out (NE_RI_RO.out))
         have RO_wd : Hid (URow wd (go) 26 0 Z8 ((J).length : Nat) (pad (J)) false c tk) := HN
         have BB_wd : Hid (Below w.heap.size w wd) := Lib.hid (BB_wc.out.trans (HB.out.mono LE_RO.out))
         clear HO HB HN RU_wc RI_wc RO_wc BB_wc)
      | (go_at_call 14; have hc := BB_wb; clear hc; refine (KO.out _).mono ?_; rintro e wc ⟨rfl, hB⟩
         have RU_wc : Hid (URow wc (gu) 26 ((I).length : Nat) (pad (I)) ((J).length : Nat) (pad (J)) l c tk) := Lib.hid (URow.below RU_wb.out hB RU_wb.out.lt)
         have RI_wc : Hid (URow wc (gi) 26 ((I).length : Nat) (pad (I)) 0 Z8 l c 0) := Lib.hid (URow.below RI_wb.out hB RI_wb.out.lt)
         have RO_wc : Hid (URow wc (go) 26 0 Z8 ((O).length : Nat) (pad (O)) false c tk) := Lib.hid (URow.below RO_wb.out hB RO_wb.out.lt)
         have BB_wc : Hid (Below w.heap.size w wc) := Lib.hid (BB_wb.out.trans (hB.mono BB_wb.out.size))
         clear hB RU_wb RI_wb RO_wb BB_wb)
      | ((with_reducible show wpList _ _ _ (⟨some 143, .load 26 (.tmp 5), _, _, _, _⟩ :: _) _ _); refine wpList_load_u (by rfl) 26 _ rfl (go) (by exact rfl) _ Try.underlying26 (by kernel_rfl) 26 (RO_wb.out) ?_)
      | ((with_reducible show wpList _ _ _ (⟨none, .store 26 (.tmp 3) (.tmp 142), _, _, _, _⟩ :: _) _ _); refine wpList_store_u rfl 26 _ _ rfl (gu) (by exact rfl) (by exact rfl) (by first | exact pad_length _ | exact rfl) (by first | exact pad_length _ | exact rfl) (by kernel_rfl) 26 RU_wa.out ?_; intro wb HN HO HB
         have RI_wb : Hid (URow wb (gi) 26 ((I).length : Nat) (pad (I)) 0 Z8 l c 0) := Lib.hid (URow.other RI_wa.out HO.out (NE_RI_RU.out))
         have RO_wb : Hid (URow wb (go) 26 0 Z8 ((O).length : Nat) (pad (O)) false c tk) := Lib.hid (URow.other RO_wa.out HO.out (NE_RO_RU.out))
         have RU_wb : Hid (URow wb (gu) 26 ((I).length : Nat) (pad (I)) ((J).length : Nat) (pad (J)) l c tk) := HN
         have BB_wb : Hid (Below w.heap.size w wb) := Lib.hid (BB_wa.out.trans (HB.out.mono LE_RU.out))
         clear HO HB HN RU_wa RI_wa RO_wa BB_wa)
      | (go_at_call 14; have hc := BB_wr; clear hc; refine (KU.out _).mono ?_; rintro e wa ⟨rfl, hB⟩
         have RU_wa : Hid (URow wa (gu) 26 ((I).length : Nat) (pad (I)) ((O).length : Nat) (pad (O)) l c tk) := Lib.hid (URow.below RU_wr.out hB RU_wr.out.lt)
         have RI_wa : Hid (URow wa (gi) 26 ((I).length : Nat) (pad (I)) 0 Z8 l c 0) := Lib.hid (URow.below RI_wr.out hB RI_wr.out.lt)
         have RO_wa : Hid (URow wa (go) 26 0 Z8 ((O).length : Nat) (pad (O)) false c tk) := Lib.hid (URow.below RO_wr.out hB RO_wr.out.lt)
         have BB_wa : Hid (Below w.heap.size w wa) := Lib.hid (BB_wr.out.trans (hB.mono BB_wr.out.size))
         clear hB RU_wr RI_wr RO_wr BB_wr)
      | ((with_reducible show wpList _ _ _ (⟨some 139, .load 26 (.tmp 3), _, _, _, _⟩ :: _) _ _); refine wpList_load_u (by rfl) 26 _ rfl (gu) (by exact rfl) _ Try.underlying26 (by kernel_rfl) 26 (RU_wr.out) ?_))
              go_meet
              case rel => exact ⟨_, I, J, l, c, tk, rfl, RG2.out, RU_wd.out, RI_wd.out, RO_wd.out, BB_wd.out⟩
          ·
            clear q1 hm
            have RG2 := Lib.hid (RG.out.addO hb8)
            have hu := fun W => rt_write3 (l := l) H W RG.out (b : Int) (by omega) (by omega)
            have ho := fun W => rt_write3 (l := false) H W RG.out.outt (b : Int) (by omega) (by omega)
            rw [lowN_small' b hb8] at hu ho
            generalize addL O b = J at *
            have KU : Hid (∀ W : World, Calls Try.prog 14 #[uv ((I).length : Nat) (pad (I)) ((O).length : Nat) (pad (O)) l c tk, .int .i64 3, .int .i32 b] W fun e w' => e = .returned (uv ((I).length : Nat) (pad (I)) ((J).length : Nat) (pad (J)) l c tk) ∧ Below W.heap.size W w') := Lib.hid hu
            have KO : Hid (∀ W : World, Calls Try.prog 14 #[uv 0 Z8 ((O).length : Nat) (pad (O)) false c tk, .int .i64 3, .int .i32 b] W fun e w' => e = .returned (uv 0 Z8 ((J).length : Nat) (pad (J)) false c tk) ∧ Below W.heap.size W w') := Lib.hid ho
            clear hu ho
            as_aux_lemma =>
              go_wp2_with (first
      | ((with_reducible show wpList _ _ _ (⟨none, .store 26 (.tmp 5) (.tmp 146), _, _, _, _⟩ :: _) _ _); refine wpList_store_u rfl 26 _ _ rfl (go) (by exact rfl) (by exact rfl) (by first | exact pad_length _ | exact rfl) (by first | exact pad_length _ | exact rfl) (by kernel_rfl) 26 RO_wc.out ?_; intro wd HN HO HB
         have RU_wd : Hid (URow wd (gu) 26 ((I).length : Nat) (pad (I)) ((J).length : Nat) (pad (J)) l c tk) := Lib.hid (URow.other RU_wc.out HO.out (NE_RU_RO.out))
         have RI_wd : Hid (URow wd (gi) 26 ((I).length : Nat) (pad (I)) 0 Z8 l c 0) := Lib.hid (URow.other RI_wc.out HO.out (NE_RI_RO.out))
         have RO_wd : Hid (URow wd (go) 26 0 Z8 ((J).length : Nat) (pad (J)) false c tk) := HN
         have BB_wd : Hid (Below w.heap.size w wd) := Lib.hid (BB_wc.out.trans (HB.out.mono LE_RO.out))
         clear HO HB HN RU_wc RI_wc RO_wc BB_wc)
      | (go_at_call 14; have hc := BB_wb; clear hc; refine (KO.out _).mono ?_; rintro e wc ⟨rfl, hB⟩
         have RU_wc : Hid (URow wc (gu) 26 ((I).length : Nat) (pad (I)) ((J).length : Nat) (pad (J)) l c tk) := Lib.hid (URow.below RU_wb.out hB RU_wb.out.lt)
         have RI_wc : Hid (URow wc (gi) 26 ((I).length : Nat) (pad (I)) 0 Z8 l c 0) := Lib.hid (URow.below RI_wb.out hB RI_wb.out.lt)
         have RO_wc : Hid (URow wc (go) 26 0 Z8 ((O).length : Nat) (pad (O)) false c tk) := Lib.hid (URow.below RO_wb.out hB RO_wb.out.lt)
         have BB_wc : Hid (Below w.heap.size w wc) := Lib.hid (BB_wb.out.trans (hB.mono BB_wb.out.size))
         clear hB RU_wb RI_wb RO_wb BB_wb)
      | ((with_reducible show wpList _ _ _ (⟨some 143, .load 26 (.tmp 5), _, _, _, _⟩ :: _) _ _); refine wpList_load_u (by rfl) 26 _ rfl (go) (by exact rfl) _ Try.underlying26 (by kernel_rfl) 26 (RO_wb.out) ?_)
      | ((with_reducible show wpList _ _ _ (⟨none, .store 26 (.tmp 3) (.tmp 142), _, _, _, _⟩ :: _) _ _); refine wpList_store_u rfl 26 _ _ rfl (gu) (by exact rfl) (by exact rfl) (by first | exact pad_length _ | exact rfl) (by first | exact pad_length _ | exact rfl) (by kernel_rfl) 26 RU_wa.out ?_; intro wb HN HO HB
         have RI_wb : Hid (URow wb (gi) 26 ((I).length : Nat) (pad (I)) 0 Z8 l c 0) := Lib.hid (URow.other RI_wa.out HO.out (NE_RI_RU.out))
         have RO_wb : Hid (URow wb (go) 26 0 Z8 ((O).length : Nat) (pad (O)) false c tk) := Lib.hid (URow.other RO_wa.out HO.out (NE_RO_RU.out))
         have RU_wb : Hid (URow wb (gu) 26 ((I).length : Nat) (pad (I)) ((J).length : Nat) (pad (J)) l c tk) := HN
         have BB_wb : Hid (Below w.heap.size w wb) := Lib.hid (BB_wa.out.trans (HB.out.mono LE_RU.out))
         clear HO HB HN RU_wa RI_wa RO_wa BB_wa)
      | (go_at_call 14; have hc := BB_wr; clear hc; refine (KU.out _).mono ?_; rintro e wa ⟨rfl, hB⟩
         have RU_wa : Hid (URow wa (gu) 26 ((I).length : Nat) (pad (I)) ((O).length : Nat) (pad (O)) l c tk) := Lib.hid (URow.below RU_wr.out hB RU_wr.out.lt)
         have RI_wa : Hid (URow wa (gi) 26 ((I).length : Nat) (pad (I)) 0 Z8 l c 0) := Lib.hid (URow.below RI_wr.out hB RI_wr.out.lt)
         have RO_wa : Hid (URow wa (go) 26 0 Z8 ((O).length : Nat) (pad (O)) false c tk) := Lib.hid (URow.below RO_wr.out hB RO_wr.out.lt)
         have BB_wa : Hid (Below w.heap.size w wa) := Lib.hid (BB_wr.out.trans (hB.mono BB_wr.out.size))
         clear hB RU_wr RI_wr RO_wr BB_wr)
      | ((with_reducible show wpList _ _ _ (⟨some 139, .load 26 (.tmp 3), _, _, _, _⟩ :: _) _ _); refine wpList_load_u (by rfl) 26 _ rfl (gu) (by exact rfl) _ Try.underlying26 (by kernel_rfl) 26 (RU_wr.out) ?_))
              go_meet
              case rel => exact ⟨_, I, J, l, c, tk, rfl, RG2.out, RU_wd.out, RI_wd.out, RO_wd.out, BB_wd.out⟩
        by_cases h11 : mm = 11
        · subst h11
          clear q1 hm
          have RG2 := Lib.hid (RG.out.ctl hb8)
          have hu := fun W => rt_write5 (l := l) H W RG.out (b : Int) (by omega) (by omega)
          have hi := fun W => rt_write5 (l := l) H W RG.out.inn (b : Int) (by omega) (by omega)
          have ho := fun W => rt_write5 (l := false) H W RG.out.outt (b : Int) (by omega) (by omega)
          rw [lowN_small' b hb8] at hu hi ho
          have KU : Hid (∀ W : World, Calls Try.prog 14 #[uv ((I).length : Nat) (pad (I)) ((O).length : Nat) (pad (O)) l c tk, .int .i64 5, .int .i32 b] W fun e w' => e = .returned (uv ((I).length : Nat) (pad (I)) ((O).length : Nat) (pad (O)) l b tk) ∧ Below W.heap.size W w') := Lib.hid hu
          have KI : Hid (∀ W : World, Calls Try.prog 14 #[uv ((I).length : Nat) (pad (I)) 0 Z8 l c 0, .int .i64 5, .int .i32 b] W fun e w' => e = .returned (uv ((I).length : Nat) (pad (I)) 0 Z8 l b 0) ∧ Below W.heap.size W w') := Lib.hid hi
          have KO : Hid (∀ W : World, Calls Try.prog 14 #[uv 0 Z8 ((O).length : Nat) (pad (O)) false c tk, .int .i64 5, .int .i32 b] W fun e w' => e = .returned (uv 0 Z8 ((O).length : Nat) (pad (O)) false b tk) ∧ Below W.heap.size W w') := Lib.hid ho
          clear hu hi ho
          as_aux_lemma =>
            go_wp2_with (first
      | ((with_reducible show wpList _ _ _ (⟨none, .store 26 (.tmp 5) (.tmp 160), _, _, _, _⟩ :: _) _ _); refine wpList_store_u rfl 26 _ _ rfl (go) (by exact rfl) (by exact rfl) (by first | exact pad_length _ | exact rfl) (by first | exact pad_length _ | exact rfl) (by kernel_rfl) 26 RO_we.out ?_; intro wf HN HO HB
         have RU_wf : Hid (URow wf (gu) 26 ((I).length : Nat) (pad (I)) ((O).length : Nat) (pad (O)) l b tk) := Lib.hid (URow.other RU_we.out HO.out (NE_RU_RO.out))
         have RI_wf : Hid (URow wf (gi) 26 ((I).length : Nat) (pad (I)) 0 Z8 l b 0) := Lib.hid (URow.other RI_we.out HO.out (NE_RI_RO.out))
         have RO_wf : Hid (URow wf (go) 26 0 Z8 ((O).length : Nat) (pad (O)) false b tk) := HN
         have BB_wf : Hid (Below w.heap.size w wf) := Lib.hid (BB_we.out.trans (HB.out.mono LE_RO.out))
         clear HO HB HN RU_we RI_we RO_we BB_we)
      | (go_at_call 14; have hc := BB_wd; clear hc; refine (KO.out _).mono ?_; rintro e we ⟨rfl, hB⟩
         have RU_we : Hid (URow we (gu) 26 ((I).length : Nat) (pad (I)) ((O).length : Nat) (pad (O)) l b tk) := Lib.hid (URow.below RU_wd.out hB RU_wd.out.lt)
         have RI_we : Hid (URow we (gi) 26 ((I).length : Nat) (pad (I)) 0 Z8 l b 0) := Lib.hid (URow.below RI_wd.out hB RI_wd.out.lt)
         have RO_we : Hid (URow we (go) 26 0 Z8 ((O).length : Nat) (pad (O)) false c tk) := Lib.hid (URow.below RO_wd.out hB RO_wd.out.lt)
         have BB_we : Hid (Below w.heap.size w we) := Lib.hid (BB_wd.out.trans (hB.mono BB_wd.out.size))
         clear hB RU_wd RI_wd RO_wd BB_wd)
      | ((with_reducible show wpList _ _ _ (⟨some 157, .load 26 (.tmp 5), _, _, _, _⟩ :: _) _ _); refine wpList_load_u (by rfl) 26 _ rfl (go) (by exact rfl) _ Try.underlying26 (by kernel_rfl) 26 (RO_wd.out) ?_)
      | ((with_reducible show wpList _ _ _ (⟨none, .store 26 (.tmp 4) (.tmp 156), _, _, _, _⟩ :: _) _ _); refine wpList_store_u rfl 26 _ _ rfl (gi) (by exact rfl) (by exact rfl) (by first | exact pad_length _ | exact rfl) (by first | exact pad_length _ | exact rfl) (by kernel_rfl) 26 RI_wc.out ?_; intro wd HN HO HB
         have RU_wd : Hid (URow wd (gu) 26 ((I).length : Nat) (pad (I)) ((O).length : Nat) (pad (O)) l b tk) := Lib.hid (URow.other RU_wc.out HO.out (NE_RU_RI.out))
         have RO_wd : Hid (URow wd (go) 26 0 Z8 ((O).length : Nat) (pad (O)) false c tk) := Lib.hid (URow.other RO_wc.out HO.out (NE_RO_RI.out))
         have RI_wd : Hid (URow wd (gi) 26 ((I).length : Nat) (pad (I)) 0 Z8 l b 0) := HN
         have BB_wd : Hid (Below w.heap.size w wd) := Lib.hid (BB_wc.out.trans (HB.out.mono LE_RI.out))
         clear HO HB HN RU_wc RI_wc RO_wc BB_wc)
      | (go_at_call 14; have hc := BB_wb; clear hc; refine (KI.out _).mono ?_; rintro e wc ⟨rfl, hB⟩
         have RU_wc : Hid (URow wc (gu) 26 ((I).length : Nat) (pad (I)) ((O).length : Nat) (pad (O)) l b tk) := Lib.hid (URow.below RU_wb.out hB RU_wb.out.lt)
         have RI_wc : Hid (URow wc (gi) 26 ((I).length : Nat) (pad (I)) 0 Z8 l c 0) := Lib.hid (URow.below RI_wb.out hB RI_wb.out.lt)
         have RO_wc : Hid (URow wc (go) 26 0 Z8 ((O).length : Nat) (pad (O)) false c tk) := Lib.hid (URow.below RO_wb.out hB RO_wb.out.lt)
         have BB_wc : Hid (Below w.heap.size w wc) := Lib.hid (BB_wb.out.trans (hB.mono BB_wb.out.size))
         clear hB RU_wb RI_wb RO_wb BB_wb)
      | ((with_reducible show wpList _ _ _ (⟨some 153, .load 26 (.tmp 4), _, _, _, _⟩ :: _) _ _); refine wpList_load_u (by rfl) 26 _ rfl (gi) (by exact rfl) _ Try.underlying26 (by kernel_rfl) 26 (RI_wb.out) ?_)
      | ((with_reducible show wpList _ _ _ (⟨none, .store 26 (.tmp 3) (.tmp 152), _, _, _, _⟩ :: _) _ _); refine wpList_store_u rfl 26 _ _ rfl (gu) (by exact rfl) (by exact rfl) (by first | exact pad_length _ | exact rfl) (by first | exact pad_length _ | exact rfl) (by kernel_rfl) 26 RU_wa.out ?_; intro wb HN HO HB
         have RI_wb : Hid (URow wb (gi) 26 ((I).length : Nat) (pad (I)) 0 Z8 l c 0) := Lib.hid (URow.other RI_wa.out HO.out (NE_RI_RU.out))
         have RO_wb : Hid (URow wb (go) 26 0 Z8 ((O).length : Nat) (pad (O)) false c tk) := Lib.hid (URow.other RO_wa.out HO.out (NE_RO_RU.out))
         have RU_wb : Hid (URow wb (gu) 26 ((I).length : Nat) (pad (I)) ((O).length : Nat) (pad (O)) l b tk) := HN
         have BB_wb : Hid (Below w.heap.size w wb) := Lib.hid (BB_wa.out.trans (HB.out.mono LE_RU.out))
         clear HO HB HN RU_wa RI_wa RO_wa BB_wa)
      | (go_at_call 14; have hc := BB_wr; clear hc; refine (KU.out _).mono ?_; rintro e wa ⟨rfl, hB⟩
         have RU_wa : Hid (URow wa (gu) 26 ((I).length : Nat) (pad (I)) ((O).length : Nat) (pad (O)) l c tk) := Lib.hid (URow.below RU_wr.out hB RU_wr.out.lt)
         have RI_wa : Hid (URow wa (gi) 26 ((I).length : Nat) (pad (I)) 0 Z8 l c 0) := Lib.hid (URow.below RI_wr.out hB RI_wr.out.lt)
         have RO_wa : Hid (URow wa (go) 26 0 Z8 ((O).length : Nat) (pad (O)) false c tk) := Lib.hid (URow.below RO_wr.out hB RO_wr.out.lt)
         have BB_wa : Hid (Below w.heap.size w wa) := Lib.hid (BB_wr.out.trans (hB.mono BB_wr.out.size))
         clear hB RU_wr RI_wr RO_wr BB_wr)
      | ((with_reducible show wpList _ _ _ (⟨some 149, .load 26 (.tmp 3), _, _, _, _⟩ :: _) _ _); refine wpList_load_u (by rfl) 26 _ rfl (gu) (by exact rfl) _ Try.underlying26 (by kernel_rfl) 26 (RU_wr.out) ?_))
            go_meet
            case rel => exact ⟨_, I, O, l, b, tk, rfl, RG2.out, RU_wf.out, RI_wf.out, RO_wf.out, BB_wf.out⟩
        have g0 : ((mm : Int) == 0) = false := by simp; omega
        have g1 : ((mm : Int) == 1) = false := by simp; omega
        have g2 : ((mm : Int) == 2) = false := by simp; omega
        have g3 : ((mm : Int) == 3) = false := by simp; omega
        have g12 : ((mm : Int) == 12) = false := by simp; omega
        have g4 : ((mm : Int) == 4) = false := by simp; omega
        have g5 : ((mm : Int) == 5) = false := by simp; omega
        have g11 : ((mm : Int) == 11) = false := by simp; omega
        clear ha hb' hc' h11 h12 hm13
        clear q1 hm
        have RG2 := Lib.hid RG.out.tick
        have hu := fun W => rt_tick (l := l) H W RG.out
        have ho := fun W => rt_tick (l := false) H W RG.out.outt
        generalize tickT O tk = J at *
        generalize tickK O tk = t2 at *
        generalize tickB O tk = x at *
        generalize sendsU O tk = s2 at *
        generalize tickQ O c tk = q9 at *
        have KU : Hid (∀ W : World, Calls Try.prog 15 #[uv ((I).length : Nat) (pad (I)) ((O).length : Nat) (pad (O)) l c tk] W fun e w' => e = .returned (.tuple #[uv ((I).length : Nat) (pad (I)) ((J).length : Nat) (pad (J)) l c t2, .int .u8 (x : Nat), .bool s2, .bool q9]) ∧ Below W.heap.size W w') := Lib.hid hu
        have KO : Hid (∀ W : World, Calls Try.prog 15 #[uv 0 Z8 ((O).length : Nat) (pad (O)) false c tk] W fun e w' => e = .returned (.tuple #[uv 0 Z8 ((J).length : Nat) (pad (J)) false c t2, .int .u8 (x : Nat), .bool s2, .bool q9]) ∧ Below W.heap.size W w') := Lib.hid ho
        clear hu ho
        as_aux_lemma =>
          go_wp2_with (first
      | ((with_reducible show wpList _ _ _ (⟨none, .store 26 (.tmp 5) (.tmp 76), _, _, _, _⟩ :: _) _ _); refine wpList_store_u rfl 26 _ _ rfl (go) (by exact rfl) (by exact rfl) (by first | exact pad_length _ | exact rfl) (by first | exact pad_length _ | exact rfl) (by kernel_rfl) 26 RO_we.out ?_; intro wf HN HO HB
         have RU_wf : Hid (URow wf (gu) 26 ((I).length : Nat) (pad (I)) ((J).length : Nat) (pad (J)) l c t2) := Lib.hid (URow.other RU_we.out HO.out (NE_RU_RO.out))
         have RI_wf : Hid (URow wf (gi) 26 ((I).length : Nat) (pad (I)) 0 Z8 l c 0) := Lib.hid (URow.other RI_we.out HO.out (NE_RI_RO.out))
         have RV_wf : Hid (URow wf (wa.heap.size) 26 ((I).length : Nat) (pad (I)) ((J).length : Nat) (pad (J)) l c t2) := Lib.hid (URow.other RV_we.out HO.out (NE_RV_RO.out))
         have RX_wf : Hid (URow wf (wc.heap.size) 26 0 Z8 ((J).length : Nat) (pad (J)) false c t2) := Lib.hid (URow.other RX_we.out HO.out (NE_RX_RO.out))
         have RO_wf : Hid (URow wf (go) 26 0 Z8 ((J).length : Nat) (pad (J)) false c t2) := HN
         have BB_wf : Hid (Below w.heap.size w wf) := Lib.hid (BB_we.out.trans (HB.out.mono LE_RO.out))
         clear HO HB HN RU_we RI_we RO_we RV_we RX_we BB_we)
      | ((with_reducible show wpList _ _ _ (⟨some 76, .load 26 (.tmp 21), _, _, _, _⟩ :: _) _ _); refine wpList_load_u (by rfl) 26 _ rfl (wc.heap.size) (by exact rfl) _ Try.underlying26 (by kernel_rfl) 26 (RX_we.out) ?_)
      | ((with_reducible show wpList _ _ _ (⟨none, .store 26 (.tmp 3) (.tmp 75), _, _, _, _⟩ :: _) _ _); refine wpList_store_u rfl 26 _ _ rfl (gu) (by exact rfl) (by exact rfl) (by first | exact pad_length _ | exact rfl) (by first | exact pad_length _ | exact rfl) (by kernel_rfl) 26 RU_wd.out ?_; intro we HN HO HB
         have RI_we : Hid (URow we (gi) 26 ((I).length : Nat) (pad (I)) 0 Z8 l c 0) := Lib.hid (URow.other RI_wd.out HO.out (NE_RI_RU.out))
         have RO_we : Hid (URow we (go) 26 0 Z8 ((O).length : Nat) (pad (O)) false c tk) := Lib.hid (URow.other RO_wd.out HO.out (NE_RO_RU.out))
         have RV_we : Hid (URow we (wa.heap.size) 26 ((I).length : Nat) (pad (I)) ((J).length : Nat) (pad (J)) l c t2) := Lib.hid (URow.other RV_wd.out HO.out (NE_RV_RU.out))
         have RX_we : Hid (URow we (wc.heap.size) 26 0 Z8 ((J).length : Nat) (pad (J)) false c t2) := Lib.hid (URow.other RX_wd.out HO.out (NE_RX_RU.out))
         have RU_we : Hid (URow we (gu) 26 ((I).length : Nat) (pad (I)) ((J).length : Nat) (pad (J)) l c t2) := HN
         have BB_we : Hid (Below w.heap.size w we) := Lib.hid (BB_wd.out.trans (HB.out.mono LE_RU.out))
         clear HO HB HN RU_wd RI_wd RO_wd RV_wd RX_wd BB_wd)
      | ((with_reducible show wpList _ _ _ (⟨some 75, .load 26 (.tmp 17), _, _, _, _⟩ :: _) _ _); refine wpList_load_u (by rfl) 26 _ rfl (wa.heap.size) (by exact rfl) _ Try.underlying26 (by kernel_rfl) 26 (RV_wd.out) ?_)
      | ((with_reducible show wpList _ _ _ (⟨none, .store 26 (.tmp 21) (.tmp 58), _, _, _, _⟩ :: _) _ _); refine wpList_store_u  rfl 26 _ _ rfl (wc.heap.size) (by exact rfl) (by exact rfl) (by first | exact pad_length _ | exact rfl) (by first | exact pad_length _ | exact rfl) (by kernel_rfl) 26 (show URow _ _ _ 0 Z8 0 Z8 false 0 0 from ⟨alloc_at _ _, rfl, rfl⟩) ?_; intro wd HN HO HB
         have RU_wd : Hid (URow wd (gu) 26 ((I).length : Nat) (pad (I)) ((O).length : Nat) (pad (O)) l c tk) := Lib.hid (URow.other (URow.below RU_wc.out ((Below.refl _ _).alloc (Nat.le_refl _) _) RU_wc.out.lt) HO.out (Nat.ne_of_lt RU_wc.out.lt))
         have RI_wd : Hid (URow wd (gi) 26 ((I).length : Nat) (pad (I)) 0 Z8 l c 0) := Lib.hid (URow.other (URow.below RI_wc.out ((Below.refl _ _).alloc (Nat.le_refl _) _) RI_wc.out.lt) HO.out (Nat.ne_of_lt RI_wc.out.lt))
         have RO_wd : Hid (URow wd (go) 26 0 Z8 ((O).length : Nat) (pad (O)) false c tk) := Lib.hid (URow.other (URow.below RO_wc.out ((Below.refl _ _).alloc (Nat.le_refl _) _) RO_wc.out.lt) HO.out (Nat.ne_of_lt RO_wc.out.lt))
         have RV_wd : Hid (URow wd (wa.heap.size) 26 ((I).length : Nat) (pad (I)) ((J).length : Nat) (pad (J)) l c t2) := Lib.hid (URow.other (URow.below RV_wc.out ((Below.refl _ _).alloc (Nat.le_refl _) _) RV_wc.out.lt) HO.out (Nat.ne_of_lt RV_wc.out.lt))
         have RX_wd : Hid (URow wd wc.heap.size 26 0 Z8 ((J).length : Nat) (pad (J)) false c t2) := HN
         have BB_wd : Hid (Below w.heap.size w wd) := Lib.hid ((BB_wc.out.alloc BB_wc.out.size _).trans (HB.out.mono BB_wc.out.size))
         have NE_RX_RU := Lib.hid (Nat.ne_of_gt RU_wc.out.lt)
         have NE_RX_RI := Lib.hid (Nat.ne_of_gt RI_wc.out.lt)
         have NE_RX_RO := Lib.hid (Nat.ne_of_gt RO_wc.out.lt)
         clear HO HB HN RU_wc RI_wc RO_wc RV_wc BB_wc)
      | (go_at_call 15; have hc := BB_wb; clear hc; refine (KO.out _).mono ?_; rintro e wc ⟨rfl, hB⟩
         have RU_wc : Hid (URow wc (gu) 26 ((I).length : Nat) (pad (I)) ((O).length : Nat) (pad (O)) l c tk) := Lib.hid (URow.below RU_wb.out hB RU_wb.out.lt)
         have RI_wc : Hid (URow wc (gi) 26 ((I).length : Nat) (pad (I)) 0 Z8 l c 0) := Lib.hid (URow.below RI_wb.out hB RI_wb.out.lt)
         have RO_wc : Hid (URow wc (go) 26 0 Z8 ((O).length : Nat) (pad (O)) false c tk) := Lib.hid (URow.below RO_wb.out hB RO_wb.out.lt)
         have RV_wc : Hid (URow wc (wa.heap.size) 26 ((I).length : Nat) (pad (I)) ((J).length : Nat) (pad (J)) l c t2) := Lib.hid (URow.below RV_wb.out hB RV_wb.out.lt)
         have BB_wc : Hid (Below w.heap.size w wc) := Lib.hid (BB_wb.out.trans (hB.mono BB_wb.out.size))
         clear hB RU_wb RI_wb RO_wb RV_wb BB_wb)
      | ((with_reducible show wpList _ _ _ (⟨some 56, .load 26 (.tmp 5), _, _, _, _⟩ :: _) _ _); refine wpList_load_u (by rfl) 26 _ rfl (go) (by exact rfl) _ Try.underlying26 (by kernel_rfl) 26 (RO_wb.out) ?_)
      | ((with_reducible show wpList _ _ _ (⟨none, .store 26 (.tmp 17) (.tmp 51), _, _, _, _⟩ :: _) _ _); refine wpList_store_u  rfl 26 _ _ rfl (wa.heap.size) (by exact rfl) (by exact rfl) (by first | exact pad_length _ | exact rfl) (by first | exact pad_length _ | exact rfl) (by kernel_rfl) 26 (show URow _ _ _ 0 Z8 0 Z8 false 0 0 from ⟨alloc_at _ _, rfl, rfl⟩) ?_; intro wb HN HO HB
         have RU_wb : Hid (URow wb (gu) 26 ((I).length : Nat) (pad (I)) ((O).length : Nat) (pad (O)) l c tk) := Lib.hid (URow.other (URow.below RU_wa.out ((Below.refl _ _).alloc (Nat.le_refl _) _) RU_wa.out.lt) HO.out (Nat.ne_of_lt RU_wa.out.lt))
         have RI_wb : Hid (URow wb (gi) 26 ((I).length : Nat) (pad (I)) 0 Z8 l c 0) := Lib.hid (URow.other (URow.below RI_wa.out ((Below.refl _ _).alloc (Nat.le_refl _) _) RI_wa.out.lt) HO.out (Nat.ne_of_lt RI_wa.out.lt))
         have RO_wb : Hid (URow wb (go) 26 0 Z8 ((O).length : Nat) (pad (O)) false c tk) := Lib.hid (URow.other (URow.below RO_wa.out ((Below.refl _ _).alloc (Nat.le_refl _) _) RO_wa.out.lt) HO.out (Nat.ne_of_lt RO_wa.out.lt))
         have RV_wb : Hid (URow wb wa.heap.size 26 ((I).length : Nat) (pad (I)) ((J).length : Nat) (pad (J)) l c t2) := HN
         have BB_wb : Hid (Below w.heap.size w wb) := Lib.hid ((BB_wa.out.alloc BB_wa.out.size _).trans (HB.out.mono BB_wa.out.size))
         have NE_RV_RU := Lib.hid (Nat.ne_of_gt RU_wa.out.lt)
         have NE_RV_RI := Lib.hid (Nat.ne_of_gt RI_wa.out.lt)
         have NE_RV_RO := Lib.hid (Nat.ne_of_gt RO_wa.out.lt)
         clear HO HB HN RU_wa RI_wa RO_wa BB_wa)
      | (go_at_call 15; have hc := BB_wr; clear hc; refine (KU.out _).mono ?_; rintro e wa ⟨rfl, hB⟩
         have RU_wa : Hid (URow wa (gu) 26 ((I).length : Nat) (pad (I)) ((O).length : Nat) (pad (O)) l c tk) := Lib.hid (URow.below RU_wr.out hB RU_wr.out.lt)
         have RI_wa : Hid (URow wa (gi) 26 ((I).length : Nat) (pad (I)) 0 Z8 l c 0) := Lib.hid (URow.below RI_wr.out hB RI_wr.out.lt)
         have RO_wa : Hid (URow wa (go) 26 0 Z8 ((O).length : Nat) (pad (O)) false c tk) := Lib.hid (URow.below RO_wr.out hB RO_wr.out.lt)
         have BB_wa : Hid (Below w.heap.size w wa) := Lib.hid (BB_wr.out.trans (hB.mono BB_wr.out.size))
         clear hB RU_wr RI_wr RO_wr BB_wr)
      | ((with_reducible show wpList _ _ _ (⟨some 49, .load 26 (.tmp 3), _, _, _, _⟩ :: _) _ _); refine wpList_load_u (by rfl) 26 _ rfl (gu) (by exact rfl) _ Try.underlying26 (by kernel_rfl) 26 (RU_wr.out) ?_))
          go_meet
          case rel => exact ⟨_, I, J, l, c, t2, rfl, RG2.out, RU_wf.out, RI_wf.out, RO_wf.out, BB_wf.out⟩
      case rest =>
        clear RG RU_wr RI_wr RO_wr BB_wr q1
        obtain ⟨W, I, O, l, c, tk, rfl, hrg, hu, hi, ho, hb⟩ := hcut
        have RG := Lib.hid hrg
        have RU_W := Lib.hid hu
        have RI_W := Lib.hid hi
        have RO_W := Lib.hid ho
        have BB_W := Lib.hid hb
        have hE : ∀ (X : World) (L : List Nat), (binOp .neq 24 (qv (L.length : Nat) (pad L)) (qv (L.length : Nat) (pad L))).run Try.prog X = .ok (.bool false) X := fun X L => by rw [run_neq_q X _ _ _ _ (pad_length _) (pad_length _)]; simp
        have hG : ∀ (x y : Operand) (X : World) (L : List Nat), (eqGuard .neq 24 x y (qv (L.length : Nat) (pad L)) (qv (L.length : Nat) (pad L))).run Try.prog X = .ok () X := fun x y X L => run_eqGuard_agg X _ _ _ _ _ _ Try.eqGuardType24
        have cu18 := hu.c18
        have cu19 := hu.c19
        have cu20 := hu.c20
        have i18 := hi.c18
        have i19 := hi.c19
        have o19 := ho.c19
        have o20 := ho.c20
        clear hrg hu hi ho hb
        as_aux_lemma =>
          go_wp2_with (first
            | ((with_reducible show wpList _ _ _ (⟨some 162, .load 24 (.tmp 161), _, _, _, _⟩ :: _) _ _); refine wpList_load_q9g (by first | rfl | kernel_rfl) 24 _ rfl gu 0 (by exact rfl) _ Try.underlying24 (by kernel_rfl) RU_W.out.rx RU_W.out.hb ?_)
            | ((with_reducible show wpList _ _ _ (⟨some 164, .load 24 (.tmp 163), _, _, _, _⟩ :: _) _ _); refine wpList_load_q9g (by first | rfl | kernel_rfl) 24 _ rfl gi 0 (by exact rfl) _ Try.underlying24 (by kernel_rfl) RI_W.out.rx RI_W.out.hb ?_)
            | ((with_reducible show wpList _ _ _ (⟨some 175, .load 24 (.tmp 174), _, _, _, _⟩ :: _) _ _); refine wpList_load_q9g (by first | rfl | kernel_rfl) 24 _ rfl gu 9 (by exact rfl) _ Try.underlying24 (by kernel_rfl) RU_W.out.tx RU_W.out.hc ?_)
            | ((with_reducible show wpList _ _ _ (⟨some 177, .load 24 (.tmp 176), _, _, _, _⟩ :: _) _ _); refine wpList_load_q9g (by first | rfl | kernel_rfl) 24 _ rfl go 9 (by exact rfl) _ Try.underlying24 (by kernel_rfl) RO_W.out.tx RO_W.out.hc ?_))
          go_roundw
          case rel => exact ⟨k + 1, I, O, l, c, tk, by omega, by omega, by go_num, RG.out, RU_W.out, RI_W.out, RO_W.out, BB_W.out⟩
          case measure =>
            simp [intOf]
            omega
    · by_cases d : k < len
      · have d1 : (k : Int) < (len : Int) := by omega
        have d2 : ¬ (k : Int) < 200 := by omega
        clear hlt
        go_wp2_with fail
        go_ret
        exact ⟨rfl, BB_wr.out⟩
      · have d1 : ¬ (k : Int) < (len : Int) := by omega
        clear hlt
        go_wp2_with fail
        go_ret
        exact ⟨rfl, BB_wr.out⟩
end Go.Proofs.Ytgpgijdciaieaaa
