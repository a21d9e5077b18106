/-
  The program's own beginsMark and kindOf, by contracts. Condition: the listed variable marks holds all marks.
-/
import Derived.Test.YtmebcenjghagoaaGreatDoorRefT
import Derived.Laws.Rows
namespace Go.Proofs.YtmebcenjghagoaaGreatDoor
open Go.RowKit
section
variable {P : Program}
/-- An array is read whole out of its cells. -/
theorem run_loadVar_cells (w : World) (g : Nat) (ty : TypeId) (cs : List Value) (d : TypeDesc) (hc : ∀ j v, cs[j]? = some v → w.cell? ⟨g, j, none⟩ = some v)
    (hu : P.underlying ty = some d) (hd : (match d with | .struct _ | .array _ _ => true | _ => false) = true) (hi : (P.info? ty).map (·.size) = some cs.length) :
    (loadVar ty ⟨g, 0, none⟩).run P w = .ok (.agg cs.toArray) w := by
  have hl : (loadCells ⟨g, 0, none⟩ cs.length).run P w = .ok cs.toArray w :=
    run_loadCells_list (P := P) w ⟨g, 0, none⟩ cs (fun j v hv => by
      have hadd : (⟨g, 0, none⟩ : Addr).add j = ⟨g, j, none⟩ := by unfold Addr.add; split <;> simp_all
      rw [hadd]
      exact hc j v hv)
  cases hq : P.info? ty with
  | none => simp [hq] at hi
  | some i =>
    have hs : i.size = cs.length := by simpa [hq] using hi
    have hagg : (isAgg ty).run P w = .ok true w := by
      unfold isAgg
      rw [Sem.run_bind, run_underlying hu w]
      cases d <;> simp_all
    simp [loadVar, Sem.run_bind, hagg, sizeOf, typeInfo, hq, hs, hl]
theorem wpList_load_cells {ops : Array Oper} {rest : List Oper} {o : Oper} {a : Act} {w : World} {Q : Exit → Act → World → Prop} (hgd : o.guard = none) (ty : TypeId) (x : Operand) (ho : o.op = .load ty x)
    (g : Nat) (hx : a.eval x = .pointer (some ⟨g, 0, none⟩)) (cs : List Value) (d : TypeDesc) (hc : ∀ j v, cs[j]? = some v → w.cell? ⟨g, j, none⟩ = some v)
    (hu : P.underlying ty = some d) (hd : (match d with | .struct _ | .array _ _ => true | _ => false) = true) (hi : (P.info? ty).map (·.size) = some cs.length)
    (h : wpList P ops Q rest (a.put o.dst (.agg cs.toArray)) w) : wpList P ops Q (o :: rest) a w :=
  wpList_plain hgd fun _ hK => by
    unfold Oper.wp execOp
    simp only [ho, hx, Instr.loadAt, Instr.sureAddr, Sem.run_bind, Sem.run_pure, Result.andThen_ok, run_loadVar_cells w g ty cs d hc hu hd hi]
    exact hK _ _ h
end
theorem idx_marks (k : Nat) (m : ByteArray) (h : marksL[k]? = some m) (w : World) : (Instr.index 130 (.agg (marksL.map Value.string).toArray) (.int .i64 (k : Int))).run Tryz.prog w = .ok (.string m) w := by
  have hk : k < 29 := by
    have := (List.getElem?_eq_some_iff.1 h).1
    rwa [marksL_len] at this
  rcases (by omega : k = 0 ∨ k = 1 ∨ k = 2 ∨ k = 3 ∨ k = 4 ∨ k = 5 ∨ k = 6 ∨ k = 7 ∨ k = 8 ∨ k = 9 ∨ k = 10 ∨ k = 11 ∨ k = 12 ∨ k = 13 ∨ k = 14 ∨ k = 15 ∨ k = 16 ∨ k = 17 ∨ k = 18 ∨ k = 19 ∨ k = 20 ∨ k = 21 ∨ k = 22 ∨ k = 23 ∨ k = 24 ∨ k = 25 ∨ k = 26 ∨ k = 27 ∨ k = 28) with rfl | rfl | rfl | rfl | rfl | rfl | rfl | rfl | rfl | rfl | rfl | rfl | rfl | rfl | rfl | rfl | rfl | rfl | rfl | rfl | rfl | rfl | rfl | rfl | rfl | rfl | rfl | rfl | rfl
  · obtain rfl : (⟨#[60, 60]⟩ : ByteArray) = m := Option.some.inj h
    exact (show (Instr.index 130 (.agg (marksL.map Value.string).toArray) (.int .i64 ((0 : Nat) : Int))).run Tryz.prog w = .ok (.string ⟨#[60, 60]⟩) w from by kernel_rfl)
  · obtain rfl : (⟨#[62, 62]⟩ : ByteArray) = m := Option.some.inj h
    exact (show (Instr.index 130 (.agg (marksL.map Value.string).toArray) (.int .i64 ((1 : Nat) : Int))).run Tryz.prog w = .ok (.string ⟨#[62, 62]⟩) w from by kernel_rfl)
  · obtain rfl : (⟨#[60, 61]⟩ : ByteArray) = m := Option.some.inj h
    exact (show (Instr.index 130 (.agg (marksL.map Value.string).toArray) (.int .i64 ((2 : Nat) : Int))).run Tryz.prog w = .ok (.string ⟨#[60, 61]⟩) w from by kernel_rfl)
  · obtain rfl : (⟨#[62, 61]⟩ : ByteArray) = m := Option.some.inj h
    exact (show (Instr.index 130 (.agg (marksL.map Value.string).toArray) (.int .i64 ((3 : Nat) : Int))).run Tryz.prog w = .ok (.string ⟨#[62, 61]⟩) w from by kernel_rfl)
  · obtain rfl : (⟨#[61, 61]⟩ : ByteArray) = m := Option.some.inj h
    exact (show (Instr.index 130 (.agg (marksL.map Value.string).toArray) (.int .i64 ((4 : Nat) : Int))).run Tryz.prog w = .ok (.string ⟨#[61, 61]⟩) w from by kernel_rfl)
  · obtain rfl : (⟨#[33, 61]⟩ : ByteArray) = m := Option.some.inj h
    exact (show (Instr.index 130 (.agg (marksL.map Value.string).toArray) (.int .i64 ((5 : Nat) : Int))).run Tryz.prog w = .ok (.string ⟨#[33, 61]⟩) w from by kernel_rfl)
  · obtain rfl : (⟨#[123]⟩ : ByteArray) = m := Option.some.inj h
    exact (show (Instr.index 130 (.agg (marksL.map Value.string).toArray) (.int .i64 ((6 : Nat) : Int))).run Tryz.prog w = .ok (.string ⟨#[123]⟩) w from by kernel_rfl)
  · obtain rfl : (⟨#[125]⟩ : ByteArray) = m := Option.some.inj h
    exact (show (Instr.index 130 (.agg (marksL.map Value.string).toArray) (.int .i64 ((7 : Nat) : Int))).run Tryz.prog w = .ok (.string ⟨#[125]⟩) w from by kernel_rfl)
  · obtain rfl : (⟨#[40]⟩ : ByteArray) = m := Option.some.inj h
    exact (show (Instr.index 130 (.agg (marksL.map Value.string).toArray) (.int .i64 ((8 : Nat) : Int))).run Tryz.prog w = .ok (.string ⟨#[40]⟩) w from by kernel_rfl)
  · obtain rfl : (⟨#[41]⟩ : ByteArray) = m := Option.some.inj h
    exact (show (Instr.index 130 (.agg (marksL.map Value.string).toArray) (.int .i64 ((9 : Nat) : Int))).run Tryz.prog w = .ok (.string ⟨#[41]⟩) w from by kernel_rfl)
  · obtain rfl : (⟨#[91]⟩ : ByteArray) = m := Option.some.inj h
    exact (show (Instr.index 130 (.agg (marksL.map Value.string).toArray) (.int .i64 ((10 : Nat) : Int))).run Tryz.prog w = .ok (.string ⟨#[91]⟩) w from by kernel_rfl)
  · obtain rfl : (⟨#[93]⟩ : ByteArray) = m := Option.some.inj h
    exact (show (Instr.index 130 (.agg (marksL.map Value.string).toArray) (.int .i64 ((11 : Nat) : Int))).run Tryz.prog w = .ok (.string ⟨#[93]⟩) w from by kernel_rfl)
  · obtain rfl : (⟨#[59]⟩ : ByteArray) = m := Option.some.inj h
    exact (show (Instr.index 130 (.agg (marksL.map Value.string).toArray) (.int .i64 ((12 : Nat) : Int))).run Tryz.prog w = .ok (.string ⟨#[59]⟩) w from by kernel_rfl)
  · obtain rfl : (⟨#[58]⟩ : ByteArray) = m := Option.some.inj h
    exact (show (Instr.index 130 (.agg (marksL.map Value.string).toArray) (.int .i64 ((13 : Nat) : Int))).run Tryz.prog w = .ok (.string ⟨#[58]⟩) w from by kernel_rfl)
  · obtain rfl : (⟨#[44]⟩ : ByteArray) = m := Option.some.inj h
    exact (show (Instr.index 130 (.agg (marksL.map Value.string).toArray) (.int .i64 ((14 : Nat) : Int))).run Tryz.prog w = .ok (.string ⟨#[44]⟩) w from by kernel_rfl)
  · obtain rfl : (⟨#[46]⟩ : ByteArray) = m := Option.some.inj h
    exact (show (Instr.index 130 (.agg (marksL.map Value.string).toArray) (.int .i64 ((15 : Nat) : Int))).run Tryz.prog w = .ok (.string ⟨#[46]⟩) w from by kernel_rfl)
  · obtain rfl : (⟨#[61]⟩ : ByteArray) = m := Option.some.inj h
    exact (show (Instr.index 130 (.agg (marksL.map Value.string).toArray) (.int .i64 ((16 : Nat) : Int))).run Tryz.prog w = .ok (.string ⟨#[61]⟩) w from by kernel_rfl)
  · obtain rfl : (⟨#[60]⟩ : ByteArray) = m := Option.some.inj h
    exact (show (Instr.index 130 (.agg (marksL.map Value.string).toArray) (.int .i64 ((17 : Nat) : Int))).run Tryz.prog w = .ok (.string ⟨#[60]⟩) w from by kernel_rfl)
  · obtain rfl : (⟨#[62]⟩ : ByteArray) = m := Option.some.inj h
    exact (show (Instr.index 130 (.agg (marksL.map Value.string).toArray) (.int .i64 ((18 : Nat) : Int))).run Tryz.prog w = .ok (.string ⟨#[62]⟩) w from by kernel_rfl)
  · obtain rfl : (⟨#[43]⟩ : ByteArray) = m := Option.some.inj h
    exact (show (Instr.index 130 (.agg (marksL.map Value.string).toArray) (.int .i64 ((19 : Nat) : Int))).run Tryz.prog w = .ok (.string ⟨#[43]⟩) w from by kernel_rfl)
  · obtain rfl : (⟨#[45]⟩ : ByteArray) = m := Option.some.inj h
    exact (show (Instr.index 130 (.agg (marksL.map Value.string).toArray) (.int .i64 ((20 : Nat) : Int))).run Tryz.prog w = .ok (.string ⟨#[45]⟩) w from by kernel_rfl)
  · obtain rfl : (⟨#[42]⟩ : ByteArray) = m := Option.some.inj h
    exact (show (Instr.index 130 (.agg (marksL.map Value.string).toArray) (.int .i64 ((21 : Nat) : Int))).run Tryz.prog w = .ok (.string ⟨#[42]⟩) w from by kernel_rfl)
  · obtain rfl : (⟨#[47]⟩ : ByteArray) = m := Option.some.inj h
    exact (show (Instr.index 130 (.agg (marksL.map Value.string).toArray) (.int .i64 ((22 : Nat) : Int))).run Tryz.prog w = .ok (.string ⟨#[47]⟩) w from by kernel_rfl)
  · obtain rfl : (⟨#[37]⟩ : ByteArray) = m := Option.some.inj h
    exact (show (Instr.index 130 (.agg (marksL.map Value.string).toArray) (.int .i64 ((23 : Nat) : Int))).run Tryz.prog w = .ok (.string ⟨#[37]⟩) w from by kernel_rfl)
  · obtain rfl : (⟨#[38]⟩ : ByteArray) = m := Option.some.inj h
    exact (show (Instr.index 130 (.agg (marksL.map Value.string).toArray) (.int .i64 ((24 : Nat) : Int))).run Tryz.prog w = .ok (.string ⟨#[38]⟩) w from by kernel_rfl)
  · obtain rfl : (⟨#[94]⟩ : ByteArray) = m := Option.some.inj h
    exact (show (Instr.index 130 (.agg (marksL.map Value.string).toArray) (.int .i64 ((25 : Nat) : Int))).run Tryz.prog w = .ok (.string ⟨#[94]⟩) w from by kernel_rfl)
  · obtain rfl : (⟨#[124]⟩ : ByteArray) = m := Option.some.inj h
    exact (show (Instr.index 130 (.agg (marksL.map Value.string).toArray) (.int .i64 ((26 : Nat) : Int))).run Tryz.prog w = .ok (.string ⟨#[124]⟩) w from by kernel_rfl)
  · obtain rfl : (⟨#[126]⟩ : ByteArray) = m := Option.some.inj h
    exact (show (Instr.index 130 (.agg (marksL.map Value.string).toArray) (.int .i64 ((27 : Nat) : Int))).run Tryz.prog w = .ok (.string ⟨#[126]⟩) w from by kernel_rfl)
  · obtain rfl : (⟨#[33]⟩ : ByteArray) = m := Option.some.inj h
    exact (show (Instr.index 130 (.agg (marksL.map Value.string).toArray) (.int .i64 ((28 : Nat) : Int))).run Tryz.prog w = .ok (.string ⟨#[33]⟩) w from by kernel_rfl)
/-- The listed variable holds all marks. -/
def MarksAt (w : World) : Prop := ∀ (k : Nat) (m : ByteArray), marksL[k]? = some m → w.cell? ⟨2, k, none⟩ = some (.string m)
theorem MarksAt.row {w : World} (h : MarksAt w) : ∀ (j : Nat) v, (marksL.map Value.string)[j]? = some v → w.cell? ⟨2, j, none⟩ = some v := by
  intro j v hv
  rw [List.getElem?_map] at hv
  cases hm : marksL[j]? with
  | none => rw [hm] at hv; cases hv
  | some m => rw [hm] at hv; cases hv; exact h j m hm
/-- A mark begins with the byte. -/
def isMk (b : Nat) : Bool := marksL.any fun m => bAt m 0 == b
theorem isMk_at (b k : Nat) (m : ByteArray) (h : marksL[k]? = some m) (h2 : bAt m 0 = b) : isMk b = true := by
  unfold isMk
  rw [List.any_eq_true]
  exact ⟨m, List.mem_of_getElem? h, by simp [h2]⟩
theorem isMk_step (b k : Nat) (m : ByteArray) (h : marksL[k]? = some m) (h2 : bAt m 0 ≠ b) (h3 : (marksL.take k).any (fun m => bAt m 0 == b) = false) : (marksL.take (k + 1)).any (fun m => bAt m 0 == b) = false := by
  rw [List.take_add_one, h, List.any_append, h3]
  simp [h2]
theorem marks_ge (k : Nat) (m : ByteArray) (h : marksL[k]? = some m) : 1 ≤ m.size := by
  have hm := List.mem_of_getElem? h
  have : ∀ x ∈ marksL, 1 ≤ x.size := by decide
  exact this m hm
set_option maxRecDepth 100000 in
set_option maxHeartbeats 2000000 in
theorem beginsMark_any (b : Nat) (w : World) (hM : MarksAt w) :
    Calls Tryz.prog 78 #[.int .u8 (b : Int)] w fun e w' => e = .returned (.bool (isMk b)) ∧ w = w' := by
  have HM := Lib.hid hM.row
  have HX := Lib.hid (fun k m h => idx_marks k m h)
  clear hM
  go_enter Tryz.func78, Tryz.ntmps78
  go_wp2_with (refine wpList_load_cells rfl 130 _ rfl 2 rfl (marksL.map Value.string) _ HM.out Tryz.underlying130 rfl (by kernel_rfl) ?_)
  generalize (marksL.map Value.string).toArray = ms at HX ⊢
  go_loop [4, 6] (fun _ i => ∃ k : Nat, k ≤ 29 ∧ i = .int .i64 k ∧ Hid ((marksL.take k).any (fun m => bAt m 0 == b) = false)) (fun _ i => 29 - (intOf i).toNat)
  case atStart => exact ⟨0, Nat.zero_le _, rfl, rfl⟩
  case round =>
    obtain ⟨k, hk, rfl, HN⟩ := hrel
    by_cases hlt : k < 29
    · have hkm : marksL[k]? = some (marksL[k]'(by rw [marksL_len]; exact hlt)) := List.getElem?_eq_getElem _
      generalize (marksL[k]'(by rw [marksL_len]; exact hlt)) = m at hkm
      have hix := HX.out k m hkm
      have hms := marks_ge k m hkm
      have hm0 := bAt_eq m 0 hms
      have HKM := Lib.hid hkm
      clear hkm
      by_cases hb : bAt m 0 = b
      · have HE := Lib.hid (isMk_at b k m HKM.out hb)
        have kb : ((bAt m 0 : Int) == (b : Int)) = true := by simp [hb]
        clear hb
        go_wp2
        go_ret
        exact ⟨by rw [HE.out]; rfl, rfl⟩
      · have HN2 := Lib.hid (isMk_step b k m HKM.out hb HN.out)
        have kb : ((bAt m 0 : Int) == (b : Int)) = false := by simp; omega
        clear HN hb
        go_wp2
        go_round
        case rel => exact ⟨k + 1, by omega, by go_num, HN2⟩
        case measure => simp [intOf]; omega
    · obtain rfl : k = 29 := by omega
      have HE : Hid (isMk b = false) := Lib.hid HN.out
      go_wp2
      go_ret
      exact ⟨by rw [HE.out]; rfl, rfl⟩
end Go.Proofs.YtmebcenjghagoaaGreatDoor
