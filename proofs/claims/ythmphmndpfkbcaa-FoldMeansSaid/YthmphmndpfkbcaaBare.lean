/-
  'bare' answers true of a tree that is bare; 'at'.
-/
import Derived.Test.YthmphmndpfkbcaaSize
import Derived.Test.YthmphmndpfkbcaaRefBin
namespace Go.Proofs.Ythmphmndpfkbcaa
open Go.RowKit
set_option linter.unusedVariables false
/-- Are there operands, and all of them numbers? -/
def allNum (args : List Ex) : Bool := decide (0 < args.length) && args.all (fun x => x.op == 0)
mutual
def bareT : Ex → Bool
  | .mk op _ _ _ n ty _ args => bareL args && (if op = 0 then decide (wrapT ty n = n) else (!(allNum args) || (op == 10) || (op == 11) || (op == 28)))
def bareL : List Ex → Bool
  | [] => true
  | x :: l => bareT x && bareL l
end
theorem bareL_iff : ∀ l : List Ex, bareL l = true ↔ ∀ x ∈ l, bareT x = true
  | [] => by simp [bareL]
  | x :: l => by
    rw [bareL, Bool.and_eq_true, bareL_iff l]
    simp
def BareOK (x : Ex) : Prop := ∀ (op at_ : Int) (name field : ByteArray) (n ty ref : Int) (A : Option Nat) (c : Nat) (args : List Ex) (S : Nat → Prop) (w : World), x = .mk op at_ name field n ty ref args → SlIn S w A args → (∀ b, S b → b < w.heap.size) → bareT x = true →
  Calls Try.prog 11 #[.agg (exL op at_ name field n ty ref A args.length c).toArray] w fun e w' => e = .returned (.bool true) ∧ Below w.heap.size w w'
theorem wrap_is (t v : Int) (h : wrapT t v = v) (w : World) : Calls Try.prog 13 #[.int .i64 t, .int .i64 v] w fun e w' => e = .returned (.int .i32 v) ∧ w' = w :=
  (wrap_any t v w).mono fun e w' hh => ⟨by rw [hh.1, h], hh.2.symm⟩
/-- What 'all' is behind k operands. -/
def allK (args : List Ex) (k : Nat) : Bool := decide (0 < args.length) && (args.take k).all (fun x => x.op == 0)
theorem allK_next (args : List Ex) (k : Nat) (x : Ex) (hx : args[k]? = some x) : allK args (k + 1) = (allK args k && (x.op == 0)) := by
  have h : args.take (k + 1) = args.take k ++ [x] := by
    rw [List.take_add_one, hx]
    rfl
  unfold allK
  rw [h, List.all_append, ← Bool.and_assoc]
  simp
set_option maxRecDepth 100000 in
set_option maxHeartbeats 1600000 in
theorem bare_tree : ∀ x, BareOK x := by
  refine Ex.ind fun op at_ name field n ty ref args IH => ?_
  rintro _ _ _ _ _ _ _ A c _ S w h hsl hlow hba
  injection h with e1 e2 e3 e4 e5 e6 e7 e8
  subst e1 e2 e3 e4 e5 e6 e7 e8
  rw [bareT, Bool.and_eq_true] at hba
  obtain ⟨hbl, hba⟩ := hba
  rw [bareL_iff] at hbl
  have HBL := Lib.hid hbl
  have HBA := Lib.hid hba
  clear hbl hba
  have hlen := hsl.len_le
  have HA0 : Hid (decide (0 < args.length) = allK args 0) := by simp [allK, Hid]
  have HA1 : Hid (allK args args.length = allNum args) := by
    show allK args args.length = allNum args
    rw [allK, List.take_length, allNum]
  go_enter Try.func11, Try.ntmps11
  go_wp2
  go_loopw [3, 4] (fun av iv wr => ∃ (k : Nat) (al : Bool), k ≤ args.length ∧ iv = .int .i64 k ∧ av = .bool al ∧ Hid (al = allK args k) ∧ InBox w (exL op at_ name field n ty ref A args.length c) wr) (fun _ iv _ => args.length - (intOf iv).toNat)
  case atStart => exact ⟨0, _, by omega, rfl, rfl, HA0, InBox.start _ _⟩
  case round =>
    obtain ⟨k, al, hk, rfl, rfl, HL, hbx⟩ := hrel
    have HBX := Lib.hid hbx
    have hz := hbx.size
    clear hbx
    by_cases hlt : k < args.length
    · obtain ⟨b, rfl⟩ := hsl.blk hlt
      have c7 : wr.cell? ⟨w.heap.size, 7, none⟩ = some (.slice (some ⟨b, 0, none⟩) args.length c) := row_at HBX.out.row 7 _ rfl
      obtain ⟨x, hx⟩ : ∃ x, args[k]? = some x := ⟨_, List.getElem?_eq_getElem hlt⟩
      obtain ⟨hSb, op1, at1, name1, field1, n1, ty1, ref1, A1, c1, l1, hx1, hs1, hc1⟩ := hsl.at k x hx
      have HN : Hid ((al && (op1 == 0)) = allK args (k + 1)) := by
        show (al && (op1 == 0)) = allK args (k + 1)
        rw [allK_next args k x hx, HL.out, hx1]
        rfl
      have HI := Lib.hid (IH x (List.mem_of_getElem? hx))
      have HB := Lib.hid (HBL.out x (List.mem_of_getElem? hx))
      have HC : Hid (∀ W, Below wr.heap.size wr W → CellsAt W b (k * 8) (exL op1 at1 name1 field1 n1 ty1 ref1 A1 l1.length c1)) := fun W hW => (hc1.below HBX.out.below (hlow _ hSb)).below hW (by have := hlow _ hSb; omega)
      have HX := Lib.hid hx1
      clear hc1 hx hx1 HL
      have HC0 := Lib.hid (HC.out wr (Below.refl _ _))
      cases al
      all_goals
        go_wp2_with (first | (refine wpList_load_at rfl 27 _ rfl b _ rfl _ _ HC0.out Try.underlying27 rfl (by kernel_rfl) ?_) | (go_at_call 11; refine (HI.out op1 at1 name1 field1 n1 ty1 ref1 A1 c1 l1 S _ HX.out (hs1.under HBX.out.below hlow) (fun b hb => by have := hlow b hb; have := HBX.out.below.size; omega) HB.out).mono ?_; rintro e w1 ⟨rfl, hb1⟩; have HBX1 := Lib.hid (HBX.out.under hb1); have d7 : w1.cell? ⟨w.heap.size, 7, none⟩ = some (.slice (some ⟨b, 0, none⟩) args.length c) := row_at HBX1.out.row 7 _ rfl; have d0 : w1.cell? ⟨b, k * 8, none⟩ = some (.int .i64 op1) := HC.out w1 hb1 0 _ rfl))
        go_roundw
        case rel => exact ⟨k + 1, _, by omega, by go_num, rfl, HN.out, HBX1.out⟩
        case measure =>
          simp [intOf]
          omega
    · obtain rfl : k = args.length := by omega
      rw [HA1.out] at HL
      have q0 := row_at HBX.out.row 0 _ rfl
      have q4 := row_at HBX.out.row 4 _ rfl
      have q5 := row_at HBX.out.row 5 _ rfl
      have q7 := row_at HBX.out.row 7 _ rfl
      by_cases h0 : op = 0
      · subst h0
        have hw0 : wrapT ty n = n := by
          have := HBA.out
          rw [if_pos rfl] at this
          exact of_decide_eq_true this
        have hbd := wrapT_bd ty n
        rw [hw0] at hbd
        obtain ⟨hb1, hb2⟩ := hbd
        have HW := Lib.hid hw0
        clear hw0
        go_wp2
        go_quiet ((go_at_call 13; exact (wrap_is _ _ HW.out _).mono fun e w' h => ⟨h.1, _, h.2⟩))
        go_wp2
        go_ret
        exact ⟨rfl, by first | exact HBX.out.below | exact Below.drewN' HBX.out.below _⟩
      · have h02 : (op == 0) = false := by simpa using h0
        have hb2 : (!al || (op == 10) || (op == 11) || (op == 28)) = true := by
          have := HBA.out
          rw [if_neg h0] at this
          rw [HL.out]
          exact this
        have hcs : al = false ∨ al = true ∧ (op == 10) = true ∨ al = true ∧ (op == 10) = false ∧ (op == 11) = true ∨ al = true ∧ (op == 10) = false ∧ (op == 11) = false ∧ (op == 28) = true := by
          cases al <;> cases h1 : (op == 10) <;> cases h2 : (op == 11) <;> cases h3 : (op == 28) <;> simp [h1, h2, h3] at hb2 ⊢
        clear hb2 HL HBA
        rcases hcs with rfl | ⟨rfl, h1⟩ | ⟨rfl, h1, h2⟩ | ⟨rfl, h1, h2, h3⟩
        all_goals
          go_wp2
          go_ret
          exact ⟨rfl, HBX.out.below⟩
end Go.Proofs.Ythmphmndpfkbcaa
