/-
  A struct is read whole out of a row; slices.IndexFunc and slices.ContainsFunc at isNoNumber.
-/
import Derived.Test.YthmphmndpfkbcaaTree
import Derived.Deep.LoopGhost
namespace Go.Proofs.Ythmphmndpfkbcaa
open Go.RowKit
/-- From this place on lie these cells. -/
def CellsAt (w : World) (b o : Nat) (l : List Value) : Prop := ∀ j v, l[j]? = some v → w.cell? ⟨b, o + j, none⟩ = some v
theorem CellsAt.below {w w' : World} {B b o : Nat} {l : List Value} (h : CellsAt w b o l) (hb : Below B w w') (hB : b < B) : CellsAt w' b o l := fun j v hv => by
  rw [hb.cell hB]
  exact h j v hv
section
variable {P : Program}
theorem run_loadVar_at (w : World) (b off : Nat) (ty : TypeId) (cs : List Value) (d : TypeDesc) (hc : CellsAt w b off cs)
    (hu : P.underlying ty = some d) (hd : (match d with | .struct _ | .array _ _ => true | _ => false) = true) (hi : (P.info? ty).map (·.size) = some cs.length) :
    (loadVar ty ⟨b, off, none⟩).run P w = .ok (.agg cs.toArray) w := by
  have hl : (loadCells ⟨b, off, none⟩ cs.length).run P w = .ok cs.toArray w :=
    run_loadCells_list (P := P) w ⟨b, off, none⟩ cs (fun j v hv => by
      have hadd : (⟨b, off, none⟩ : Addr).add j = ⟨b, off + j, none⟩ := by unfold Addr.add; split <;> simp_all
      rw [hadd]
      exact hc j v hv)
  cases hq : P.info? ty with
  | none => simp [hq] at hi
  | some i =>
    have hs : i.size = cs.length := by simpa [hq] using hi
    have hagg : (isAgg ty).run P w = .ok true w := by
      unfold isAgg
      rw [Sem.run_bind, run_underlying hu w]
      cases d <;> simp_all
    simp [loadVar, Sem.run_bind, hagg, sizeOf, typeInfo, hq, hs, hl]
theorem wpList_load_at {ops : Array Oper} {rest : List Oper} {o : Oper} {a : Act} {w : World} {Q : Exit → Act → World → Prop} (hgd : o.guard = none) (ty : TypeId) (x : Operand) (ho : o.op = .load ty x)
    (b off : Nat) (hx : a.eval x = .pointer (some ⟨b, off, none⟩)) (cs : List Value) (d : TypeDesc) (hc : CellsAt w b off cs)
    (hu : P.underlying ty = some d) (hd : (match d with | .struct _ | .array _ _ => true | _ => false) = true) (hi : (P.info? ty).map (·.size) = some cs.length)
    (h : wpList P ops Q rest (a.put o.dst (.agg cs.toArray)) w) : wpList P ops Q (o :: rest) a w :=
  wpList_plain hgd fun _ hK => by
    unfold Oper.wp execOp
    simp only [ho, hx, Instr.loadAt, Instr.sureAddr, Sem.run_bind, Sem.run_pure, Result.andThen_ok, run_loadVar_at w b off ty cs d hc hu hd hi]
    exact hK _ _ h
end
/-- The cells of an expression. -/
abbrev exL (op at_ : Int) (name field : ByteArray) (n ty ref : Int) (A : Option Nat) (l c : Nat) : List Value := [.int .i64 op, .int .i64 at_, .string name, .string field, .int .i64 n, .int .i64 ty, .int .i64 ref, slV A l c]
theorem SlIn.at {S : Nat → Prop} {w : World} {b : Nat} {args : List Ex} (h : SlIn S w (some b) args) (k : Nat) (x : Ex) (hx : args[k]? = some x) :
    S b ∧ ∃ op at_ name field n ty ref A c l, x = .mk op at_ name field n ty ref l ∧ SlIn S w A l ∧ CellsAt w b (k * 8) (exL op at_ name field n ty ref A l.length c) := by
  cases h with
  | nil => simp at hx
  | row hb hS rows hc h =>
    obtain ⟨op, at_, name, field, n, ty, ref, A, c, l, rfl, hl, hs⟩ := (h k x hx).sl
    refine ⟨hS, op, at_, name, field, n, ty, ref, A, c, l, rfl, hs, fun j v hv => ?_⟩
    refine hc k (List.getElem?_eq_some_iff.1 hx).1 j v ?_
    rw [hl]
    exact hv
set_option maxRecDepth 100000 in
theorem noNum (op at_ : Int) (name field : ByteArray) (n ty ref : Int) (A : Option Nat) (l c : Nat) (w : World) :
    Calls Try.prog 55 #[.agg (exL op at_ name field n ty ref A l c).toArray] w fun e w' => e = .returned (.bool (op != 0)) ∧ Below w.heap.size w w' := by
  go_enter Try.func55, Try.ntmps55
  go_wp2
  go_ret
  exact ⟨rfl, (Below.refl _ _).alloc (Nat.le_refl _) _⟩
def IdxAns (args : List Ex) (e : Ending) : Prop := ∃ r : Int, e = .returned (.int .i64 r) ∧ decide (0 ≤ r) = args.any (fun x => x.op != 0)
theorem idx_end (args : List Ex) (h : ∀ x ∈ args, x.op = 0) : IdxAns args (.returned (.int .i64 (-1))) := by
  refine ⟨-1, rfl, ?_⟩
  have : args.any (fun x => x.op != 0) = false := by
    rw [List.any_eq_false]
    intro x hx
    simp [h x hx]
  rw [this]
  decide
theorem idx_at (args : List Ex) (k : Nat) (x : Ex) (hx : args[k]? = some x) (h : (x.op != 0) = true) : IdxAns args (.returned (.int .i64 (k : Int))) := by
  refine ⟨k, rfl, ?_⟩
  have : args.any (fun x => x.op != 0) = true := List.any_eq_true.2 ⟨x, List.mem_of_getElem? hx, h⟩
  rw [this]
  simp
set_option maxRecDepth 100000 in
theorem idx_any (args : List Ex) (b c : Nat) (S : Nat → Prop) (w : World) (h : SlIn S w (some b) args) (hlow : ∀ b, S b → b < w.heap.size) (hl : args.length ≤ 1048576) :
    Calls Try.prog 75 #[.slice (some ⟨b, 0, none⟩) args.length c, fnV 55] w fun e w' => IdxAns args e ∧ Below w.heap.size w w' := by
  go_enter Try.func75, Try.ntmps75
  go_wp2
  go_loopw [8] (fun iv wr => ∃ k : Nat, k ≤ args.length ∧ iv = .int .i64 k ∧ Hid (∀ (j : Nat) x, j < k → args[j]? = some x → x.op = 0) ∧ Below w.heap.size w wr) (fun iv _ => args.length - (intOf iv).toNat)
  case atStart => exact ⟨0, by omega, rfl, fun j x hj => by omega, Below.refl _ _⟩
  case round =>
    obtain ⟨k, hk, rfl, HN, hbr⟩ := hrel
    have HBR := Lib.hid hbr
    have hz := hbr.size
    clear hbr
    by_cases hlt : k < args.length
    · obtain ⟨x, hx⟩ : ∃ x, args[k]? = some x := ⟨_, List.getElem?_eq_getElem hlt⟩
      obtain ⟨hS, op, at_, name, field, n, ty, ref, A, c', l, rfl, hs, hc⟩ := h.at k x hx
      have HC := Lib.hid (hc.below HBR.out (hlow _ hS))
      have HX := Lib.hid hx
      clear hc hx
      cases hop : (op != 0)
      · go_wp2_with (first | (refine wpList_load_at rfl 27 _ rfl b _ rfl _ _ HC.out Try.underlying27 rfl (by kernel_rfl) ?_) | (go_at_call 55; refine (noNum _ _ _ _ _ _ _ _ _ _ _).mono ?_; rintro e w1 ⟨rfl, hb1⟩))
        go_roundw
        case rel =>
          refine ⟨k + 1, by omega, by go_num, fun j x hj hx => ?_, HBR.out.trans (hb1.mono hz)⟩
          by_cases hjk : j = k
          · subst hjk
            obtain rfl : Ex.mk op at_ name field n ty ref l = x := Option.some.inj (HX.out.symm.trans hx)
            simpa [Ex.op] using hop
          · exact HN.out j x (by omega) hx
        case measure =>
          simp [intOf]
          omega
      · go_wp2_with (first | (refine wpList_load_at rfl 27 _ rfl b _ rfl _ _ HC.out Try.underlying27 rfl (by kernel_rfl) ?_) | (go_at_call 55; refine (noNum _ _ _ _ _ _ _ _ _ _ _).mono ?_; rintro e w1 ⟨rfl, hb1⟩))
        go_ret
        exact ⟨idx_at args k _ HX.out hop, HBR.out.trans (hb1.mono hz)⟩
    · obtain rfl : k = args.length := by omega
      go_wp2
      go_ret
      refine ⟨idx_end args fun x hx => ?_, HBR.out⟩
      obtain ⟨j, hj, hx⟩ := List.mem_iff_getElem.1 hx
      exact HN.out j x hj (by rw [List.getElem?_eq_getElem hj, hx])
set_option maxRecDepth 100000 in
theorem has_any (args : List Ex) (b c : Nat) (S : Nat → Prop) (w : World) (h : SlIn S w (some b) args) (hlow : ∀ b, S b → b < w.heap.size) (hl : args.length ≤ 1048576) :
    Calls Try.prog 54 #[.slice (some ⟨b, 0, none⟩) args.length c, fnV 55] w fun e w' => e = .returned (.bool (args.any fun x => x.op != 0)) ∧ Below w.heap.size w w' := by
  go_enter Try.func54, Try.ntmps54
  go_wp2_with (go_at_call 75; refine (idx_any args b c S _ h hlow hl).mono ?_; rintro e w1 ⟨⟨r, rfl, hr⟩, hb1⟩)
  go_ret
  refine ⟨?_, hb1⟩
  rw [← hr]
  rfl
end Go.Proofs.Ythmphmndpfkbcaa
