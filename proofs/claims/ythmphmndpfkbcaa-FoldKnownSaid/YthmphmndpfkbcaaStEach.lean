/-
  each at statements, by its contract under what statement is to do. Made by wip/genstEach.py.
-/
import Derived.Test.YthmphmndpfkbcaaStEachM
namespace Go.Proofs.Ythmphmndpfkbcaa
open Go.RowKit
/-- What statement answers of a tree. -/
def StAns (x : St) (w : World) (e : Ending) (w' : World) : Prop := ∃ (op at_ line : Int) (name field func : ByteArray) (reg ty end_ : Int) (A : Option Nat) (ca : Nat) (B : Option Nat) (cb : Nat) (C : Option Nat) (cc : Nat) (es : List Ex) (body els : List St) (S' : Nat → Prop),
  e = .returned (.agg (stL op at_ line name field func reg ty end_ A es.length ca B body.length cb C els.length cc).toArray) ∧ foldS x = .mk op at_ line name field func reg ty end_ es body els ∧ SlIn S' w' A es ∧ SsIn S' w' B body ∧ SsIn S' w' C els ∧ (∀ b, S' b → w.heap.size ≤ b ∧ b < w'.heap.size) ∧ Below w.heap.size w w'
/-- What is asked of statement at a tree. -/
def StOK (x : St) : Prop := ∀ (op at_ line : Int) (name field func : ByteArray) (reg ty end_ : Int) (A : Option Nat) (ca : Nat) (B : Option Nat) (cb : Nat) (C : Option Nat) (cc : Nat) (es : List Ex) (body els : List St) (fp : Nat) (S : Nat → Prop) (w : World),
  x = .mk op at_ line name field func reg ty end_ es body els → Folder w fp → SlIn S w A es → SsIn S w B body → SsIn S w C els → (∀ b, S b → b < w.heap.size) →
  Calls Try.prog 74 #[.pointer (some ⟨fp, 0, none⟩), .agg (stL op at_ line name field func reg ty end_ A es.length ca B body.length cb C els.length cc).toArray] w (StAns x w)
def EachAnsS (args : List St) (w : World) (e : Ending) (w' : World) : Prop := ∃ (A : Option Nat) (c : Nat) (S' : Nat → Prop), e = .returned (slV A args.length c) ∧ SsIn S' w' A (args.map foldS) ∧ (∀ b, S' b → w.heap.size ≤ b ∧ b < w'.heap.size) ∧ Below w.heap.size w w'
theorem stL_one (op at_ line : Int) (name field func : ByteArray) (reg ty end_ : Int) (A : Option Nat) (la ca : Nat) (B : Option Nat) (lb cb : Nat) (C : Option Nat) (lc cc : Nat) : ∀ u ∈ stL op at_ line name field func reg ty end_ A la ca B lb cb C lc cc, u.oneCell' = true := by
  intro u hu
  simp only [stL, List.mem_cons, List.not_mem_nil, or_false] at hu
  rcases hu with rfl | rfl | rfl | rfl | rfl | rfl | rfl | rfl | rfl | rfl | rfl | rfl <;> rfl
theorem info_st : (Try.prog.info? 53).map (fun i => (i.zero, i.size, i.bytes)) = some (some (.agg #[.int .i64 0, .int .i64 0, .int .i64 0, .string ⟨#[]⟩, .string ⟨#[]⟩, .string ⟨#[]⟩, .int .i64 0, .int .i64 0, .int .i64 0, .slice none 0 0, .slice none 0 0, .slice none 0 0]), 12, 168) := by kernel_rfl
set_option maxRecDepth 100000 in
theorem eachS_nil (A : Option Nat) (c fp : Nat) (w : World) :
    Calls Try.prog 73 #[slV A 0 c, .func (.func 74) #[.pointer (some ⟨fp, 0, none⟩)] #[]] w (EachAnsS [] w) := by
  go_enter Try.func73, Try.ntmps73
  go_wp2
  go_loopw [5, 10] (fun v iv wr => v = .slice none 0 0 ∧ iv = .int .i64 0 ∧ w = wr) (fun _ _ _ => 0)
  case atStart => exact ⟨rfl, rfl, rfl⟩
  case round =>
    obtain ⟨rfl, rfl, rfl⟩ := hrel
    go_wp2
    go_ret
    exact ⟨none, 0, fun _ => False, rfl, .nil, fun _ h => h.elim, Below.refl _ _⟩
set_option maxRecDepth 100000 in
set_option maxHeartbeats 1000000 in
theorem eachS_row (args : List St) (IH : ∀ x ∈ args, StOK x) (b c fp : Nat) (S : Nat → Prop) (w : World) (hf : Folder w fp) (hsl : SsIn S w (some b) args) (hlow : ∀ b, S b → b < w.heap.size) (hlen : args.length ≤ 1048576) :
    Calls Try.prog 73 #[.slice (some ⟨b, 0, none⟩) args.length c, .func (.func 74) #[.pointer (some ⟨fp, 0, none⟩)] #[]] w (EachAnsS args w) := by
  obtain ⟨i0, hi, hz0, hz1, hz2⟩ := info_parts info_st
  go_enter Try.func73, Try.ntmps73
  go_wp2
  go_loopw [5, 10] (fun v iv wr => ∃ (k : Nat) (rows : List (List Value)) (S' : Nat → Prop), k ≤ args.length ∧ iv = .int .i64 k ∧ EachKS foldS args w.heap.size w k rows S' v wr) (fun _ iv _ => args.length - (intOf iv).toNat)
  case atStart => exact ⟨0, _, _, by omega, rfl, EachKS.start _ _ _⟩
  case round =>
    obtain ⟨k, rows, S', hk, rfl, HE⟩ := hrel
    have hz := HE.below.size
    by_cases hlt : k < args.length
    · obtain ⟨x, hx⟩ : ∃ x, args[k]? = some x := ⟨_, List.getElem?_eq_getElem hlt⟩
      obtain ⟨hS, op, at_, line, name, field, func, reg, ty, end_, A, ca, B, cb, C, cc, es, body, els, rfl, hs, hs1, hs2, hc⟩ := hsl.at k x hx
      have HC := Lib.hid (hc.below HE.below (hlow _ hS))
      have HX := Lib.hid hx
      have HI := Lib.hid (IH _ (List.mem_of_getElem? hx))
      clear hc hx
      go_wp2_with (first | (refine wpList_load_at rfl 53 _ rfl b _ rfl _ _ HC.out Try.underlying53 rfl (by kernel_rfl) ?_) | (go_at_call 74; refine (HI.out op at_ line name field func reg ty end_ A ca B cb C cc es body els fp S _ rfl (hf.below (HE.below.alloc hz _) (Nat.le_refl _)) (hs.under (HE.below.alloc hz _) hlow) (hs1.under (HE.below.alloc hz _) hlow) (hs2.under (HE.below.alloc hz _) hlow) (fun b hb => by have := hlow b hb; simp; omega)).mono ?_; rintro e w1 ⟨op1, at1, line1, name1, field1, func1, reg1, ty1, end1, A1, ca1, B1, cb1, C1, cc1, es1, body1, els1, S1, rfl, hft, hsl1, hsl2, hsl3, hS1, hb1⟩; have HBW : Hid (Below wr.heap.size wr w1) := ((Below.refl wr.heap.size wr).alloc (Nat.le_refl _) _).trans (hb1.mono (by simp)); have HFT := Lib.hid hft; have HSL1 := Lib.hid hsl1; have HSL2 := Lib.hid hsl2; have HSL3 := Lib.hid hsl3; have HS1 := Lib.hid hS1; have hsz1 := hb1.size; clear hft hsl1 hsl2 hsl3 hS1 hb1) | (at_builtin; refine wpList_append_blk _ rfl _ _ 51 rfl w.heap.size 53 i0 _ 12 168 Try.underlying51 hi hz0 hz1 hz2 rfl (by decide) _ k rows.flatten rfl (ownsRow_below HE.own (HBW.out.alloc HBW.out.size _)) ⟨w1.heap.size, 0, none⟩ 1 1 (stL op1 at1 line1 name1 field1 func1 reg1 ty1 end1 A1 es1.length ca1 B1 body1.length cb1 C1 els1.length cc1) rfl rfl ?c2 ?c3 ?c4 ?c5 ?c6 ?_; (case c2 => exact new_cells w1 (stL op1 at1 line1 name1 field1 func1 reg1 ty1 end1 A1 es1.length ca1 B1 body1.length cb1 C1 els1.length cc1) _); (case c3 => exact stL_one _ _ _ _ _ _ _ _ _ _ _ _ _ _ _ _ _ _); (case c4 => unfold maxLen; omega); (case c5 => omega); (case c6 => simp; simp at hsz1; omega); intro v' w3 hown3 hg3 hbl3; have HE3 := Lib.hid (HE.put hz (HBW.out.alloc HBW.out.size _) HX.out (HFT.out ▸ StIn.mk (HSL1.out.under ((Below.refl w1.heap.size w1).alloc (Nat.le_refl _) _) (fun b hb => (HS1.out b hb).2)) (HSL2.out.under ((Below.refl w1.heap.size w1).alloc (Nat.le_refl _) _) (fun b hb => (HS1.out b hb).2)) (HSL3.out.under ((Below.refl w1.heap.size w1).alloc (Nat.le_refl _) _) (fun b hb => (HS1.out b hb).2))) (fun b hb => by have h := HS1.out b hb; simp at h; simp; omega) hown3 hg3 hbl3); clear hown3 hg3 hbl3))
      go_roundw
      case rel => exact ⟨k + 1, _, _, by omega, by go_num, HE3.out⟩
      case measure =>
        simp [intOf]
        omega
    · obtain rfl : k = args.length := by omega
      obtain ⟨A, c2, S2, rfl, h2, h3⟩ := HE.done hlen
      go_wp2
      go_ret
      exact ⟨A, c2, S2, rfl, h2, h3, HE.below⟩
theorem eachS_any (args : List St) (IH : ∀ x ∈ args, StOK x) (A : Option Nat) (c fp : Nat) (S : Nat → Prop) (w : World) (hf : Folder w fp) (hsl : SsIn S w A args) (hlow : ∀ b, S b → b < w.heap.size) :
    Calls Try.prog 73 #[slV A args.length c, .func (.func 74) #[.pointer (some ⟨fp, 0, none⟩)] #[]] w (EachAnsS args w) := by
  cases hsl with
  | nil => exact eachS_nil A c fp w
  | row hb hS rows hc h => exact eachS_row args IH _ c fp S w hf (.row hb hS rows hc h) hlow hb
end Go.Proofs.Ythmphmndpfkbcaa
