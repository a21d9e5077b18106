/-
  each and the folder's expression, each by its contract under what the other one is to do.
-/
import Derived.Test.YthmphmndpfkbcaaEachM
namespace Go.Proofs.Ythmphmndpfkbcaa
open Go.RowKit
/-- What expression answers of a tree. -/
def ExprAns (x : Ex) (w : World) (e : Ending) (w' : World) : Prop := ∃ (op at_ : Int) (name field : ByteArray) (n ty ref : Int) (A : Option Nat) (c : Nat) (args : List Ex) (S' : Nat → Prop),
  e = .returned (.agg (exL op at_ name field n ty ref A args.length c).toArray) ∧ foldT x = .mk op at_ name field n ty ref args ∧ SlIn S' w' A args ∧ (∀ b, S' b → w.heap.size ≤ b ∧ b < w'.heap.size) ∧ Below w.heap.size w w'
/-- What is asked of expression at a tree. -/
def ExprOK (x : Ex) : Prop := ∀ (op at_ : Int) (name field : ByteArray) (n ty ref : Int) (A : Option Nat) (c : Nat) (args : List Ex) (fp : Nat) (S : Nat → Prop) (w : World), x = .mk op at_ name field n ty ref args → Folder w fp → SlIn S w A args → (∀ b, S b → b < w.heap.size) →
  Calls Try.prog 21 #[.pointer (some ⟨fp, 0, none⟩), .agg (exL op at_ name field n ty ref A args.length c).toArray] w (ExprAns x w)
def EachAns (args : List Ex) (w : World) (e : Ending) (w' : World) : Prop := ∃ (A : Option Nat) (c : Nat) (S' : Nat → Prop), e = .returned (slV A args.length c) ∧ SlIn S' w' A (args.map foldT) ∧ (∀ b, S' b → w.heap.size ≤ b ∧ b < w'.heap.size) ∧ Below w.heap.size w w'
theorem SlIn.under {S : Nat → Prop} {w w' : World} {A : Option Nat} {l : List Ex} {B : Nat} (h : SlIn S w A l) (hb : Below B w w') (hl : ∀ b, S b → b < B) : SlIn S w' A l :=
  h.keep (fun _ h => h) fun b hS j v hv => by
    rw [hb.cell (p := ⟨b, j, none⟩) (hl b hS)]
    exact hv
theorem new_cells (w : World) (l : List Value) (t : TypeId) (j : Nat) (u : Value) (h : l[j]? = some u) : (w.alloc (.cells l.toArray t)).cell? ((⟨w.heap.size, 0, none⟩ : Addr).add j) = some u := by
  have hadd : (⟨w.heap.size, 0, none⟩ : Addr).add j = ⟨w.heap.size, j, none⟩ := by unfold Addr.add; split <;> simp_all
  rw [hadd, cell_of_row _ _ _ _ _ _ (alloc_at w _)]
  simpa using h
theorem exL_one (op at_ : Int) (name field : ByteArray) (n ty ref : Int) (A : Option Nat) (l c : Nat) : ∀ u ∈ exL op at_ name field n ty ref A l c, u.oneCell' = true := by
  intro u hu
  simp only [exL, List.mem_cons, List.not_mem_nil, or_false] at hu
  rcases hu with rfl | rfl | rfl | rfl | rfl | rfl | rfl | rfl <;> rfl
theorem info_ex : (Try.prog.info? 27).map (fun i => (i.zero, i.size, i.bytes)) = some (some (.agg #[.int .i64 0, .int .i64 0, .string ⟨#[]⟩, .string ⟨#[]⟩, .int .i64 0, .int .i64 0, .int .i64 0, .slice none 0 0]), 8, 96) := by kernel_rfl
set_option maxRecDepth 100000 in
theorem each_nil (A : Option Nat) (c fp : Nat) (w : World) :
    Calls Try.prog 32 #[slV A 0 c, .func (.func 21) #[.pointer (some ⟨fp, 0, none⟩)] #[]] w (EachAns [] w) := by
  go_enter Try.func32, Try.ntmps32
  go_wp2
  go_loopw [5, 10] (fun v iv wr => v = .slice none 0 0 ∧ iv = .int .i64 0 ∧ w = wr) (fun _ _ _ => 0)
  case atStart => exact ⟨rfl, rfl, rfl⟩
  case round =>
    obtain ⟨rfl, rfl, rfl⟩ := hrel
    go_wp2
    go_ret
    exact ⟨none, 0, fun _ => False, rfl, .nil, fun _ h => h.elim, Below.refl _ _⟩
set_option maxRecDepth 100000 in
theorem each_row (args : List Ex) (IH : ∀ x ∈ args, ExprOK x) (b c fp : Nat) (S : Nat → Prop) (w : World) (hf : Folder w fp) (hsl : SlIn S w (some b) args) (hlow : ∀ b, S b → b < w.heap.size) (hlen : args.length ≤ 1048576) :
    Calls Try.prog 32 #[.slice (some ⟨b, 0, none⟩) args.length c, .func (.func 21) #[.pointer (some ⟨fp, 0, none⟩)] #[]] w (EachAns args w) := by
  obtain ⟨i0, hi, hz0, hz1, hz2⟩ := info_parts info_ex
  go_enter Try.func32, Try.ntmps32
  go_wp2
  go_loopw [5, 10] (fun v iv wr => ∃ (k : Nat) (rows : List (List Value)) (S' : Nat → Prop), k ≤ args.length ∧ iv = .int .i64 k ∧ EachK foldT args w.heap.size w k rows S' v wr) (fun _ iv _ => args.length - (intOf iv).toNat)
  case atStart => exact ⟨0, _, _, by omega, rfl, EachK.start _ _ _⟩
  case round =>
    obtain ⟨k, rows, S', hk, rfl, HE⟩ := hrel
    have hz := HE.below.size
    by_cases hlt : k < args.length
    · obtain ⟨x, hx⟩ : ∃ x, args[k]? = some x := ⟨_, List.getElem?_eq_getElem hlt⟩
      obtain ⟨hS, op, at_, name, field, n, ty, ref, A, c', l, rfl, hs, hc⟩ := hsl.at k x hx
      have HC := Lib.hid (hc.below HE.below (hlow _ hS))
      have HX := Lib.hid hx
      have HI := Lib.hid (IH _ (List.mem_of_getElem? hx))
      clear hc hx
      go_wp2_with (first | (refine wpList_load_at rfl 27 _ rfl b _ rfl _ _ HC.out Try.underlying27 rfl (by kernel_rfl) ?_) | (go_at_call 21; refine (HI.out op at_ name field n ty ref A c' l fp S _ rfl (hf.below (HE.below.alloc hz _) (Nat.le_refl _)) (hs.under (HE.below.alloc hz _) hlow) (fun b hb => by have := hlow b hb; simp; omega)).mono ?_; rintro e w1 ⟨op1, at1, name1, field1, n1, ty1, ref1, A1, c1, args1, S1, rfl, hft, hsl1, hS1, hb1⟩; have HBW : Hid (Below wr.heap.size wr w1) := ((Below.refl wr.heap.size wr).alloc (Nat.le_refl _) _).trans (hb1.mono (by simp)); have HFT := Lib.hid hft; have HSL1 := Lib.hid hsl1; have HS1 := Lib.hid hS1; have hsz1 := hb1.size; clear hft hsl1 hS1 hb1) | (at_builtin; refine wpList_append_blk _ rfl _ _ 25 rfl w.heap.size 27 i0 _ 8 96 Try.underlying25 hi hz0 hz1 hz2 rfl (by decide) _ k rows.flatten rfl (ownsRow_below HE.own (HBW.out.alloc HBW.out.size _)) ⟨w1.heap.size, 0, none⟩ 1 1 (exL op1 at1 name1 field1 n1 ty1 ref1 A1 args1.length c1) rfl rfl ?c2 ?c3 ?c4 ?c5 ?c6 ?_; (case c2 => exact new_cells w1 (exL op1 at1 name1 field1 n1 ty1 ref1 A1 args1.length c1) _); (case c3 => exact exL_one _ _ _ _ _ _ _ _ _ _); (case c4 => unfold maxLen; omega); (case c5 => omega); (case c6 => simp; simp at hsz1; omega); intro v' w3 hown3 hg3 hbl3; have HE3 := Lib.hid (HE.put hz (HBW.out.alloc HBW.out.size _) HX.out (HFT.out ▸ ExIn.mk (HSL1.out.under ((Below.refl w1.heap.size w1).alloc (Nat.le_refl _) _) (fun b hb => (HS1.out b hb).2))) (fun b hb => by have h := HS1.out b hb; simp at h; simp; omega) hown3 hg3 hbl3); clear hown3 hg3 hbl3))
      go_roundw
      case rel => exact ⟨k + 1, _, _, by omega, by go_num, HE3.out⟩
      case measure =>
        simp [intOf]
        omega
    · obtain rfl : k = args.length := by omega
      obtain ⟨A, c2, S2, rfl, h2, h3⟩ := HE.done hlen
      go_wp2
      go_ret
      exact ⟨A, c2, S2, rfl, h2, h3, HE.below⟩
theorem each_any (args : List Ex) (IH : ∀ x ∈ args, ExprOK x) (A : Option Nat) (c fp : Nat) (S : Nat → Prop) (w : World) (hf : Folder w fp) (hsl : SlIn S w A args) (hlow : ∀ b, S b → b < w.heap.size) :
    Calls Try.prog 32 #[slV A args.length c, .func (.func 21) #[.pointer (some ⟨fp, 0, none⟩)] #[]] w (EachAns args w) := by
  cases hsl with
  | nil => exact each_nil A c fp w
  | row hb hS rows hc h => exact each_row args IH _ c fp S w hf (.row hb hS rows hc h) hlow hb
end Go.Proofs.Ythmphmndpfkbcaa
