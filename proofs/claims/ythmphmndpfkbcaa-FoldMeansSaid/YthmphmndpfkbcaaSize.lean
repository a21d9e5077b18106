/-
  How many parts a tree has; whether operators have numbers alone: by their contracts.
-/
import Derived.Test.YthmphmndpfkbcaaSame
namespace Go.Proofs.Ythmphmndpfkbcaa
open Go.RowKit
set_option linter.unusedVariables false
theorem SlIn.len_le {S : Nat → Prop} {w : World} {A : Option Nat} {args : List Ex} (h : SlIn S w A args) : args.length ≤ 1048576 := by
  cases h with
  | nil => simp
  | row hb _ _ _ _ => exact hb
theorem SlIn.blk {S : Nat → Prop} {w : World} {A : Option Nat} {args : List Ex} (h : SlIn S w A args) {k : Nat} (hk : k < args.length) : ∃ b, A = some b := by
  cases h with
  | nil => simp at hk
  | row _ _ _ _ _ => exact ⟨_, rfl⟩
mutual
def sizeT : Ex → Nat
  | .mk _ _ _ _ _ _ _ args => 1 + sizeL args
def sizeL : List Ex → Nat
  | [] => 0
  | x :: l => sizeT x + sizeL l
end
theorem sizeL_take : ∀ (l : List Ex) (k : Nat) (x : Ex), l[k]? = some x → sizeL (l.take (k + 1)) = sizeL (l.take k) + sizeT x
  | [], k, x, h => by simp at h
  | y :: l, 0, x, h => by
    obtain rfl : y = x := by simpa using h
    simp [sizeL]
  | y :: l, k + 1, x, h => by
    have := sizeL_take l k x (by simpa using h)
    simp only [List.take_succ_cons, sizeL]
    omega
theorem sizeL_le : ∀ (l : List Ex) (k : Nat), sizeL (l.take k) ≤ sizeL l
  | [], k => by simp
  | y :: l, 0 => by simp [sizeL]
  | y :: l, k + 1 => by
    have := sizeL_le l k
    simp only [List.take_succ_cons, sizeL]
    omega
/-- The box of an expression that came by value. -/
def InBox (w : World) (l : List Value) (W : World) : Prop := Below (w.heap.size + 1) (w.alloc (.cells l.toArray 27)) W
theorem InBox.start (w : World) (l : List Value) : InBox w l (w.alloc (.cells l.toArray 27)) := Below.refl _ _
theorem InBox.row {w : World} {l : List Value} {W : World} (h : InBox w l W) : W.heap[w.heap.size]? = some (.cells l.toArray 27 (0, 0)) := by
  rw [h.block _ (by omega)]
  exact alloc_at w _
theorem InBox.below {w : World} {l : List Value} {W : World} (h : InBox w l W) : Below w.heap.size w W := ((Below.refl _ _).alloc (Nat.le_refl _) _).trans (h.mono (by omega))
theorem InBox.size {w : World} {l : List Value} {W : World} (h : InBox w l W) : w.heap.size + 1 ≤ W.heap.size := by
  have := Below.size h
  simpa using this
theorem InBox.under {w : World} {l : List Value} {W W' : World} (h : InBox w l W) (hb : Below W.heap.size W W') : InBox w l W' := Below.trans h (hb.mono h.size)
def SizeOK (x : Ex) : Prop := ∀ (op at_ : Int) (name field : ByteArray) (n ty ref : Int) (A : Option Nat) (c : Nat) (args : List Ex) (S : Nat → Prop) (w : World), x = .mk op at_ name field n ty ref args → SlIn S w A args → (∀ b, S b → b < w.heap.size) → sizeT x ≤ 1000000000 →
  Calls Try.prog 10 #[.agg (exL op at_ name field n ty ref A args.length c).toArray] w fun e w' => e = .returned (.int .i64 (sizeT x)) ∧ Below w.heap.size w w'
set_option maxRecDepth 100000 in
set_option maxHeartbeats 800000 in
theorem size_tree : ∀ x, SizeOK x := by
  refine Ex.ind fun op at_ name field n ty ref args IH => ?_
  rintro _ _ _ _ _ _ _ A c _ S w h hsl hlow hsz
  injection h with e1 e2 e3 e4 e5 e6 e7 e8
  subst e1 e2 e3 e4 e5 e6 e7 e8
  rw [sizeT] at hsz ⊢
  have hlen := hsl.len_le
  go_enter Try.func10, Try.ntmps10
  go_wp2
  go_loopw [3, 4] (fun nv iv wr => ∃ (k : Nat) (s : Nat), k ≤ args.length ∧ iv = .int .i64 k ∧ nv = .int .i64 (1 + (s : Int)) ∧ Hid (s = sizeL (args.take k)) ∧ s ≤ 1000000000 ∧ InBox w (exL op at_ name field n ty ref A args.length c) wr) (fun _ iv _ => args.length - (intOf iv).toNat)
  case atStart => exact ⟨0, 0, by omega, rfl, rfl, rfl, by omega, InBox.start _ _⟩
  case round =>
    obtain ⟨k, s, hk, rfl, rfl, HS, hs, hbx⟩ := hrel
    have HBX := Lib.hid hbx
    have hz := hbx.size
    clear hbx
    by_cases hlt : k < args.length
    · obtain ⟨b, rfl⟩ := hsl.blk hlt
      have c7 : wr.cell? ⟨w.heap.size, 7, none⟩ = some (.slice (some ⟨b, 0, none⟩) args.length c) := row_at HBX.out.row 7 _ rfl
      obtain ⟨x, hx⟩ : ∃ x, args[k]? = some x := ⟨_, List.getElem?_eq_getElem hlt⟩
      obtain ⟨hSb, op1, at1, name1, field1, n1, ty1, ref1, A1, c1, l1, hx1, hs1, hc1⟩ := hsl.at k x hx
      have hst := sizeL_take args k x hx
      have hle := sizeL_le args (k + 1)
      rw [hst, ← HS.out] at hle
      have hsx : sizeT x ≤ 1000000000 := by omega
      have hs2 : s + sizeT x ≤ 1000000000 := by omega
      have HN : Hid (s + sizeT x = sizeL (args.take (k + 1))) := by
        rw [hst, ← HS.out]
        exact rfl
      have HI := Lib.hid (IH x (List.mem_of_getElem? hx))
      have HC := Lib.hid (hc1.below HBX.out.below (hlow _ hSb))
      have HX := Lib.hid hx1
      clear hst hle hc1 hx hx1
      go_wp2_with (first | (refine wpList_load_at rfl 27 _ rfl b _ rfl _ _ HC.out Try.underlying27 rfl (by kernel_rfl) ?_) | (go_at_call 10; refine (HI.out op1 at1 name1 field1 n1 ty1 ref1 A1 c1 l1 S _ HX.out (hs1.under HBX.out.below hlow) (fun b hb => by have := hlow b hb; have := HBX.out.below.size; omega) hsx).mono ?_; rintro e w1 ⟨rfl, hb1⟩))
      go_roundw
      case rel => exact ⟨k + 1, s + sizeT x, by omega, by go_num, by go_num, HN.out, hs2, HBX.out.under hb1⟩
      case measure =>
        simp [intOf]
        omega
    · obtain rfl : k = args.length := by omega
      have c7 := row_at HBX.out.row 7 _ rfl
      go_wp2
      go_ret
      refine ⟨ret_i64 ?_, HBX.out.below⟩
      rw [HS.out, List.take_length]
      push_cast
      rfl
end Go.Proofs.Ythmphmndpfkbcaa
