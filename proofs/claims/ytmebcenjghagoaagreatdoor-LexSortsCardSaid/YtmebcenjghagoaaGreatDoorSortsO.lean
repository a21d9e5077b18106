/-
  What the document's lexing of a text of one byte is, by the kernel for each of the 256. No condition.
-/
import Derived.Test.YtmebcenjghagoaaGreatDoorWk
import Derived.Test.YtmebcenjghagoaaGreatDoorShelf
namespace Go.Proofs.YtmebcenjghagoaaGreatDoor
def one1 (b : Nat) : ByteArray := ⟨#[b.toUInt8]⟩
def tok1 (b : Nat) : Bool := isL b || (isD b || decide (0 ≤ Go.Lib.indexByte [123, 125, 40, 41, 91, 93, 59, 58, 44, 46, 61, 60, 62, 43, 45, 42, 47, 37, 38, 94, 124, 126, 33] b.toUInt8))
def sort1 (b : Nat) : Bool :=
  match lexS (one1 b) with
  | (l, e) =>
    if decide (0 ≤ Go.Lib.indexByte [32, 9, 10] b.toUInt8) then (l.length == 1) && (e == (0, 0))
    else if tok1 b then (e == (0, 0)) && (match l with | [x, _] => x.t.data == #[b.toUInt8] | _ => false)
    else (e == (7, 0)) && l.isEmpty
theorem sort1_all : (List.range 256).all sort1 = true := by kernel_rfl
theorem sort1_of (b : Nat) (h : b < 256) : sort1 b = true := List.all_eq_true.1 sort1_all b (List.mem_range.2 h)
theorem one1_blank (b : Nat) (h : b < 256) (hb : 0 ≤ Go.Lib.indexByte [32, 9, 10] b.toUInt8) : ∃ x, lexS (one1 b) = ([x], (0, 0)) := by
  have h1 := sort1_of b h
  unfold sort1 at h1
  revert h1
  rcases lexS (one1 b) with ⟨l, e⟩
  intro h1
  simp only [hb, decide_true, if_true, Bool.and_eq_true, beq_iff_eq] at h1
  obtain ⟨h2, rfl⟩ := h1
  match l, h2 with
  | [x], _ => exact ⟨x, rfl⟩
theorem one1_tok (b : Nat) (h : b < 256) (hb : ¬ 0 ≤ Go.Lib.indexByte [32, 9, 10] b.toUInt8) (ht : tok1 b = true) : ∃ x y, lexS (one1 b) = ([x, y], (0, 0)) ∧ x.t = one1 b := by
  have h1 := sort1_of b h
  unfold sort1 at h1
  revert h1
  rcases lexS (one1 b) with ⟨l, e⟩
  intro h1
  simp only [hb, decide_false, Bool.false_eq_true, if_false, ht, if_true, Bool.and_eq_true, beq_iff_eq] at h1
  obtain ⟨rfl, h2⟩ := h1
  match l, h2 with
  | [x, y], h2 => exact ⟨x, y, rfl, by rcases x with ⟨k, p, q, ⟨t⟩, n⟩; simp only [beq_iff_eq] at h2; subst h2; rfl⟩
theorem one1_bad (b : Nat) (h : b < 256) (hb : ¬ 0 ≤ Go.Lib.indexByte [32, 9, 10] b.toUInt8) (ht : tok1 b = false) : lexS (one1 b) = ([], (7, 0)) := by
  have h1 := sort1_of b h
  unfold sort1 at h1
  revert h1
  rcases lexS (one1 b) with ⟨l, e⟩
  intro h1
  simp only [hb, decide_false, Bool.false_eq_true, if_false, ht, Bool.and_eq_true, beq_iff_eq, List.isEmpty_iff] at h1
  obtain ⟨rfl, rfl⟩ := h1
  rfl
end Go.Proofs.YtmebcenjghagoaaGreatDoor
