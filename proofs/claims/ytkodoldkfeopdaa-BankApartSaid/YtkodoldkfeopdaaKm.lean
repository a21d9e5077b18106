/-
  What BankKeeps' walk wants: what is requested behind each act; bits of bytes as int32s. Plain mathematics.
-/
import Derived.Test.YtkodoldkfeopdaaWorks
import Derived.Test.YtkodoldkfeopdaaPd
import Derived.Laws.BitsLemmas
import Derived.Laws.BitsAllLaws
namespace Go.Proofs.Ytkodoldkfeopdaa
open Go.RowKit
set_option linter.unusedVariables false
set_option maxRecDepth 100000
theorem peek13 (b : Bk) : peekB b 13 = (b.q.p : Int) := by
  unfold peekB
  rw [if_neg (by decide), if_neg (by decide), if_neg (by decide), if_neg (by decide), if_pos (by decide)]
  rfl
theorem and255 (v : Int) (h1 : -2147483648 ≤ v) (h2 : v ≤ 2147483647) : bits .and .i32 v 255 = ((Iq.lowN v : Nat) : Int) := by
  have hl := Iq.lowN_lt v
  have hc := Iq.lowN_cast v
  show IntKind.i32.wrap ((BitVec.ofInt 32 v &&& BitVec.ofInt 32 255).toNat : Int) = _
  have h255 : (BitVec.ofInt 32 255).toNat = 255 := by decide
  rw [BitVec.toNat_and, h255]
  have hm : (BitVec.ofInt 32 v).toNat &&& 255 = (BitVec.ofInt 32 v).toNat % 256 := Nat.and_two_pow_sub_one_eq_mod _ 8
  have hn : (BitVec.ofInt 32 v).toNat = (v % 4294967296).toNat := by rw [BitVec.toNat_ofInt]; rfl
  have hx : ((BitVec.ofInt 32 v).toNat % 256 : Nat) = Iq.lowN v := by
    rw [hn]
    have := Int.emod_nonneg v (show (4294967296 : Int) ≠ 0 by decide)
    omega
  rw [hm, hx, IntKind.wrap_i32]
  omega
theorem i32_and_b (a b : Nat) (ha : a < 256) (hb : b < 256) : bits .and .i32 (a : Int) (b : Int) = ((a &&& b : Nat) : Int) := (bits_nat .i32 31 (by decide) wraps_i32 a b (by omega) (by omega)).1
theorem i32_or_b (a b : Nat) (ha : a < 256) (hb : b < 256) : bits .or .i32 (a : Int) (b : Int) = ((a ||| b : Nat) : Int) := (bits_nat .i32 31 (by decide) wraps_i32 a b (by omega) (by omega)).2
/-- What is requested stays so, but for some bits. -/
def KeptB (p q m : Nat) : Prop := bits .andNot .i32 (q : Int) (m : Int) = bits .andNot .i32 (p : Int) (m : Int) ∧ bits .and .i32 (q : Int) (p : Int) = (p : Int)
instance (p q m : Nat) : Decidable (KeptB p q m) := inferInstanceAs (Decidable (_ ∧ _))
theorem kept_all : ∀ p : Fin 256, (∀ x ∈ [0, 1], KeptB p.val (p.val ||| x) 1) ∧ (∀ x ∈ [0, 2], KeptB p.val (p.val ||| x) 2) ∧ (∀ x ∈ [0, 4, 8, 12, 16, 20, 24, 28], KeptB p.val (p.val ||| x) 28) := by decide +kernel
theorem askB_p (b : Bk) (n : Nat) (a : Bool) : (askB b n a).q.p = b.q.p ||| (if a = true then n else 0) := by
  unfold askB
  split
  · rfl
  · show b.q.p = b.q.p ||| 0
    rw [Nat.or_zero]
theorem pins_kept {b : Bk} (h : b.ok) (lv : Nat) : KeptB b.q.p (pinsB b lv).q.p 1 := by
  unfold pinsB
  rw [askB_p]
  exact (kept_all ⟨b.q.p, h.q.p⟩).1 _ (by split <;> simp)
theorem arrive_kept {b : Bk} (h : b.ok) (x : Nat) : KeptB b.q.p (arriveB b x).q.p 2 := by
  unfold arriveB
  rw [askB_p]
  exact (kept_all ⟨b.q.p, h.q.p⟩).2.1 _ (by split <;> simp)
theorem tick_kept {b : Bk} (h : b.ok) : KeptB b.q.p (tickB b).q.p 28 := by
  unfold tickB tick2
  rw [askB_p]
  show KeptB b.q.p ((tick1 (tick0 b)).q.p ||| _) 28
  unfold tick1
  rw [askB_p]
  show KeptB b.q.p ((tick0 b).q.p ||| _ ||| _) 28
  unfold tick0
  rw [askB_p]
  show KeptB b.q.p (b.q.p ||| _ ||| _ ||| _) 28
  rw [Nat.or_assoc, Nat.or_assoc]
  refine (kept_all ⟨b.q.p, h.q.p⟩).2.2 _ ?_
  split <;> split <;> split <;> decide
theorem read_p (b : Bk) (r : Int) : (readB b r).q.p = b.q.p := by
  unfold readB
  split <;> rfl
theorem write_p14 (b : Bk) (v : Int) : (writeB b 14 v).q.p = b.q.p &&& (255 - Iq.lowN v) := by
  unfold writeB
  rw [if_neg (by decide), if_neg (by decide), if_neg (by decide), if_neg (by decide), if_pos (by decide)]
  rfl
theorem write_p13 (b : Bk) (v : Int) : (writeB b 13 v).q.p = b.q.p ||| Iq.lowN v := by
  unfold writeB
  rw [if_neg (by decide), if_neg (by decide), if_neg (by decide), if_neg (by decide), if_pos (by decide)]
  rfl
theorem write_p (b : Bk) (r v : Int) (h1 : r ≠ 13) (h2 : r ≠ 14) : (writeB b r v).q.p = b.q.p := by
  unfold writeB
  split
  · rfl
  · split
    · rfl
    · split
      · rfl
      · split
        · rfl
        · split
          · show (Iq.writeI b.q r v).p = b.q.p
            unfold Iq.writeI
            split
            · rfl
            · first | rfl | simp [h1, h2]
          · rfl
theorem ActsIn.below {w w' : World} {A : Option Addr} {len B : Nat} (h : ActsIn w A len) (hb : Below B w w') (hB : B = w.heap.size) : ActsIn w' A len := fun j hj => by
  subst hB
  obtain ⟨a, h1, h2, x, a1, a2, a3, a4, a5, a6⟩ := h j hj
  exact ⟨a, h1, Nat.lt_of_lt_of_le h2 hb.size, x, a1, a2, a3, a4, a5, a6.below hb (by rw [add_block]; exact h2)⟩
end Go.Proofs.Ytkodoldkfeopdaa
