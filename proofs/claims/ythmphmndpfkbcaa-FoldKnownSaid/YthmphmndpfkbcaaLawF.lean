/-
  FoldLaws' facts of two numbers of a type, each as the walk asks for it. No walk but the small contracts' own.
-/
import Derived.Test.YthmphmndpfkbcaaLawM
namespace Go.Proofs.Ythmphmndpfkbcaa
open Go.RowKit
theorem bin_at (op t a b r : Int) (w : World) (hf : binFine op t a b r = true) :
    Calls Try.prog 14 #[.int .i64 op, .int .i64 t, .int .i32 a, .int .i32 b] w fun e w' => e = .returned (.tuple #[.int .i32 r, .bool true]) ∧ Below w.heap.size w w' := by
  obtain ⟨h9, h24, hz, ha, ha2, hb, hb2, rfl⟩ := (binFine_iff op t a b r).1 hf
  exact bin_yes op t a b w h9 h24 hz ha ha2 hb hb2
theorem un_at (op t a r : Int) (w : World) (h4 : 4 ≤ op) (h8 : op ≤ 8) (ha : -2147483648 ≤ a) (ha2 : a ≤ 2147483647) (ht : wrapT t a = a) (hr : unV op t a = r) :
    Calls Try.prog 16 #[.int .i64 op, .int .i64 t, .int .i32 a] w fun e w' => e = .returned (.int .i32 r) ∧ Below w.heap.size w w' := by
  subst hr
  refine (un_any op t a w h4 h8 ha ha2).mono fun e w' ⟨⟨v, h, h1, _⟩, hb⟩ => ⟨?_, hb⟩
  rw [h, h1 ht]
theorem fine {op t a b r : Int} (h9 : 9 ≤ op) (h24 : op ≤ 24) (hz : ¬ ((op = 10 ∨ op = 11) ∧ b = 0)) (ha : I32b a) (hb : I32b b) (hv : binV op t a b = r) : binFine op t a b r = true :=
  (binFine_iff op t a b r).2 ⟨h9, h24, hz, ha.1, ha.2, hb.1, hb.2, hv⟩
theorem fine' {op t a b r : Int} (h9 : 9 ≤ op) (h24 : op ≤ 24) (h10 : op ≠ 10) (h11 : op ≠ 11) (ha : I32b a) (hb : I32b b) (hv : binV op t a b = r) : binFine op t a b r = true :=
  fine h9 h24 (fun h => h.1.elim h10 h11) ha hb hv
/-- Numbers of a type. -/
structure Of (t a : Int) : Prop where
  ty : t = 1 ∨ t = 2
  wr : wrapT t a = a
theorem Of.bd {t a : Int} (h : Of t a) : I32b a := h.wr ▸ wrapT_bd t a
theorem Of.wrap {t : Int} (ht : t = 1 ∨ t = 2) (v : Int) : Of t (wrapT t v) := ⟨ht, wrapT_self t v⟩
theorem wrapT_12 (t v : Int) (ht : t = 1 ∨ t = 2) : (t = 1 ∧ wrapT t v = (v + 32768) % 65536 - 32768) ∨ (t = 2 ∧ wrapT t v = (v + 2147483648) % 4294967296 - 2147483648) := by
  rcases ht with rfl | rfl
  · exact .inl ⟨rfl, rfl⟩
  · exact .inr ⟨rfl, wrapT_32 2 v (by decide)⟩
theorem cong {t u v k : Int} (ht : t = 1 ∨ t = 2) (h : u = v + 4294967296 * k) : wrapT t u = wrapT t v := by
  subst h
  rcases ht with rfl | rfl
  · rw [wrapT_16, wrapT_16]
    omega
  · rw [wrapT_32 2 _ (by decide), wrapT_32 2 _ (by decide)]
    omega
theorem sub_back {t : Int} (ht : t = 1 ∨ t = 2) (u v a : Int) (ha : wrapT t a = a) (h : u + v = a) : wrapT t (wrapT t u + v) = a := by
  rw [← ha, ← h]
  rcases ht with rfl | rfl
  · simp only [wrapT_16]
    omega
  · simp only [wrapT_32 2 _ (by decide : (2 : Int) ≠ 1)]
    omega
theorem mul_back {t : Int} (ht : t = 1 ∨ t = 2) (u b : Int) : wrapT t (wrapT t u * b) = wrapT t (u * b) := by
  rcases ht with rfl | rfl
  · have h : ∃ k, wrapT 1 u = u - 65536 * k := ⟨(u + 32768) / 65536, by rw [wrapT_16]; omega⟩
    obtain ⟨k, hk⟩ := h
    rw [hk, Int.sub_mul, Int.mul_assoc, wrapT_16, wrapT_16]
    generalize k * b = z
    generalize u * b = y
    omega
  · have h : ∃ k, wrapT 2 u = u - 4294967296 * k := ⟨(u + 2147483648) / 4294967296, by rw [wrapT_32 2 _ (by decide)]; omega⟩
    obtain ⟨k, hk⟩ := h
    rw [hk, Int.sub_mul, Int.mul_assoc, wrapT_32 2 _ (by decide), wrapT_32 2 _ (by decide)]
    generalize k * b = z
    generalize u * b = y
    omega
theorem sums {t a b : Int} (A : Of t a) (B : Of t b) : ∃ s ng na : Int, I32b na ∧ binFine 12 t a b s = true ∧ binFine 13 t s b a = true ∧ unV 4 t a = ng ∧ binFine 13 t 0 a ng = true ∧ unV 5 t a = na ∧ wrapT t na = na ∧ unV 5 t na = a ∧ s = wrapT t (a + b) := by
  have h5 : ∀ v, unV 5 t v = -v - 1 := unV_5 t
  have h4 : unV 4 t a = wrapT t (-a) := by simp [unV]
  refine ⟨wrapT t (a + b), wrapT t (-a), -a - 1, ?_, fine' (by decide) (by decide) (by decide) (by decide) A.bd B.bd (by simp [binV]), fine' (by decide) (by decide) (by decide) (by decide) (wrapT_bd _ _) B.bd ?_, h4, fine' (by decide) (by decide) (by decide) (by decide) ⟨by decide, by decide⟩ A.bd ?_, h5 a, wrapT_not t a A.wr, ?_, rfl⟩
  · have := A.bd
    unfold I32b at *
    omega
  · have : binV 13 t (wrapT t (a + b)) b = wrapT t (wrapT t (a + b) + -b) := by simp [binV, Int.sub_eq_add_neg]
    rw [this]
    exact sub_back A.ty _ _ _ A.wr (by omega)
  · have : binV 13 t 0 a = wrapT t (0 - a) := by simp [binV]
    rw [this, Int.zero_sub]
  · rw [h5]
    omega
theorem quots {t a b : Int} (A : Of t a) (B : Of t b) (hb : b ≠ 0) : ∃ q r p : Int, binFine 10 t a b q = true ∧ binFine 11 t a b r = true ∧ binFine 9 t q b p = true ∧ binFine 12 t p r a = true ∧ (r ≠ 0 → (decide (r < 0) != decide (a < 0)) = false) := by
  have hab := A.bd
  have hbb := B.bd
  have hr := tmod_bd a b hab.1 hab.2
  refine ⟨wrapT t (a.tdiv b), a.tmod b, wrapT t (a.tdiv b * b), fine (by decide) (by decide) (fun h => hb h.2) hab hbb (by simp [binV]), fine (by decide) (by decide) (fun h => hb h.2) hab hbb (by simp [binV]), fine' (by decide) (by decide) (by decide) (by decide) (wrapT_bd _ _) hbb ?_, fine' (by decide) (by decide) (by decide) (by decide) (wrapT_bd _ _) hr ?_, ?_⟩
  · have : binV 9 t (wrapT t (a.tdiv b)) b = wrapT t (wrapT t (a.tdiv b) * b) := by simp [binV]
    rw [this, mul_back A.ty]
  · have : binV 12 t (wrapT t (a.tdiv b * b)) (a.tmod b) = wrapT t (wrapT t (a.tdiv b * b) + a.tmod b) := by simp [binV]
    rw [this]
    refine sub_back A.ty _ _ _ A.wr ?_
    have h := Int.tmod_add_mul_tdiv a b
    rw [Int.mul_comm] at h
    omega
  · intro h0
    have key : (a.tmod b < 0) ↔ a < 0 := by
      constructor
      · intro h
        by_cases ha : 0 ≤ a
        · have := Int.tmod_nonneg b ha
          omega
        · omega
      · intro h
        have h4 : 0 ≤ (-a).tmod b := Int.tmod_nonneg b (by omega)
        rw [Int.neg_tmod] at h4
        omega
    have hd : decide (a.tmod b < 0) = decide (a < 0) := decide_eq_decide.2 key
    rw [hd]
    simp
theorem comps {t a b : Int} (A : Of t a) (B : Of t b) : ∃ lt gt eq : Int, binFine 16 t a b lt = true ∧ binFine 18 t a b gt = true ∧ binFine 20 t a b eq = true ∧ 0 ≤ lt ∧ 0 ≤ gt ∧ 0 ≤ eq ∧ lt + gt + eq = 1 ∧ binFine 17 t a b (lt + eq) = true ∧ binFine 19 t a b (gt + eq) = true ∧ binFine 21 t a b (lt + gt) = true ∧
    ((a < b ∧ lt = 1) ∨ (b ≤ a ∧ lt = 0)) ∧ wrapT t eq = eq ∧ unV 6 t eq = lt + gt := by
  have hab := A.bd
  have hbb := B.bd
  have w1 := wrapT_one t
  have w0 := wrapT_nil t
  rcases Int.lt_trichotomy a b with h | h | h
  · refine ⟨1, 0, 0, fine' (by decide) (by decide) (by decide) (by decide) hab hbb ?_, fine' (by decide) (by decide) (by decide) (by decide) hab hbb ?_, fine' (by decide) (by decide) (by decide) (by decide) hab hbb ?_, by decide, by decide, by decide, by decide, fine' (by decide) (by decide) (by decide) (by decide) hab hbb ?_, fine' (by decide) (by decide) (by decide) (by decide) hab hbb ?_, fine' (by decide) (by decide) (by decide) (by decide) hab hbb ?_, .inl ⟨h, rfl⟩, w0, by simp [unV]⟩ <;> simp [binV] <;> omega
  · refine ⟨0, 0, 1, fine' (by decide) (by decide) (by decide) (by decide) hab hbb ?_, fine' (by decide) (by decide) (by decide) (by decide) hab hbb ?_, fine' (by decide) (by decide) (by decide) (by decide) hab hbb ?_, by decide, by decide, by decide, by decide, fine' (by decide) (by decide) (by decide) (by decide) hab hbb ?_, fine' (by decide) (by decide) (by decide) (by decide) hab hbb ?_, fine' (by decide) (by decide) (by decide) (by decide) hab hbb ?_, .inr ⟨by omega, rfl⟩, w1, by simp [unV]⟩ <;> simp [binV] <;> omega
  · refine ⟨0, 1, 0, fine' (by decide) (by decide) (by decide) (by decide) hab hbb ?_, fine' (by decide) (by decide) (by decide) (by decide) hab hbb ?_, fine' (by decide) (by decide) (by decide) (by decide) hab hbb ?_, by decide, by decide, by decide, by decide, fine' (by decide) (by decide) (by decide) (by decide) hab hbb ?_, fine' (by decide) (by decide) (by decide) (by decide) hab hbb ?_, fine' (by decide) (by decide) (by decide) (by decide) hab hbb ?_, .inr ⟨by omega, rfl⟩, w0, by simp [unV]⟩ <;> simp [binV] <;> omega
theorem bitss {t a b : Int} (A : Of t a) (B : Of t b) : ∃ n o x tw hf : Int, binFine 22 t a b n = true ∧ binFine 24 t a b o = true ∧ binFine 23 t a b x = true ∧ binFine 14 t a 1 tw = true ∧ binFine 15 t a 1 hf = true ∧
    binFine 12 t n o (wrapT t (a + b)) = true ∧ binFine 13 t o n x = true ∧ binFine 12 t a a tw = true ∧ I32b hf ∧ hf * 2 ≤ a ∧ a ≤ hf * 2 + 1 := by
  have hab := A.bd
  have hbb := B.bd
  have hK : ∃ K : Nat, (K = 15 ∨ K = 31) ∧ (-(2 : Int) ^ K ≤ a ∧ a < (2 : Int) ^ K) ∧ (-(2 : Int) ^ K ≤ b ∧ b < (2 : Int) ^ K) ∧ ∀ v : Int, -(2 : Int) ^ K ≤ v → v < (2 : Int) ^ K → wrapT t v = v ∧ I32b v := by
    have wa := A.wr
    have wb := B.wr
    rcases A.ty with rfl | rfl
    · rw [wrapT_16] at wa wb
      refine ⟨15, .inl rfl, by simp; omega, by simp; omega, fun v h1 h2 => ?_⟩
      simp at h1 h2
      rw [wrapT_16]
      unfold I32b
      omega
    · unfold I32b at hab hbb
      refine ⟨31, .inr rfl, by simp; omega, by simp; omega, fun v h1 h2 => ?_⟩
      simp at h1 h2
      rw [wrapT_32 2 _ (by decide)]
      unfold I32b
      omega
  obtain ⟨K, hK, ⟨a1, a2⟩, ⟨b1, b2⟩, hv⟩ := hK
  obtain ⟨s1, s2, ⟨n1, n2⟩, ⟨o1, o2⟩, ⟨x1, x2⟩⟩ := bits_go hK a b a1 a2 b1 b2
  have en : binV 22 t a b = wrap32 (bits BinOp.and IntKind.i64 a b) := by simp [binV]
  have eo : binV 24 t a b = wrap32 (bits BinOp.or IntKind.i64 a b) := by simp [binV]
  have ex : binV 23 t a b = wrap32 (bits BinOp.xor IntKind.i64 a b) := by simp [binV]
  have c1 : cnt t 1 = 1 := by
    unfold cnt
    split <;> rfl
  have et : binV 14 t a 1 = wrapT t (a * 2) := by simp [binV, c1]
  have eh : binV 15 t a 1 = a / 2 := by simp [binV, c1]
  have e12 : ∀ u v, binV 12 t u v = wrapT t (u + v) := fun u v => by simp [binV]
  have e13 : ∀ u v, binV 13 t u v = wrapT t (u - v) := fun u v => by simp [binV]
  generalize bits BinOp.and IntKind.i64 a b = n at *
  generalize bits BinOp.or IntKind.i64 a b = o at *
  generalize bits BinOp.xor IntKind.i64 a b = x at *
  have wn := (hv n n1 n2).2
  have wo := (hv o o1 o2).2
  have wx := (hv x x1 x2).2
  rw [IntWalk.wrap32_in _ wn] at en
  rw [IntWalk.wrap32_in _ wo] at eo
  rw [IntWalk.wrap32_in _ wx] at ex
  refine ⟨n, o, x, wrapT t (a * 2), a / 2, fine' (by decide) (by decide) (by decide) (by decide) hab hbb en, fine' (by decide) (by decide) (by decide) (by decide) hab hbb eo, fine' (by decide) (by decide) (by decide) (by decide) hab hbb ex, fine' (by decide) (by decide) (by decide) (by decide) hab ⟨by decide, by decide⟩ et, fine' (by decide) (by decide) (by decide) (by decide) hab ⟨by decide, by decide⟩ eh, fine' (by decide) (by decide) (by decide) (by decide) wn wo ?_, fine' (by decide) (by decide) (by decide) (by decide) wo wn ?_, fine' (by decide) (by decide) (by decide) (by decide) hab hab ?_, ?_, by omega, by omega⟩
  · rw [e12, s1]
  · rw [e13, s2]
    exact (hv x x1 x2).1
  · rw [e12]
    congr 1
    omega
  · unfold I32b at *
    omega
end Go.Proofs.Ythmphmndpfkbcaa
