/-
  Gp: my texts of that device in one, in a namespace of its own. Made by wip/tools/merge.py.
-/
import Derived.Test.YtkodoldkfeopdaaGreatVRow
import Derived.Test.YtkodoldkfeopdaaGreatDGpio
import Derived.Laws.BitsAllLaws
import Derived.IntWalk
/- Ints -/
namespace Go.Proofs.YtkodoldkfeopdaaGreat.Gp
open Go.RowKit
set_option linter.unusedVariables false
set_option maxRecDepth 100000
/-- A slice that holds these numbers. -/
def RdN (w : World) (A : Option Addr) (l : List Nat) : Prop := ∀ (j x : Nat), l[j]? = some x → ∃ a, A = some a ∧ w.cell? (a.add j) = some (.int .i64 (x : Int))
theorem OwnN.rd {w : World} {B : Nat} {v : Value} {l : List Nat} (h : OwnN w B v l) : ∃ A c, v = .slice A l.length c ∧ RdN w A l := by
  obtain ⟨A, c, rfl⟩ := h.form
  refine ⟨A, c, rfl, fun j x hj => ?_⟩
  obtain ⟨a, c', e, hc⟩ := h.at j x hj
  injection e with e1
  exact ⟨a, e1, hc⟩
theorem RdN.below {w w' : World} {A : Option Addr} {l : List Nat} (h : RdN w A l) (hb : Below w.heap.size w w') : RdN w' A l := fun j x hj => by
  obtain ⟨a, rfl, hc⟩ := h j x hj
  exact ⟨a, rfl, (hb.cell (World.block_lt_of_cell? w _ hc)).trans hc⟩
theorem RdN.new (W : World) (l : List Nat) (t : TypeId) : RdN (W.alloc (.cells (l.map iv).toArray t)) (some ⟨W.heap.size, 0, none⟩) l := fun j x hj =>
  ⟨_, rfl, new_cells W (l.map iv) t j _ (by simp [List.getElem?_map, hj, iv])⟩
/-- What the program's functions answer. -/
structure GpioOk : Prop where
  write : ∀ (o i e : Nat) (reg v : Int) (w : World), o < 256 → i < 256 → e < 256 → -9223372036854775808 ≤ reg → reg ≤ 9223372036854775807 → -2147483648 ≤ v → v ≤ 2147483647 → Calls Tryz.prog 107 #[gv o i e, .int .i64 reg, .int .i32 v] w fun x w' => x = .returned (gv (outN o reg v) i (edgeN e reg v)) ∧ Below w.heap.size w w'
  peek : ∀ (o i e : Nat) (reg : Int) (w : World), o < 256 → i < 256 → e < 256 → -9223372036854775808 ≤ reg → reg ≤ 9223372036854775807 → Calls Tryz.prog 71 #[gv o i e, .int .i64 reg] w fun x w' => x = .returned (.int .i32 (peekN o i e reg)) ∧ Below w.heap.size w w'
  pins : ∀ (o i e level : Nat) (w : World), o < 256 → i < 256 → e < 256 → level < 256 → Calls Tryz.prog 28 #[gv o i e, .int .u8 level] w fun x w' => x = .returned (.tuple #[gv o level e, .bool (asksL e (riseK i level 8))]) ∧ Below w.heap.size w w'
  rising : ∀ (was is : Nat) (w : World), was < 256 → is < 256 → Calls Tryz.prog 49 #[.int .u8 was, .int .u8 is] w fun x w' => ∃ v, x = .returned v ∧ OwnN w' w.heap.size v (riseK was is 8) ∧ Below w.heap.size w w'
/-! ### pins in rows -/
def GRow (w : World) (g : Nat) (t : TypeId) (o i e : Nat) : Prop := VRow w g t (gc o i e)
theorem GRow.below {w w' : World} {B g : Nat} {t : TypeId} {o i e : Nat} (h : GRow w g t o i e) (hb : Below B w w') (hg : g < B) : GRow w' g t o i e := VRow.below h hb hg
theorem GRow.lt {w : World} {g : Nat} {t : TypeId} {o i e : Nat} (h : GRow w g t o i e) : g < w.heap.size := VRow.lt h
theorem GRow.three {w : World} {g : Nat} {t : TypeId} {o i e : Nat} (h : GRow w g t o i e) : w.cell? ⟨g, 0, none⟩ = some (.int .u8 (o : Int)) ∧ w.cell? ⟨g, 1, none⟩ = some (.int .u8 (i : Int)) ∧ w.cell? ⟨g, 2, none⟩ = some (.int .u8 (e : Int)) := ⟨VRow.cell h 0 _ rfl, VRow.cell h 1 _ rfl, VRow.cell h 2 _ rfl⟩
theorem wpList_load_g {P : Program} {ops : Array Oper} {rest : List Oper} {o : Oper} {a : Act} {w : World} {Q : Exit → Act → World → Prop} (hw : Region.wanted o (yielded ops a.tmps) = true) (ty : TypeId) (x : Operand) (ho : o.op = .load ty x) (g : Nat) (hx : a.eval x = .pointer (some ⟨g, 0, none⟩))
    (fs : Array Field) (hu : P.underlying ty = some (.struct fs)) (hi : (P.info? ty).map (·.size) = some 3) (t : TypeId) (p i e : Nat) (hr : GRow w g t p i e) (h : wpList P ops Q rest (a.put o.dst (gv p i e)) w) : wpList P ops Q (o :: rest) a w :=
  wpList_load_v hw ty x ho g hx fs hu t (gc p i e) hr hi h
theorem wpList_store_g {P : Program} {ops : Array Oper} {rest : List Oper} {o : Oper} {a : Act} {w : World} {Q : Exit → Act → World → Prop} (hgd : o.guard = none) (ty : TypeId) (x v : Operand) (ho : o.op = .store ty x v) (g : Nat) (hx : a.eval x = .pointer (some ⟨g, 0, none⟩))
    (p i e : Nat) (hv : a.eval v = gv p i e) (hi : (P.info? ty).map (·.size) = some 3) (t : TypeId) (p' i' e' : Nat) (hr : GRow w g t p' i' e')
    (h : ∀ W, Hid (GRow W g t p i e) → Hid (∀ k, k ≠ g → W.heap[k]? = w.heap[k]?) → Hid (Below g w W) → wpList P ops Q rest (a.put o.dst undef) W) : wpList P ops Q (o :: rest) a w :=
  wpList_store_v hgd ty x v ho g hx (gc p i e) hv hi (gc_one _ _ _) t (gc p' i' e') hr rfl h
theorem wp_store_g {P : Program} {o : Oper} {a : Act} {w : World} {K : Act → World → Prop} {Q : Exit → Act → World → Prop} (ty : TypeId) (x v : Operand) (ho : o.op = .store ty x v) (g : Nat) (hx : a.eval x = .pointer (some ⟨g, 0, none⟩))
    (p i e : Nat) (hv : a.eval v = gv p i e) (hi : (P.info? ty).map (·.size) = some 3) (t : TypeId) (p' i' e' : Nat) (hr : GRow w g t p' i' e')
    (h : ∀ W, Hid (GRow W g t p i e) → Hid (∀ k, k ≠ g → W.heap[k]? = w.heap[k]?) → Hid (Below g w W) → K (a.put o.dst undef) W) : o.wp P a w K Q :=
  wp_store_v ty x v ho g hx (gc p i e) hv hi (gc_one _ _ _) t (gc p' i' e') hr rfl h
theorem run_load_g {P : Program} {a : Act} (w : World) (ty : TypeId) (x : Operand) (g : Nat) (hx : a.eval x = .pointer (some ⟨g, 0, none⟩)) (fs : Array Field) (hu : P.underlying ty = some (.struct fs)) (hi : (P.info? ty).map (·.size) = some 3) (t : TypeId) (p i e : Nat) (hr : GRow w g t p i e)
    (dst : Option Tmp) (type : TypeId) (pos : String) (after : Array Edge) (guard : Option (Nat × Bool)) : (execOp a.eval ⟨dst, .load ty x, type, pos, after, guard⟩).run P w = .ok (.value (gv p i e)) w :=
  run_load_v w ty x g hx fs hu t (gc p i e) hr hi dst type pos after guard
end Go.Proofs.YtkodoldkfeopdaaGreat.Gp
/- BitL -/
namespace Go.Proofs.YtkodoldkfeopdaaGreat.Gp
open Go.RowKit
set_option linter.unusedVariables false
set_option maxRecDepth 100000
theorem and255 (v : Int) (h1 : -2147483648 ≤ v) (h2 : v ≤ 2147483647) : bits .and .i32 v 255 = ((lowN v : Nat) : Int) := by
  have hl := lowN_lt v
  have hc := lowN_cast v
  show IntKind.i32.wrap ((BitVec.ofInt 32 v &&& BitVec.ofInt 32 255).toNat : Int) = _
  have h255 : (BitVec.ofInt 32 255).toNat = 255 := by decide
  rw [BitVec.toNat_and, h255]
  have hm : (BitVec.ofInt 32 v).toNat &&& 255 = (BitVec.ofInt 32 v).toNat % 256 := Nat.and_two_pow_sub_one_eq_mod _ 8
  have hn : (BitVec.ofInt 32 v).toNat = (v % 4294967296).toNat := by rw [BitVec.toNat_ofInt]; rfl
  have hx : ((BitVec.ofInt 32 v).toNat % 256 : Nat) = lowN v := by
    rw [hn]
    have := Int.emod_nonneg v (show (4294967296 : Int) ≠ 0 by decide)
    omega
  rw [hm, hx, IntKind.wrap_i32]
  omega
theorem xorN (a b : Nat) (ha : a < 256) (hb : b < 256) : a ^^^ b < 256 := Nat.xor_lt_two_pow (n := 8) (by omega) (by omega)
theorem bitB_testBit (v n : Nat) : bitB v n = v.testBit n := by
  rw [Nat.testBit_eq_decide_div_mod_eq]
  unfold bitB
  rw [Bool.eq_iff_iff]
  simp
/-- A byte and one bit. -/
theorem and_one (v n : Nat) : (v &&& 2 ^ n = 0) ↔ bitB v n = false := by
  rw [bitB_testBit]
  constructor
  · intro h
    have := congrArg (fun x => x.testBit n) h
    simpa [Nat.testBit_and, Nat.testBit_two_pow] using this
  · intro h
    apply Nat.eq_of_testBit_eq
    intro i
    rw [Nat.testBit_and, Nat.testBit_two_pow]
    by_cases hi : n = i
    · subst hi
      simp [h]
    · simp [hi]
end Go.Proofs.YtkodoldkfeopdaaGreat.Gp
/- EdgesM -/
namespace Go.Proofs.YtkodoldkfeopdaaGreat.Gp
open Go.RowKit
set_option linter.unusedVariables false
set_option maxRecDepth 100000
def risesB (i l n : Nat) : Bool := !bitB i n && bitB l n
theorem mem_riseK (i l k n : Nat) : n ∈ riseK i l k ↔ n < k ∧ risesB i l n = true := by simp [riseK, risesB]
theorem riseK_same (l k : Nat) : riseK l l k = [] := by
  unfold riseK
  rw [List.filter_eq_nil_iff]
  intro n _
  cases bitB l n <;> simp
theorem asks_same (e l : Nat) : asksL e (riseK l l 8) = false := by rw [riseK_same]; rfl
theorem bitB_pow (n m : Nat) : bitB (2 ^ n) m = decide (n = m) := by
  rw [bitB_testBit, Nat.testBit_two_pow]
theorem asks_one (i l n : Nat) (h : n < 8) : asksL (2 ^ n) (riseK i l 8) = risesB i l n := by
  rw [Bool.eq_iff_iff, asksL, List.any_eq_true]
  constructor
  · rintro ⟨m, hm, hb⟩
    rw [bitB_pow, decide_eq_true_iff] at hb
    subst hb
    exact ((mem_riseK _ _ _ _).1 hm).2
  · intro hr
    exact ⟨n, (mem_riseK _ _ _ _).2 ⟨h, hr⟩, by rw [bitB_pow]; simp⟩
theorem asks_succ (e i l k : Nat) : asksL e (riseK i l (k + 1)) = (asksL e (riseK i l k) || (bitB e k && risesB i l k)) := by
  rw [riseK_succ]
  cases h : (!bitB i k && bitB l k)
  · have : risesB i l k = false := h
    rw [this]
    simp
  · have : risesB i l k = true := h
    rw [this]
    simp [asksL_snoc]
theorem asks_more (e m : Nat) (L : List Nat) (h : asksL e L = true) : asksL (e ||| m) L = true := by
  rw [asksL, List.any_eq_true] at h ⊢
  obtain ⟨n, hn, hb⟩ := h
  refine ⟨n, hn, ?_⟩
  rw [bitB_testBit] at hb ⊢
  rw [Nat.testBit_or, hb]
  rfl
def orL (L : List Nat) : Nat := L.foldl (fun x n => x ||| 2 ^ n) 0
theorem orL_snoc (L : List Nat) (n : Nat) : orL (L ++ [n]) = orL L ||| 2 ^ n := by simp [orL]
theorem foldl_or (L : List Nat) (x n : Nat) : (L.foldl (fun x n => x ||| 2 ^ n) x).testBit n = (x.testBit n || decide (n ∈ L)) := by
  induction L generalizing x with
  | nil => simp
  | cons m r ih =>
    rw [List.foldl_cons, ih, Nat.testBit_or, Nat.testBit_two_pow, Bool.eq_iff_iff]
    simp
    constructor
    · rintro ((h | h) | h)
      · exact .inl h
      · exact .inr (.inl h.symm)
      · exact .inr (.inr h)
    · rintro (h | h | h)
      · exact .inl (.inl h)
      · exact .inl (.inr h.symm)
      · exact .inr h
theorem orL_bit (L : List Nat) (n : Nat) : (orL L).testBit n = decide (n ∈ L) := by rw [orL, foldl_or]; simp
theorem foldl_or_lt (L : List Nat) (x : Nat) (hx : x < 256) (h : ∀ n ∈ L, n < 8) : L.foldl (fun x n => x ||| 2 ^ n) x < 256 := by
  induction L generalizing x with
  | nil => exact hx
  | cons m r ih =>
    have hm : 2 ^ m < 2 ^ 8 := Nat.pow_lt_pow_right (by decide) (h m (by simp))
    exact ih _ (Nat.or_lt_two_pow (n := 8) hx hm) (fun n hn => h n (by simp [hn]))
theorem orL_lt (L : List Nat) (h : ∀ n ∈ L, n < 8) : orL L < 256 := foldl_or_lt L 0 (by decide) h
theorem or_rises (i l : Nat) (hi : i < 256) (hl : l < 256) : orL (riseK i l 8) = l &&& (255 - i) := by
  apply Nat.eq_of_testBit_eq
  intro n
  rw [orL_bit, Nat.testBit_and, show 255 - i = 2 ^ 8 - (i + 1) by omega, Nat.testBit_two_pow_sub_succ (by omega), Bool.eq_iff_iff]
  simp only [decide_eq_true_iff, mem_riseK, risesB, bitB_testBit, Bool.and_eq_true, Bool.not_eq_true']
  constructor
  · rintro ⟨h1, h2, h3⟩
    exact ⟨h3, h1, h2⟩
  · rintro ⟨h3, h1, h2⟩
    exact ⟨h1, h2, h3⟩
theorem rise_asc (i l k : Nat) : ∀ (j a b : Nat), (riseK i l k)[j]? = some a → (riseK i l k)[j + 1]? = some b → a < b := by
  have hs : (riseK i l k).Pairwise (· < ·) := List.Pairwise.filter _ (List.pairwise_lt_range)
  intro j a b ha hb
  obtain ⟨h1, rfl⟩ := List.getElem?_eq_some_iff.1 ha
  obtain ⟨h2, rfl⟩ := List.getElem?_eq_some_iff.1 hb
  exact List.pairwise_iff_getElem.1 hs j (j + 1) h1 h2 (by omega)
end Go.Proofs.YtkodoldkfeopdaaGreat.Gp
/- BitG -/
namespace Go.Proofs.YtkodoldkfeopdaaGreat.Gp
open Go.RowKit
set_option linter.unusedVariables false
set_option maxRecDepth 100000
/-- 'v >> n & 1'. -/
theorem bit_shr (v n : Nat) (h : v < 256) : bits .and .u8 ((v : Int) / 2 ^ n) 1 = if bitB v n then 1 else 0 := by
  have e : (v : Int) / 2 ^ n = ((v / 2 ^ n : Nat) : Int) := by simp
  have hl : v / 2 ^ n < 256 := Nat.lt_of_le_of_lt (Nat.div_le_self _ _) h
  have := u8_and_nat (v / 2 ^ n) 1 hl (by decide)
  rw [e, show (1 : Int) = ((1 : Nat) : Int) from rfl, this, Nat.and_one_is_mod]
  unfold bitB
  rcases Nat.mod_two_eq_zero_or_one (v / 2 ^ n) with h0 | h0 <;> simp [h0]
/-- What rises and is looked at, as a mask. -/
theorem asks_mask (e i l : Nat) (hi : i < 256) (hl : l < 256) : asksL e (riseK i l 8) = ((l &&& (255 - i)) &&& e != 0) := by
  rw [← or_rises i l hi hl, Bool.eq_iff_iff, asksL, List.any_eq_true, bne_iff_ne]
  constructor
  · rintro ⟨n, hn, hb⟩ h0
    have := congrArg (fun x => x.testBit n) h0
    rw [bitB_testBit] at hb
    simp only [Nat.testBit_and, orL_bit, hn, hb, decide_true, Bool.and_self, Nat.zero_testBit] at this
    cases this
  · intro hne
    obtain ⟨n, hn⟩ := Nat.exists_testBit_of_ne_zero hne
    rw [Nat.testBit_and, orL_bit, Bool.and_eq_true, decide_eq_true_iff] at hn
    exact ⟨n, hn.1, by rw [bitB_testBit]; exact hn.2⟩
/-- A pin rises: its bit in 'is &^ was'. -/
theorem rises_mask (i l n : Nat) (hi : i < 256) (hn : n < 8) : bitB (l &&& (255 - i)) n = (!bitB i n && bitB l n) := by
  rw [bitB_testBit, bitB_testBit, bitB_testBit, Nat.testBit_and, show 255 - i = 2 ^ 8 - (i + 1) by omega, Nat.testBit_two_pow_sub_succ (by omega)]
  simp only [hn, decide_true, Bool.true_and]
  rw [Bool.and_comm]
end Go.Proofs.YtkodoldkfeopdaaGreat.Gp
/- OkRise -/
namespace Go.Proofs.YtkodoldkfeopdaaGreat.Gp
open Go.RowKit
set_option linter.unusedVariables false
set_option maxRecDepth 100000
theorem high_any (v n : Nat) (w : World) (hv : v < 256) (hn : n < 8) : Calls Tryz.prog 67 #[.int .u8 v, .int .i64 n] w fun x w' => x = .returned (.bool (bitB v n)) ∧ w' = w := by
  have hs := bit_shr v n hv
  cases hb : bitB v n
  · rw [hb] at hs
    replace hs : bits .and .u8 ((v : Int) / 2 ^ n) 1 = 0 := hs
    clear hb
    go_enter Tryz.func67, Tryz.ntmps67
    go_wp2
    go_ret
    exact ⟨rfl, rfl⟩
  · rw [hb] at hs
    replace hs : bits .and .u8 ((v : Int) / 2 ^ n) 1 = 1 := hs
    clear hb
    go_enter Tryz.func67, Tryz.ntmps67
    go_wp2
    go_ret
    exact ⟨rfl, rfl⟩
theorem rising_any (was is : Nat) (w : World) (h1 : was < 256) (h2 : is < 256) : Calls Tryz.prog 49 #[.int .u8 was, .int .u8 is] w fun x w' => ∃ v, x = .returned v ∧ OwnN w' w.heap.size v (riseK was is 8) ∧ Below w.heap.size w w' := by
  obtain ⟨i0, hi0, hz0, hz1, hz2⟩ := info_parts i64info
  have H9 := Lib.hid hz0
  have H10 := Lib.hid hz1
  have H11 := Lib.hid hz2
  have H12 := Lib.hid hi0
  clear hz0 hz1 hz2 hi0
  go_enter Tryz.func49, Tryz.ntmps49
  go_wp2
  go_loopw [5, 7] (fun v kv wr => ∃ k : Nat, k ≤ 8 ∧ kv = .int .i64 k ∧ OwnN wr w.heap.size v (riseK was is k) ∧ Below w.heap.size w wr) (fun _ kv _ => 8 - (intOf kv).toNat)
  case atStart => exact ⟨0, by omega, rfl, World.ownsRow_nil _ _ _ _, Below.refl _ _⟩
  case round =>
    obtain ⟨k, hk, rfl, hown, hb⟩ := hrel
    obtain ⟨A, c, rfl⟩ := hown.form
    have HO := Lib.hid hown
    have HB := Lib.hid hb
    clear hown hb
    by_cases hlt : k < 8
    · have d1 : (k : Int) < 8 := by omega
      have HB1 : Hid (∀ W : World, Calls Tryz.prog 67 #[.int .u8 was, .int .i64 k] W fun x w' => x = .returned (.bool (bitB was k)) ∧ w' = W) := Lib.hid (fun W => high_any was k W h1 (by omega))
      have HB2 : Hid (∀ W : World, Calls Tryz.prog 67 #[.int .u8 is, .int .i64 k] W fun x w' => x = .returned (.bool (bitB is k)) ∧ w' = W) := Lib.hid (fun W => high_any is k W h2 (by omega))
      have hlen := riseK_len was is k
      have hsucc := riseK_succ was is k
      obtain ⟨L, hL⟩ : ∃ L, riseK was is k = L := ⟨_, rfl⟩
      rw [hL] at HO hlen hsucc ⊢
      have HS := Lib.hid hsucc
      clear hL hsucc
      cases hb1 : bitB was k
      · rw [hb1] at HB1 HS
        cases hb2 : bitB is k
        · rw [hb2] at HB2 HS
          go_wp2_with (first | (go_at_call 67; (with_reducible refine (HB1.out _).mono ?_); rintro x w1 ⟨rfl, rfl⟩) | (go_at_call 67; (with_reducible refine (HB2.out _).mono ?_); rintro x w1 ⟨rfl, rfl⟩))
          go_roundw
          case rel => exact ⟨k + 1, by omega, by go_num, by rw [HS.out]; exact HO.out, HB.out⟩
          case measure =>
            simp [intOf]
            omega
        · rw [hb2] at HB2 HS
          go_wp2_with (first | (go_at_call 67; (with_reducible refine (HB1.out _).mono ?_); rintro x w1 ⟨rfl, rfl⟩) | (go_at_call 67; (with_reducible refine (HB2.out _).mono ?_); rintro x w1 ⟨rfl, rfl⟩) | (at_builtin; go_must (refine wpList_append_blk _ rfl (.tmp 19) (.tmp 21) 120 rfl w.heap.size 3 i0 (.int .i64 0) 1 8 Tryz.underlying120 H12.out H9.out H10.out H11.out rfl (by decide) (.slice A L.length c) L.length (L.map iv) rfl (own_ne HO.out (gb_alloc _ none _) (by simp)) ⟨_, 0, none⟩ 1 1 [iv k] rfl rfl (new_one _ _ _ _ rfl) (by simp [Value.oneCell', iv]) (by simp only [maxLen]; omega) (by omega) (by have := HB.out.size; simp; omega) ?_; intro v3 w3 hown3 hg3 hb3; obtain ⟨g3, cap3, rfl⟩ := own_succ hown3; have O3 := Lib.hid hown3; have G3 := Lib.hid hg3; clear hown3 hg3 hb3)))
          go_roundw
          case rel => exact ⟨k + 1, by omega, by go_num, by rw [HS.out]; exact (by simpa [OwnN] using O3.out), below_gb (HB.out.alloc HB.out.size _) G3.out (by have := HB.out.size; simp; omega) (fun b hb => (HO.out.lt b hb).1)⟩
          case measure =>
            simp [intOf]
            omega
      · rw [hb1] at HB1 HS
        go_wp2_with (go_at_call 67; (with_reducible refine (HB1.out _).mono ?_); rintro x w1 ⟨rfl, rfl⟩)
        go_roundw
        case rel => exact ⟨k + 1, by omega, by go_num, by rw [HS.out]; exact HO.out, HB.out⟩
        case measure =>
          simp [intOf]
          omega
    · obtain rfl : k = 8 := by omega
      go_wp2
      go_ret
      exact ⟨_, rfl, HO.out, HB.out⟩
end Go.Proofs.YtkodoldkfeopdaaGreat.Gp
/- OkPins -/
namespace Go.Proofs.YtkodoldkfeopdaaGreat.Gp
open Go.RowKit
set_option linter.unusedVariables false
set_option maxRecDepth 100000
/-- What rises of the pins that are looked at. -/
theorem rise_masked (i l e : Nat) : riseK (i &&& e) (l &&& e) 8 = (riseK i l 8).filter (bitB e) := by
  unfold riseK
  rw [List.filter_filter]
  refine List.filter_congr fun n _ => ?_
  rw [bitB_testBit, bitB_testBit, bitB_testBit, bitB_testBit, bitB_testBit, Nat.testBit_and, Nat.testBit_and]
  cases i.testBit n <;> cases l.testBit n <;> cases e.testBit n <;> rfl
theorem asks_masked (i l e : Nat) : asksL e (riseK i l 8) = decide (0 < (riseK (i &&& e) (l &&& e) 8).length) := by
  rw [rise_masked]
  generalize riseK i l 8 = L
  unfold asksL
  induction L with
  | nil => rfl
  | cons a L ih =>
    rw [List.any_cons, List.filter_cons]
    cases bitB e a
    · simpa using ih
    · simp
theorem and_256 (a b : Nat) (h : a < 256) : a &&& b < 256 := Nat.lt_of_le_of_lt Nat.and_le_left h
set_option maxRecDepth 100000 in
theorem pins_any (o i e level : Nat) (w : World) (ho : o < 256) (hi : i < 256) (he : e < 256) (hv : level < 256) :
    Calls Tryz.prog 28 #[gv o i e, .int .u8 level] w fun x w' => x = .returned (.tuple #[gv o level e, .bool (asksL e (riseK i level 8))]) ∧ Below w.heap.size w w' := by
  have HRs : Hid (∀ W : World, Calls Tryz.prog 49 #[.int .u8 ((i &&& e : Nat) : Int), .int .u8 ((level &&& e : Nat) : Int)] W fun x w' => ∃ v, x = .returned v ∧ OwnN w' W.heap.size v (riseK (i &&& e) (level &&& e) 8) ∧ Below W.heap.size W w') := Lib.hid (fun W => rising_any (i &&& e) (level &&& e) W (and_256 _ _ hi) (and_256 _ _ hv))
  have e1 := u8_and_nat i e hi he
  have e2 := u8_and_nat level e hv he
  have HA := Lib.hid (asks_masked i level e)
  have hL8 := riseK_len (i &&& e) (level &&& e) 8
  generalize riseK (i &&& e) (level &&& e) 8 = L at *
  generalize asksL e (riseK i level 8) = b at *
  generalize i &&& e = x1 at *
  generalize level &&& e = x2 at *
  unfold gv
  go_enter Tryz.func28, Tryz.ntmps28
  go_wp2_with (first
    | (go_at_call 49; (first | rw [e1] | skip); (first | rw [e2] | skip); refine (HRs.out _).mono ?_; rintro x w1 ⟨lv, rfl, hown, hB⟩
       have HQ : Hid (VRow w1 w.heap.size 24 (gc o i e)) := Lib.hid (VRow.below (two_at0 _ _ _) hB (by simp; omega))
       have HR : Hid (VRow w1 (w.heap.size + 1) 24 (gc 0 0 0)) := Lib.hid (VRow.below (two_at _ _ _) hB (by simp))
       have HB : Hid (Below w.heap.size w w1) := Lib.hid ((two_below _ _ _).trans (hB.mono (by simp; omega)))
       obtain ⟨A, c, rfl⟩ := hown.form
       clear hB hown)
    | ((with_reducible show wpList _ _ _ (⟨none, .store 5 (.tmp 20) (.tmp 19), _, _, _, _⟩ :: _) _ _); refine wpList_store_c rfl 5 _ _ rfl w.heap.size 1 (by exact rfl) (.int .u8 (level : Int)) (by exact rfl) rfl (by kernel_rfl) 24 _ HQ.out (show 1 < 3 by decide) ?_; intro w3 HN HO3 HB3
       have HN3 : Hid (VRow w3 w.heap.size 24 (gc o level e)) := HN
       have HR3 : Hid (VRow w3 (w.heap.size + 1) 24 (gc 0 0 0)) := Lib.hid ((HO3.out _ (by omega)).trans HR.out)
       have HB3' : Hid (Below w.heap.size w w3) := Lib.hid (HB.out.trans HB3.out)
       clear HN HO3 HB3)
    | ((with_reducible show wpList _ _ _ (⟨some 21, .load 24 (.tmp 2), _, _, _, _⟩ :: _) _ _); refine wpList_load_v (by rfl) 24 _ rfl w.heap.size (by exact rfl) _ Tryz.underlying24 24 _ HN3.out (by kernel_rfl) ?_)
    | ((with_reducible show wpList _ _ _ (⟨none, .store 24 (.tmp 4) (.tmp 21), _, _, _, _⟩ :: _) _ _); refine wpList_store_v rfl 24 _ _ rfl (w.heap.size + 1) (by exact rfl) (gc o level e) (by exact rfl) (by kernel_rfl) (gc_one _ _ _) 24 _ HR3.out rfl ?_; intro w4 HN4 HO4 HB4))
  exact bodyPost_ret (v := .tuple #[gv o level e, .bool b]) (results_ct Tryz.results28 _ _ _ _ _ _ rfl (run_loadVar_v _ _ _ _ Tryz.underlying24 24 (gc o level e) HN4.out (by kernel_rfl)) (by rw [HA.out]; rfl)) rfl ⟨rfl, HB3'.out.trans (HB4.out.mono (by omega))⟩
end Go.Proofs.YtkodoldkfeopdaaGreat.Gp
/- OkRegs -/
namespace Go.Proofs.YtkodoldkfeopdaaGreat.Gp
open Go.RowKit
set_option linter.unusedVariables false
set_option maxRecDepth 100000
theorem uInt : Tryz.prog.underlying 3 = some (.int .i64) := by kernel_rfl
theorem mtyR : Tryz.prog.underlying 154 = some (.map 3 152) := by kernel_rfl
theorem mtyW : Tryz.prog.underlying 187 = some (.map 3 185) := by kernel_rfl
abbrev cl (f b : Nat) : Value := .func (.func f) #[] #[.pointer (some ⟨b, 0, none⟩)]
abbrev en (k : Int) (x : Value) (b : Nat) : MapEntry := { key := .int .i64 k, val := x, born := b }
abbrev rds (b : Nat) : Array MapEntry := #[en 0 (cl 81 b) 0, en 1 (cl 82 b) 1, en 2 (cl 83 b) 2]
abbrev wrs (b : Nat) : Array MapEntry := #[en 0 (cl 109 b) 0, en 2 (cl 110 b) 1]
set_option maxRecDepth 100000 in
theorem readers_any (b : Nat) (w : World) : Calls Tryz.prog 77 #[.pointer (some ⟨b, 0, none⟩)] w fun x w' => x = .returned (.map (some (w.heap.size + 1))) ∧
    w' = (w.alloc (.cells #[.pointer (some ⟨b, 0, none⟩)] 136)).alloc (.map (rds w.heap.size) 3) := by
  have hmm := @run_makeMap Tryz.prog
  obtain ⟨wb, hwb⟩ : ∃ wb, w.alloc (.cells #[.pointer (some ⟨b, 0, none⟩)] 136) = wb := ⟨_, rfl⟩
  have hsz : wb.heap.size = w.heap.size + 1 := by rw [← hwb]; simp
  have i0 := run_ins mtyR uInt wb #[] #[en 0 (cl 81 w.heap.size) 0] 0 1 0 (cl 81 w.heap.size) rfl rfl rfl
  have i1 := run_ins mtyR uInt wb #[en 0 (cl 81 w.heap.size) 0] #[en 0 (cl 81 w.heap.size) 0, en 1 (cl 82 w.heap.size) 1] 1 2 1 (cl 82 w.heap.size) rfl rfl rfl
  have i2 := run_ins mtyR uInt wb #[en 0 (cl 81 w.heap.size) 0, en 1 (cl 82 w.heap.size) 1] (rds w.heap.size) 2 3 2 (cl 83 w.heap.size) rfl rfl rfl
  rw [← hwb] at i0 i1 i2
  simp only [World.size_alloc] at i0 i1 i2
  clear hsz hwb
  go_enter Tryz.func77, Tryz.ntmps77
  go_wp2
  go_ret
  exact ⟨rfl, rfl⟩
set_option maxRecDepth 100000 in
theorem writers_any (b : Nat) (w : World) : Calls Tryz.prog 108 #[.pointer (some ⟨b, 0, none⟩)] w fun x w' => x = .returned (.map (some (w.heap.size + 1))) ∧
    w' = (w.alloc (.cells #[.pointer (some ⟨b, 0, none⟩)] 136)).alloc (.map (wrs w.heap.size) 2) := by
  have hmm := @run_makeMap Tryz.prog
  obtain ⟨wb, hwb⟩ : ∃ wb, w.alloc (.cells #[.pointer (some ⟨b, 0, none⟩)] 136) = wb := ⟨_, rfl⟩
  have hsz : wb.heap.size = w.heap.size + 1 := by rw [← hwb]; simp
  have i0 := run_ins mtyW uInt wb #[] #[en 0 (cl 109 w.heap.size) 0] 0 1 0 (cl 109 w.heap.size) rfl rfl rfl
  have i1 := run_ins mtyW uInt wb #[en 0 (cl 109 w.heap.size) 0] (wrs w.heap.size) 1 2 2 (cl 110 w.heap.size) rfl rfl rfl
  rw [← hwb] at i0 i1
  simp only [World.size_alloc] at i0 i1
  clear hsz hwb
  go_enter Tryz.func108, Tryz.ntmps108
  go_wp2
  go_ret
  exact ⟨rfl, rfl⟩
end Go.Proofs.YtkodoldkfeopdaaGreat.Gp
/- OkPeek -/
namespace Go.Proofs.YtkodoldkfeopdaaGreat.Gp
open Go.RowKit
set_option linter.unusedVariables false
set_option maxRecDepth 100000
theorem zrd (w : World) : (zeroValue 152).run Tryz.prog w = .ok .nilFunc w := by kernel_rfl
theorem zwr (w : World) : (zeroValue 185).run Tryz.prog w = .ok .nilFunc w := by kernel_rfl
/-- What lies behind readers: the pins, the box of the pointer, the map. -/
structure Reg (w W : World) (o i e : Nat) : Prop where
  g : GRow W w.heap.size 24 o i e
  p : W.cell? ⟨w.heap.size + 1, 0, none⟩ = some (.pointer (some ⟨w.heap.size, 0, none⟩))
  m : W.heap[w.heap.size + 1 + 1]? = some (.map (rds (w.heap.size + 1)) 3)
  b : Below w.heap.size w W
theorem reg_new (w : World) (o i e : Nat) (W : World) (hW : W = w.alloc (.cells (gc o i e).toArray 24)) : Reg w ((W.alloc (.cells #[.pointer (some ⟨w.heap.size, 0, none⟩)] 136)).alloc (.map (rds W.heap.size) 3)) o i e := by
  subst hW
  have hs : (w.alloc (.cells (gc o i e).toArray 24)).heap.size = w.heap.size + 1 := by simp
  refine ⟨?_, ?_, ?_, ?_⟩
  · exact GRow.below (show GRow _ _ _ o i e from alloc_at _ _) (two_below _ _ _) (by simp)
  · have h : VRow (((w.alloc (.cells (gc o i e).toArray 24)).alloc (.cells #[.pointer (some ⟨w.heap.size, 0, none⟩)] 136)).alloc (.map (rds (w.alloc (.cells (gc o i e).toArray 24)).heap.size) 3)) (w.alloc (.cells (gc o i e).toArray 24)).heap.size 136 [.pointer (some ⟨w.heap.size, 0, none⟩)] := two_at0 _ _ _
    rw [← hs]
    exact h.cell 0 _ rfl
  · have h := two_at (w.alloc (.cells (gc o i e).toArray 24)) (.cells #[.pointer (some ⟨w.heap.size, 0, none⟩)] 136) (.map (rds (w.alloc (.cells (gc o i e).toArray 24)).heap.size) 3)
    rw [hs] at h ⊢
    exact h
  · exact ((Below.refl _ _).alloc (Nat.le_refl _) _).trans ((two_below _ _ _).mono (by simp))
set_option maxRecDepth 100000 in
theorem rd0 (b g : Nat) (o : Nat) (W : World) (hp : W.cell? ⟨b, 0, none⟩ = some (.pointer (some ⟨g, 0, none⟩))) (hg : W.cell? ⟨g, 0, none⟩ = some (.int .u8 (o : Int))) :
    Calls Tryz.prog 81 #[.pointer (some ⟨b, 0, none⟩)] W fun x w' => x = .returned (.int .u8 (o : Int)) ∧ w' = W := by
  go_enter Tryz.func81, Tryz.ntmps81
  go_wp2
  go_ret
  exact ⟨rfl, rfl⟩
set_option maxRecDepth 100000 in
theorem rd1 (b g : Nat) (o : Nat) (W : World) (hp : W.cell? ⟨b, 0, none⟩ = some (.pointer (some ⟨g, 0, none⟩))) (hg : W.cell? ⟨g, 1, none⟩ = some (.int .u8 (o : Int))) :
    Calls Tryz.prog 82 #[.pointer (some ⟨b, 0, none⟩)] W fun x w' => x = .returned (.int .u8 (o : Int)) ∧ w' = W := by
  go_enter Tryz.func82, Tryz.ntmps82
  go_wp2
  go_ret
  exact ⟨rfl, rfl⟩
set_option maxRecDepth 100000 in
theorem rd2 (b g : Nat) (o : Nat) (W : World) (hp : W.cell? ⟨b, 0, none⟩ = some (.pointer (some ⟨g, 0, none⟩))) (hg : W.cell? ⟨g, 2, none⟩ = some (.int .u8 (o : Int))) :
    Calls Tryz.prog 83 #[.pointer (some ⟨b, 0, none⟩)] W fun x w' => x = .returned (.int .u8 (o : Int)) ∧ w' = W := by
  go_enter Tryz.func83, Tryz.ntmps83
  go_wp2
  go_ret
  exact ⟨rfl, rfl⟩
theorem find_none (reg : Int) (b : Nat) (h0 : ((0 : Int) == reg) = false) (h1 : ((1 : Int) == reg) = false) (h2 : ((2 : Int) == reg) = false) : Instr.findNow (.int .i64) (.int .i64 reg) (rds b).toList 0 = some none := by
  have e0 : ¬ reg = 0 := fun h => by subst h; cases h0
  have e1 : ¬ reg = 1 := fun h => by subst h; cases h1
  have e2 : ¬ reg = 2 := fun h => by subst h; cases h2
  have f0 : (reg == (0 : Int)) = false := by simpa using e0
  have f1 : (reg == (1 : Int)) = false := by simpa using e1
  have f2 : (reg == (2 : Int)) = false := by simpa using e2
  simp only [Instr.findNow, Instr.sameNow, f0, f1, f2, if_true]
set_option maxRecDepth 100000 in
theorem peek0 (o i e : Nat) (w : World) (ho : o < 256) (hi : i < 256) (he : e < 256) : Calls Tryz.prog 71 #[gv o i e, .int .i64 0] w fun x w' => x = .returned (.int .i32 o) ∧ Below w.heap.size w w' := by
  have HR := Lib.hid (fun W => readers_any w.heap.size W)
  have hwr : IntKind.i32.wrap (o : Int) = (o : Int) := by
    simp [IntKind.wrap, IntKind.bits, IntKind.signed]
    omega
  unfold gv
  go_enter Tryz.func71, Tryz.ntmps71
  go_wp2_with (first
    | (go_at_call 81; refine (rd0 _ _ _ _ G1.out.p (G1.out.g.three.1)).mono ?_; rintro x' w3 ⟨rfl, rfl⟩)
    | (go_at_call 77; refine (HR.out _).mono ?_; rintro x' w1 ⟨rfl, hw1⟩
       have G1 : Hid (Reg w w1 o i e) := Lib.hid (by
         subst hw1
         exact reg_new w o i e _ rfl)
       have hl := run_look mtyR uInt w1 (w.heap.size + 1 + 1) _ _ G1.out.m 0 0 _ rfl
       clear hw1))
  go_ret
  exact ⟨by first | rfl | (rw [hwr]), G1.out.b⟩
set_option maxRecDepth 100000 in
theorem peek1 (o i e : Nat) (w : World) (ho : o < 256) (hi : i < 256) (he : e < 256) : Calls Tryz.prog 71 #[gv o i e, .int .i64 1] w fun x w' => x = .returned (.int .i32 i) ∧ Below w.heap.size w w' := by
  have HR := Lib.hid (fun W => readers_any w.heap.size W)
  have hwr : IntKind.i32.wrap (i : Int) = (i : Int) := by
    simp [IntKind.wrap, IntKind.bits, IntKind.signed]
    omega
  unfold gv
  go_enter Tryz.func71, Tryz.ntmps71
  go_wp2_with (first
    | (go_at_call 82; refine (rd1 _ _ _ _ G1.out.p (G1.out.g.three.2.1)).mono ?_; rintro x' w3 ⟨rfl, rfl⟩)
    | (go_at_call 77; refine (HR.out _).mono ?_; rintro x' w1 ⟨rfl, hw1⟩
       have G1 : Hid (Reg w w1 o i e) := Lib.hid (by
         subst hw1
         exact reg_new w o i e _ rfl)
       have hl := run_look mtyR uInt w1 (w.heap.size + 1 + 1) _ _ G1.out.m 1 1 _ rfl
       clear hw1))
  go_ret
  exact ⟨by first | rfl | (rw [hwr]), G1.out.b⟩
set_option maxRecDepth 100000 in
theorem peek2 (o i e : Nat) (w : World) (ho : o < 256) (hi : i < 256) (he : e < 256) : Calls Tryz.prog 71 #[gv o i e, .int .i64 2] w fun x w' => x = .returned (.int .i32 e) ∧ Below w.heap.size w w' := by
  have HR := Lib.hid (fun W => readers_any w.heap.size W)
  have hwr : IntKind.i32.wrap (e : Int) = (e : Int) := by
    simp [IntKind.wrap, IntKind.bits, IntKind.signed]
    omega
  unfold gv
  go_enter Tryz.func71, Tryz.ntmps71
  go_wp2_with (first
    | (go_at_call 83; refine (rd2 _ _ _ _ G1.out.p (G1.out.g.three.2.2)).mono ?_; rintro x' w3 ⟨rfl, rfl⟩)
    | (go_at_call 77; refine (HR.out _).mono ?_; rintro x' w1 ⟨rfl, hw1⟩
       have G1 : Hid (Reg w w1 o i e) := Lib.hid (by
         subst hw1
         exact reg_new w o i e _ rfl)
       have hl := run_look mtyR uInt w1 (w.heap.size + 1 + 1) _ _ G1.out.m 2 2 _ rfl
       clear hw1))
  go_ret
  exact ⟨by first | rfl | (rw [hwr]), G1.out.b⟩
set_option maxRecDepth 100000 in
theorem peekN' (o i e : Nat) (reg : Int) (w : World) (ho : o < 256) (hi : i < 256) (he : e < 256) (h0 : reg ≠ 0) (h1 : reg ≠ 1) (h2 : reg ≠ 2) : Calls Tryz.prog 71 #[gv o i e, .int .i64 reg] w fun x w' => x = .returned (.int .i32 0) ∧ Below w.heap.size w w' := by
  have HR := Lib.hid (fun W => readers_any w.heap.size W)
  have n0 : ((0 : Int) == reg) = false := by simpa using fun h => h0 h.symm
  have n1 : ((1 : Int) == reg) = false := by simpa using fun h => h1 h.symm
  have n2 : ((2 : Int) == reg) = false := by simpa using fun h => h2 h.symm
  have HN0 := Lib.hid n0
  have HN1 := Lib.hid n1
  have HN2 := Lib.hid n2
  clear n0 n1 n2 h0 h1 h2
  unfold gv
  go_enter Tryz.func71, Tryz.ntmps71
  go_wp2_with (first
    | (go_at_call 77; refine (HR.out _).mono ?_; rintro x' w1 ⟨rfl, hw1⟩
       have G1 : Hid (Reg w w1 o i e) := Lib.hid (by
         subst hw1
         exact reg_new w o i e _ rfl)
       have hl := run_look_none mtyR uInt w1 (w.heap.size + 1 + 1) _ _ G1.out.m reg _ (zrd _) (find_none reg _ HN0.out HN1.out HN2.out)
       clear hw1))
  go_ret
  exact ⟨rfl, G1.out.b⟩
end Go.Proofs.YtkodoldkfeopdaaGreat.Gp
/- OkWrite -/
namespace Go.Proofs.YtkodoldkfeopdaaGreat.Gp
open Go.RowKit
set_option linter.unusedVariables false
set_option maxRecDepth 100000
structure Reg2 (w W : World) (o i e : Nat) : Prop where
  g : GRow W w.heap.size 24 o i e
  z : GRow W (w.heap.size + 1) 24 0 0 0
  p : W.cell? ⟨w.heap.size + 1 + 1, 0, none⟩ = some (.pointer (some ⟨w.heap.size, 0, none⟩))
  m : W.heap[w.heap.size + 1 + 1 + 1]? = some (.map (wrs (w.heap.size + 1 + 1)) 2)
  b : Below w.heap.size w W
theorem Reg2.below {w W W' : World} {o i e : Nat} (h : Reg2 w W o i e) (hb : Below W.heap.size W W') : Reg2 w W' o i e :=
  ⟨h.g.below hb h.g.lt, h.z.below hb h.z.lt, (hb.cell (World.block_lt_of_cell? W _ h.p)).trans h.p, (hb.block _ (Array.getElem?_eq_some_iff.1 h.m).1).trans h.m, h.b.trans (hb.mono h.b.size)⟩
theorem reg2_new (w : World) (o i e : Nat) (W : World) (hW : W = (w.alloc (.cells (gc o i e).toArray 24)).alloc (.cells (gc 0 0 0).toArray 24)) : Reg2 w ((W.alloc (.cells #[.pointer (some ⟨w.heap.size, 0, none⟩)] 136)).alloc (.map (wrs W.heap.size) 2)) o i e := by
  have hs : W.heap.size = w.heap.size + 1 + 1 := by subst hW; simp
  have hB : Below W.heap.size W ((W.alloc (.cells #[.pointer (some ⟨w.heap.size, 0, none⟩)] 136)).alloc (.map (wrs W.heap.size) 2)) := two_below _ _ _
  have g0 : GRow W w.heap.size 24 o i e := by subst hW; exact two_at0 _ _ _
  have z0 : GRow W (w.heap.size + 1) 24 0 0 0 := by subst hW; exact two_at _ _ _
  have b0 : Below w.heap.size w W := by subst hW; exact two_below _ _ _
  refine ⟨g0.below hB g0.lt, z0.below hB z0.lt, ?_, ?_, b0.trans (hB.mono b0.size)⟩
  · have h : VRow ((W.alloc (.cells #[.pointer (some ⟨w.heap.size, 0, none⟩)] 136)).alloc (.map (wrs W.heap.size) 2)) W.heap.size 136 [.pointer (some ⟨w.heap.size, 0, none⟩)] := two_at0 _ _ _
    rw [← hs]
    exact h.cell 0 _ rfl
  · have h := two_at W (.cells #[.pointer (some ⟨w.heap.size, 0, none⟩)] 136) (.map (wrs W.heap.size) 2)
    rw [hs] at h ⊢
    exact h
set_option maxRecDepth 100000 in
theorem wr0 (b g o i e n : Nat) (W : World) (hp : W.cell? ⟨b, 0, none⟩ = some (.pointer (some ⟨g, 0, none⟩))) (hg : GRow W g 24 o i e) :
    Calls Tryz.prog 109 #[.int .u8 (n : Int), .pointer (some ⟨b, 0, none⟩)] W fun x w' => x = .returned (.tuple #[]) ∧ GRow w' g 24 n i e ∧ (∀ k, k ≠ g → w'.heap[k]? = W.heap[k]?) ∧ Below g W w' := by
  go_enter Tryz.func109, Tryz.ntmps109
  go_wp2_with ((with_reducible show wpList _ _ _ (⟨none, .store 5 (.tmp 6) (.tmp 4), _, _, _, _⟩ :: _) _ _); refine wpList_store_c rfl 5 _ _ rfl g 0 (by exact rfl) (.int .u8 (n : Int)) (by exact rfl) rfl (by kernel_rfl) 24 _ hg (show 0 < 3 by decide) ?_; intro w3 HN HO HB)
  go_end0
  exact ⟨rfl, HN.out, HO.out, HB.out⟩
set_option maxRecDepth 100000 in
theorem wr2 (b g o i e n : Nat) (W : World) (hp : W.cell? ⟨b, 0, none⟩ = some (.pointer (some ⟨g, 0, none⟩))) (hg : GRow W g 24 o i e) :
    Calls Tryz.prog 110 #[.int .u8 (n : Int), .pointer (some ⟨b, 0, none⟩)] W fun x w' => x = .returned (.tuple #[]) ∧ GRow w' g 24 o i n ∧ (∀ k, k ≠ g → w'.heap[k]? = W.heap[k]?) ∧ Below g W w' := by
  go_enter Tryz.func110, Tryz.ntmps110
  go_wp2_with ((with_reducible show wpList _ _ _ (⟨none, .store 5 (.tmp 6) (.tmp 4), _, _, _, _⟩ :: _) _ _); refine wpList_store_c rfl 5 _ _ rfl g 2 (by exact rfl) (.int .u8 (n : Int)) (by exact rfl) rfl (by kernel_rfl) 24 _ hg (show 2 < 3 by decide) ?_; intro w3 HN HO HB)
  go_end0
  exact ⟨rfl, HN.out, HO.out, HB.out⟩
theorem stays_p {w W w3 : World} {o i e : Nat} (ho3 : ∀ k, k ≠ w.heap.size → w3.heap[k]? = W.heap[k]?) (hb : Below w.heap.size W w3) (h : Reg2 w W o i e) : w3.cell? ⟨w.heap.size + 1 + 1, 0, none⟩ = some (.pointer (some ⟨w.heap.size, 0, none⟩)) := by
  refine Eq.trans ?_ h.p
  unfold World.cell?
  simp only [ho3 (w.heap.size + 1 + 1) (by omega)]
set_option maxRecDepth 100000 in
theorem write0 (o i e : Nat) (v : Int) (w : World) : Calls Tryz.prog 107 #[gv o i e, .int .i64 0, .int .i32 v] w fun x w' => x = .returned (gv (lowN v) i e) ∧ Below w.heap.size w w' := by
  have HR := Lib.hid (fun W => writers_any w.heap.size W)
  have hc := lowN_cast v
  have hwr : Hid (v % 256 = ((lowN v : Nat) : Int)) := Lib.hid hc.symm
  clear hc
  unfold gv
  go_enter Tryz.func107, Tryz.ntmps107
  go_wp2_with (first
    | ((with_reducible show wpList _ _ _ (⟨none, .store 24 (.tmp 6) (.tmp 20), _, _, _, _⟩ :: _) _ _); refine wpList_store_v rfl 24 _ _ rfl (w.heap.size + 1) (by exact rfl) (gc (lowN v) i e) (by exact rfl) (by kernel_rfl) (gc_one _ _ _) 24 _ G3.out.z rfl ?_; intro w4 HN4 HO4 HB4)
    | ((with_reducible show wpList _ _ _ (⟨some 20, .load 24 (.tmp 3), _, _, _, _⟩ :: _) _ _); refine wpList_load_g (by rfl) 24 _ rfl w.heap.size (by exact rfl) _ Tryz.underlying24 (by kernel_rfl) 24 _ _ _ G3.out.g ?_)
    | (go_at_call 109; rw [hwr.out]; refine (wr0 _ _ o i e (lowN v) _ G1.out.p G1.out.g).mono ?_; rintro x' w3 ⟨rfl, hg3, ho3, hb3⟩
       have G3 : Hid (Reg2 w w3 (lowN v) i e) := Lib.hid ⟨hg3, (ho3 _ (by omega)).trans G1.out.z, (stays_p ho3 hb3 G1.out), (ho3 _ (by omega)).trans G1.out.m, G1.out.b.trans hb3⟩
       clear hg3 ho3 hb3)
    | (go_at_call 108; refine (HR.out _).mono ?_; rintro x' w1 ⟨rfl, hw1⟩
       have G1 : Hid (Reg2 w w1 o i e) := Lib.hid (by
         subst hw1
         exact reg2_new w o i e _ rfl)
       have hl := run_look mtyW uInt w1 (w.heap.size + 1 + 1 + 1) _ _ G1.out.m 0 0 _ rfl
       clear hw1))
  exact bodyPost_ret (v := gv (lowN v) i e) (results_c Tryz.results107 _ _ _ _ _ rfl (run_loadVar_v _ _ _ _ Tryz.underlying24 24 (gc (lowN v) i e) HN4.out (by kernel_rfl))) rfl ⟨rfl, G3.out.b.trans (HB4.out.mono (by omega))⟩
set_option maxRecDepth 100000 in
theorem write2 (o i e : Nat) (v : Int) (w : World) : Calls Tryz.prog 107 #[gv o i e, .int .i64 2, .int .i32 v] w fun x w' => x = .returned (gv o i (lowN v)) ∧ Below w.heap.size w w' := by
  have HR := Lib.hid (fun W => writers_any w.heap.size W)
  have hc := lowN_cast v
  have hwr : Hid (v % 256 = ((lowN v : Nat) : Int)) := Lib.hid hc.symm
  clear hc
  unfold gv
  go_enter Tryz.func107, Tryz.ntmps107
  go_wp2_with (first
    | ((with_reducible show wpList _ _ _ (⟨none, .store 24 (.tmp 6) (.tmp 20), _, _, _, _⟩ :: _) _ _); refine wpList_store_v rfl 24 _ _ rfl (w.heap.size + 1) (by exact rfl) (gc o i (lowN v)) (by exact rfl) (by kernel_rfl) (gc_one _ _ _) 24 _ G3.out.z rfl ?_; intro w4 HN4 HO4 HB4)
    | ((with_reducible show wpList _ _ _ (⟨some 20, .load 24 (.tmp 3), _, _, _, _⟩ :: _) _ _); refine wpList_load_g (by rfl) 24 _ rfl w.heap.size (by exact rfl) _ Tryz.underlying24 (by kernel_rfl) 24 _ _ _ G3.out.g ?_)
    | (go_at_call 110; rw [hwr.out]; refine (wr2 _ _ o i e (lowN v) _ G1.out.p G1.out.g).mono ?_; rintro x' w3 ⟨rfl, hg3, ho3, hb3⟩
       have G3 : Hid (Reg2 w w3 o i (lowN v)) := Lib.hid ⟨hg3, (ho3 _ (by omega)).trans G1.out.z, (stays_p ho3 hb3 G1.out), (ho3 _ (by omega)).trans G1.out.m, G1.out.b.trans hb3⟩
       clear hg3 ho3 hb3)
    | (go_at_call 108; refine (HR.out _).mono ?_; rintro x' w1 ⟨rfl, hw1⟩
       have G1 : Hid (Reg2 w w1 o i e) := Lib.hid (by
         subst hw1
         exact reg2_new w o i e _ rfl)
       have hl := run_look mtyW uInt w1 (w.heap.size + 1 + 1 + 1) _ _ G1.out.m 2 1 _ rfl
       clear hw1))
  exact bodyPost_ret (v := gv o i (lowN v)) (results_c Tryz.results107 _ _ _ _ _ rfl (run_loadVar_v _ _ _ _ Tryz.underlying24 24 (gc o i (lowN v)) HN4.out (by kernel_rfl))) rfl ⟨rfl, G3.out.b.trans (HB4.out.mono (by omega))⟩
theorem find_noneW (reg : Int) (b : Nat) (h0 : ((0 : Int) == reg) = false) (h2 : ((2 : Int) == reg) = false) : Instr.findNow (.int .i64) (.int .i64 reg) (wrs b).toList 0 = some none := by
  have e0 : ¬ reg = 0 := fun h => by subst h; cases h0
  have e2 : ¬ reg = 2 := fun h => by subst h; cases h2
  have f0 : (reg == (0 : Int)) = false := by simpa using e0
  have f2 : (reg == (2 : Int)) = false := by simpa using e2
  simp only [Instr.findNow, Instr.sameNow, f0, f2, if_true]
set_option maxRecDepth 100000 in
theorem writeN' (o i e : Nat) (reg : Int) (v : Int) (w : World) (h0 : reg ≠ 0) (h2 : reg ≠ 2) : Calls Tryz.prog 107 #[gv o i e, .int .i64 reg, .int .i32 v] w fun x w' => x = .returned (gv o i e) ∧ Below w.heap.size w w' := by
  have HR := Lib.hid (fun W => writers_any w.heap.size W)
  have n0 : ((0 : Int) == reg) = false := by simpa using fun h => h0 h.symm
  have n2 : ((2 : Int) == reg) = false := by simpa using fun h => h2 h.symm
  have HN0 := Lib.hid n0
  have HN2 := Lib.hid n2
  clear n0 n2 h0 h2
  unfold gv
  go_enter Tryz.func107, Tryz.ntmps107
  go_wp2_with (first
    | ((with_reducible show wpList _ _ _ (⟨none, .store 24 (.tmp 6) (.tmp 20), _, _, _, _⟩ :: _) _ _); refine wpList_store_v rfl 24 _ _ rfl (w.heap.size + 1) (by exact rfl) (gc o i e) (by exact rfl) (by kernel_rfl) (gc_one _ _ _) 24 _ G1.out.z rfl ?_; intro w4 HN4 HO4 HB4)
    | ((with_reducible show wpList _ _ _ (⟨some 20, .load 24 (.tmp 3), _, _, _, _⟩ :: _) _ _); refine wpList_load_g (by rfl) 24 _ rfl w.heap.size (by exact rfl) _ Tryz.underlying24 (by kernel_rfl) 24 _ _ _ G1.out.g ?_)
    | (go_at_call 108; refine (HR.out _).mono ?_; rintro x' w1 ⟨rfl, hw1⟩
       have G1 : Hid (Reg2 w w1 o i e) := Lib.hid (by
         subst hw1
         exact reg2_new w o i e _ rfl)
       have hl := run_look_none mtyW uInt w1 (w.heap.size + 1 + 1 + 1) _ _ G1.out.m reg _ (zwr _) (find_noneW reg _ HN0.out HN2.out)
       clear hw1))
  exact bodyPost_ret (v := gv o i e) (results_c Tryz.results107 _ _ _ _ _ rfl (run_loadVar_v _ _ _ _ Tryz.underlying24 24 (gc o i e) HN4.out (by kernel_rfl))) rfl ⟨rfl, G1.out.b.trans (HB4.out.mono (by omega))⟩
end Go.Proofs.YtkodoldkfeopdaaGreat.Gp
/- Ok -/
namespace Go.Proofs.YtkodoldkfeopdaaGreat.Gp
open Go.RowKit
set_option linter.unusedVariables false
set_option maxRecDepth 100000
theorem gpio_ok : GpioOk where
  write := fun o i e reg v w ho hi he _ _ h1 h2 => by
    by_cases h0 : reg = 0
    · subst h0
      have h := write0 o i e v w
      rw [outN, if_pos rfl, edgeN, if_neg (by decide)]
      exact h
    by_cases h2' : reg = 2
    · subst h2'
      have h := write2 o i e v w
      rw [outN, if_neg (by decide), edgeN, if_pos rfl]
      exact h
    · rw [outN, if_neg h0, edgeN, if_neg h2']
      exact writeN' o i e reg v w h0 h2'
  peek := fun o i e reg w ho hi he _ _ => by
    by_cases h0 : reg = 0
    · subst h0
      exact peek0 o i e w ho hi he
    by_cases h1' : reg = 1
    · subst h1'
      exact peek1 o i e w ho hi he
    by_cases h2' : reg = 2
    · subst h2'
      exact peek2 o i e w ho hi he
    · rw [peekN, if_neg h0, if_neg h1', if_neg h2']
      exact peekN' o i e reg w ho hi he h0 h1' h2'
  pins := fun o i e level w ho hi he hl => pins_any o i e level w ho hi he hl
  rising := fun was is w h1 h2 => rising_any was is w h1 h2
end Go.Proofs.YtkodoldkfeopdaaGreat.Gp
