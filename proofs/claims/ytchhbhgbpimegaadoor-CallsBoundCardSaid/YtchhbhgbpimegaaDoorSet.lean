/-
  A set of bits (of numbers below 64: one level of one word): how it lies in memory; bitOf, add, remove by their contracts.
-/
import Derived.Test.YtchhbhgbpimegaaDoorKit
import Derived.Laws.Bits64b
namespace Go.Proofs.YtchhbhgbpimegaaDoor
open Go.RowKit
set_option linter.unusedVariables false
/-- At p lies a set, whose levels lie at lv, whose word lies at wb, and is x. -/
structure IsSet (w : World) (p lv wb : Nat) (x : Nat) : Prop where
  lt : x < 18446744073709551616
  ne : p ≠ lv ∧ p ≠ wb ∧ lv ≠ wb
  row : ∃ c, w.heap[p]? = some (.cells [.slice (some ⟨lv, 0, none⟩) 1 c].toArray 96 (0, 0))
  lev : ∃ rest, w.heap[lv]? = some (.cells (.slice (some ⟨wb, 0, none⟩) 1 1 :: rest).toArray 97 (0, 0))
  word : w.heap[wb]? = some (.cells [.int .u64 x].toArray 100 (0, 0))
/-- All that turned is the word, and how much was drawn. -/
structure Touch (b : Nat) (w w' : World) : Prop where
  os : w'.os = w.os
  tape : w'.tape = w.tape
  output : w'.output = w.output
  size : w'.heap.size = w.heap.size
  block : ∀ k, k ≠ b → w'.heap[k]? = w.heap[k]?
theorem Touch.refl (b : Nat) (w : World) : Touch b w w := ⟨rfl, rfl, rfl, rfl, fun _ _ => rfl⟩
theorem Touch.drewN {b : Nat} {w w' : World} (h : Touch b w w') (n : Nat) : Touch b w (w'.drewN n) := ⟨h.os, h.tape, h.output, h.size, h.block⟩
theorem Touch.drew {b : Nat} {w w' : World} (h : Touch b w w') : Touch b w w'.drew := ⟨h.os, h.tape, h.output, h.size, h.block⟩
theorem Touch.set {b : Nat} {w w' : World} (h : Touch b w w') (i : Nat) (v : Value) : Touch b w (w'.setCell ⟨b, i, none⟩ v) :=
  ⟨h.os, h.tape, h.output, by rw [← h.size]; simp [World.setCell], fun k hk => (Below.heap_setCell _ _ _ _ hk).trans (h.block k hk)⟩
theorem Touch.trans {b : Nat} {w w' w'' : World} (h : Touch b w w') (h2 : Touch b w' w'') : Touch b w w'' :=
  ⟨h2.os.trans h.os, h2.tape.trans h.tape, h2.output.trans h.output, h2.size.trans h.size, fun k hk => (h2.block k hk).trans (h.block k hk)⟩
theorem IsSet.set {w w' : World} {p lv wb x y : Nat} (h : IsSet w p lv wb x) (ht : Touch wb w w') (hy : y < 18446744073709551616) (hw : w'.heap[wb]? = some (.cells [.int .u64 y].toArray 100 (0, 0))) : IsSet w' p lv wb y := by
  obtain ⟨n1, n2, n3⟩ := h.ne
  obtain ⟨c, h1⟩ := h.row
  obtain ⟨r, h2⟩ := h.lev
  exact ⟨hy, h.ne, ⟨c, (ht.block _ n2).trans h1⟩, ⟨r, (ht.block _ n3).trans h2⟩, hw⟩
theorem one_u64 {w : World} {b : Nat} {t : TypeId} {v : Value} (u : Value) (h : w.heap[b]? = some (.cells [v].toArray t (0, 0))) : (w.setCell ⟨b, 0, none⟩ u).heap[b]? = some (.cells [u].toArray t (0, 0)) := row_setCell h
theorem ret_u64 {a b : Int} (h : a = b) : Ending.returned (.int .u64 a) = .returned (.int .u64 b) := by rw [h]
theorem bitOf_any (n : Nat) (w : World) (hn : n < 64) : Calls Tryd.prog 41 #[.int .i64 n] w fun e w' => e = .returned (.int .u64 (2 ^ n : Nat)) ∧ w' = w := by
  have h1 : (n : Int).tmod 64 = n := by
    rw [Int.tmod_eq_emod_of_nonneg (by omega)]
    omega
  have h2 : 2 ^ n < 2 ^ 64 := Nat.pow_lt_pow_right (by decide) hn
  go_enter Tryd.func41, Tryd.ntmps41
  go_wp2
  go_ret
  refine ⟨ret_u64 ?_, rfl⟩
  have h3 : (2 : Nat) ^ 64 = 18446744073709551616 := by decide
  have h4 : ((2 : Int) ^ n) = ((2 ^ n : Nat) : Int) := by simp
  rw [IntKind.wrap_u64, h4]
  generalize 2 ^ n = q at *
  omega
theorem bit_lt (n : Nat) (hn : n < 64) : 2 ^ n < 18446744073709551616 := by
  have h2 : 2 ^ n < 2 ^ 64 := Nat.pow_lt_pow_right (by decide) hn
  have h3 : (2 : Nat) ^ 64 = 18446744073709551616 := by decide
  omega
theorem and_bit (x n : Nat) : (x &&& 2 ^ n = 0 ↔ x.testBit n = false) := by
  constructor
  · intro h
    have h2 := congrArg (fun z => Nat.testBit z n) h
    simpa [Nat.testBit_and, Nat.testBit_two_pow] using h2
  · intro h
    apply Nat.eq_of_testBit_eq
    intro i
    rw [Nat.testBit_and, Nat.testBit_two_pow, Nat.zero_testBit]
    by_cases hi : n = i
    · subst hi
      simp [h]
    · simp [hi]
theorem bit_at (n q : Nat) (w : World) (hn : n < 64) (hq : 2 ^ n = q) : Calls Tryd.prog 41 #[.int .i64 n] w fun e w' => e = .returned (.int .u64 q) ∧ w' = w := hq ▸ bitOf_any n w hn
/-- What add answers, and leaves. -/
def AddAns (p lv wb x n : Nat) (w : World) (e : Ending) (w' : World) : Prop := e = .returned (.bool (!x.testBit n)) ∧ IsSet w' p lv wb (x ||| 2 ^ n) ∧ Touch wb w w'
set_option maxRecDepth 100000 in
theorem add_any (p lv wb x n : Nat) (w : World) (hn : n < 64) (h : IsSet w p lv wb x) : Calls Tryd.prog 24 #[.pointer (some ⟨p, 0, none⟩), .int .i64 n] w (AddAns p lv wb x n w) := by
  have HI := Lib.hid h
  have hx := h.lt
  obtain ⟨c, hr⟩ := h.row
  obtain ⟨rest, hl⟩ := h.lev
  have c0 := row_at hr 0 _ rfl
  have c1 := row_at hl 0 _ rfl
  have c2 := row_at h.word 0 _ rfl
  have c3 : w.frozen? ⟨wb, 0, none⟩ = false := row_free h.word
  obtain ⟨q, hq⟩ : ∃ q, 2 ^ n = q := ⟨_, rfl⟩
  have hq2 : q < 18446744073709551616 := hq ▸ bit_lt n hn
  have HB : Hid (∀ w, Calls Tryd.prog 41 #[.int .i64 n] w fun e w' => e = .returned (.int .u64 q) ∧ w' = w) := fun w => bit_at n q w hn hq
  have hd : (n : Int).tdiv 64 = 0 := by
    rw [Int.tdiv_eq_ediv_of_nonneg (by omega)]
    omega
  have ha := bits_and_u64_nat x q hx hq2
  have ho := bits_or_u64_nat x q hx hq2
  have HA := Lib.hid (and_bit x n)
  rw [hq] at HA
  have HO : Hid (x ||| 2 ^ n = x ||| q) := by rw [hq]; exact rfl
  obtain ⟨a, haa⟩ : ∃ a, x &&& q = a := ⟨_, rfl⟩
  obtain ⟨o, hoo⟩ : ∃ o, x ||| q = o := ⟨_, rfl⟩
  have ho2 : o < 18446744073709551616 := hoo ▸ Nat.or_lt_two_pow (n := 64) hx hq2
  rw [haa] at ha HA
  rw [hoo] at ho HO
  clear h hr hl hq haa hoo
  cases hb : x.testBit n
  · have hz : a = 0 := HA.out.2 hb
    subst hz
    go_enter Tryd.func24, Tryd.ntmps24
    go_wp2
    go_quiet ((go_at_call 41; exact (HB.out _).mono fun e w' h => ⟨h.1, _, h.2⟩))
    go_wp2
    go_loopw [1, 26] (fun nv iv wr => iv = .int .i64 0 ∧ nv = .int .i64 n ∧ IsSet wr p lv wb x ∧ Touch wb w wr ∨ iv = .int .i64 1 ∧ nv = .int .i64 0 ∧ IsSet wr p lv wb o ∧ Touch wb w wr) (fun _ iv _ => 1 - (intOf iv).toNat)
    case atStart => exact .inl ⟨rfl, rfl, HI.out.set ((Touch.refl wb w).drewN _) hx HI.out.word, (Touch.refl wb w).drewN _⟩
    case round =>
      rcases hrel with ⟨rfl, rfl, hi, ht⟩ | ⟨rfl, rfl, hi, ht⟩
      · have HI2 := Lib.hid hi
        have HT2 := Lib.hid ht
        obtain ⟨rest2, hl2⟩ := hi.lev
        have c4 := row_at hl2 0 _ rfl
        have c5 := row_at hi.word 0 _ rfl
        have c6 : wr.frozen? ⟨wb, 0, none⟩ = false := row_free hi.word
        clear hi ht hl2 c0 c1 c2 c3
        go_wp2
        go_region_with (go_at_call 41; refine (HB.out _).mono ?_; rintro e w' ⟨rfl, rfl⟩)
        all_goals
          go_wp2
          go_roundw
          case rel => exact .inr ⟨by go_num, by go_num, HI2.out.set ((Touch.refl wb wr).set 0 _).drew ho2 (one_u64 _ HI2.out.word), HT2.out.trans ((Touch.refl wb wr).set 0 _).drew⟩
          case measure =>
            simp [intOf]
      · go_wp2
        go_ret
        exact ⟨by rw [hb]; rfl, by rw [HO.out]; exact hi, ht⟩
  · have hz : a ≠ 0 := fun h0 => by
      have := HA.out.1 h0
      rw [hb] at this
      cases this
    have hz2 : ((a : Int) != 0) = true := by simpa using hz
    go_enter Tryd.func24, Tryd.ntmps24
    go_wp2
    go_quiet ((go_at_call 41; exact (HB.out _).mono fun e w' h => ⟨h.1, _, h.2⟩))
    go_wp2
    go_ret
    have hxo : x ||| 2 ^ n = x := by
      apply Nat.eq_of_testBit_eq
      intro i
      rw [Nat.testBit_or, Nat.testBit_two_pow]
      by_cases hi : n = i
      · subst hi
        simp [hb]
      · simp [hi]
    exact ⟨by rw [hb]; rfl, by rw [hxo]; exact HI.out.set ((Touch.refl wb w).drewN _) hx HI.out.word, (Touch.refl wb w).drewN _⟩
end Go.Proofs.YtchhbhgbpimegaaDoor
