/-
  Plain mathematics: a number's bytes are read back as that number, and the bytes of a number that was read are laid just so. No program in sight; no condition.
-/
import Derived.Test.YtmmdkoomceikiaaDoorRead5
import Derived.Test.YtmmdkoomceikiaaDoorWorks
import Derived.Test.YtmmdkoomceikiaaDoorLex
namespace Go.Proofs.YtmmdkoomceikiaaDoor
open Go.RowKit

/-- The z bytes of a text from p on. -/
def bytesAt (s : ByteArray) (p z : Nat) : List Nat := (List.range z).map fun i => bAt s (p + i)
theorem length_bytesAt (s : ByteArray) (p z : Nat) : (bytesAt s p z).length = z := by simp [bytesAt]
theorem bytesAt_lt (s : ByteArray) (p z : Nat) : ∀ x ∈ bytesAt s p z, x < 256 := by
  intro x hx
  simp only [bytesAt, List.mem_map] at hx
  obtain ⟨i, _, rfl⟩ := hx
  exact bAt_lt s _
theorem bytesAt_succ (s : ByteArray) (p z : Nat) : bytesAt s p (z + 1) = bytesAt s p z ++ [bAt s (p + z)] := by
  simp [bytesAt, List.range_succ]
theorem bytesAt_add (s : ByteArray) (p y z : Nat) : bytesAt s p (y + z) = bytesAt s p y ++ bytesAt s (p + y) z := by
  simp [bytesAt, List.range_add, Nat.add_assoc, Function.comp_def]
theorem val_snoc (l : List Nat) (x : Nat) : val (l ++ [x]) = val l * 256 + x := by
  rw [val_append]; simp [val]
/-- What 'nval' is: the value of the bytes without the two highest bits. -/
theorem nval_val (s : ByteArray) (p k : Nat) : nval s p k + bAt s p / 64 * 64 * 256 ^ k = val (bytesAt s p (k + 1)) := by
  induction k with
  | zero =>
    have e : bytesAt s p 1 = [bAt s p] := by simp [bytesAt, List.range_succ]
    rw [e]
    simp only [nval, val, List.length_nil, Nat.pow_zero]
    omega
  | succ k ih =>
    rw [bytesAt_succ, val_snoc, ← ih]
    simp only [nval, Nat.pow_succ, Nat.add_mul, Nat.mul_assoc]
    rw [show p + 1 + k = p + (k + 1) from by omega]
    omega
theorem len1 {l : List Nat} (h : l.length = 1) : ∃ a, l = [a] := List.length_eq_one_iff.1 h
theorem len2 {l : List Nat} (h : l.length = 2) : ∃ a b, l = [a, b] := by
  match l, h with
  | [a, b], _ => exact ⟨a, b, rfl⟩
theorem len4 {l : List Nat} (h : l.length = 4) : ∃ a b c d, l = [a, b, c, d] := by
  match l, h with
  | [a, b, c, d], _ => exact ⟨a, b, c, d, rfl⟩
theorem len8 {l : List Nat} (h : l.length = 8) : ∃ a b c d e f g i, l = [a, b, c, d] ++ [e, f, g, i] := by
  match l, h with
  | [a, b, c, d, e, f, g, i], _ => exact ⟨a, b, c, d, e, f, g, i, rfl⟩
theorem r4_val (a b c d x : Nat) (ha : a < 256) (hb : b < 256) (hc : c < 256) (hd : d < 256) : r4 (x * 4294967296 + val [a, b, c, d]) = [a, b, c, d] := by
  simp only [r4, val, List.length_cons, List.length_nil]
  simp only [List.cons.injEq, and_true]
  omega
theorem row8_val {l : List Nat} {z : Nat} (hl : l.length = z) (hlt : ∀ x ∈ l, x < 256) (hz : z = 1 ∨ z = 2 ∨ z = 4 ∨ z = 8) : (row8 (val l)).drop (8 - z) = l := by
  rcases hz with rfl | rfl | rfl | rfl
  · obtain ⟨a, rfl⟩ := len1 hl
    have ha := hlt a (by simp)
    simp [row8, val]
    omega
  · obtain ⟨a, b, rfl⟩ := len2 hl
    have ha := hlt a (by simp)
    have hb := hlt b (by simp)
    simp [row8, val]
    omega
  · obtain ⟨a, b, c, d, rfl⟩ := len4 hl
    have ha := hlt a (by simp)
    have hb := hlt b (by simp)
    have hc := hlt c (by simp)
    have hd := hlt d (by simp)
    have := r4_val a b c d 0 ha hb hc hd
    rw [Nat.zero_mul, Nat.zero_add] at this
    exact this
  · obtain ⟨a, b, c, d, e, f, g, i, rfl⟩ := len8 hl
    have ha := hlt a (by simp)
    have hb := hlt b (by simp)
    have hc := hlt c (by simp)
    have hd := hlt d (by simp)
    have he := hlt e (by simp)
    have hf := hlt f (by simp)
    have hg := hlt g (by simp)
    have hi := hlt i (by simp)
    show row8 (val ([a, b, c, d] ++ [e, f, g, i])) = _
    have v1 : val [e, f, g, i] < 256 ^ [e, f, g, i].length := val_lt [e, f, g, i] (fun x hx => hlt x (List.mem_append.2 (Or.inr hx)))
    rw [show [e, f, g, i].length = 4 from rfl, show (256 : Nat) ^ 4 = 4294967296 from by decide] at v1
    rw [val_append, show [e, f, g, i].length = 4 from rfl, show (256 : Nat) ^ 4 = 4294967296 from by decide, row8_r4, r4_val e f g i _ he hf hg hi]
    have q : (val [a, b, c, d] * 4294967296 + val [e, f, g, i]) / 4294967296 = val [a, b, c, d] := by omega
    rw [q]
    have := r4_val a b c d 0 ha hb hc hd
    rw [Nat.zero_mul, Nat.zero_add] at this
    rw [this]
theorem szc_pow (c : Nat) (hc : c < 4) : 64 * 256 ^ (szc c - 1) = 2 ^ (8 * szc c - 2) := by
  match c, hc with
  | 0, _ => decide
  | 1, _ => decide
  | 2, _ => decide
  | 3, _ => decide
theorem szc_of (c : Nat) : szc c = 1 ∨ szc c = 2 ∨ szc c = 4 ∨ szc c = 8 := by
  unfold szc; split <;> simp
theorem cls_le (N K : Nat) (hK : K < 4) (hN : N < 64 * 256 ^ (szc K - 1)) : cls N ≤ K := by
  rcases cls_ways N with ⟨h, hc⟩ | ⟨h, h', hc⟩ | ⟨h, h', hc⟩ | ⟨h, hc⟩ <;> rw [hc] <;> match K, hK with
  | 0, _ => simp [szc] at hN ⊢ <;> omega
  | 1, _ => simp [szc] at hN ⊢ <;> omega
  | 2, _ => simp [szc] at hN ⊢ <;> omega
  | 3, _ => simp [szc] at hN ⊢ <;> omega
/-- P1.4: what is read is laid just so. -/
theorem numB_read (s : ByteArray) (p : Nat) (h : (numR s p).2.2 = 0) : numB (numR s p).1 = bytesAt s p (numR s p).2.1 := by
  unfold numR at h ⊢
  by_cases h1 : s.size ≤ p
  · simp [h1] at h
  · by_cases h2 : s.size - p < szc (bAt s p / 64)
    · simp [h1, h2] at h
    · by_cases h3 : cls (nval s p (szc (bAt s p / 64) - 1)) < bAt s p / 64
      · simp [h1, h2, h3] at h
      · simp only [h1, h2, h3, if_false]
        have hK : bAt s p / 64 < 4 := by have := bAt_lt s p; omega
        have hn := nval_lt s p (szc (bAt s p / 64) - 1)
        have hn7 := nval_lt7 s p (szc (bAt s p / 64) - 1) (by have := szc_bd (bAt s p / 64); omega)
        have hc := cls_le _ _ hK hn
        have hv := nval_val s p (szc (bAt s p / 64) - 1)
        have hz := szc_bd (bAt s p / 64)
        have hpw := szc_pow _ hK
        have hcl : cls (nval s p (szc (bAt s p / 64) - 1)) = bAt s p / 64 := by omega
        have e : tagged (nval s p (szc (bAt s p / 64) - 1)) = val (bytesAt s p (szc (bAt s p / 64))) := by
          rw [tagged, hcl, ← hpw, ← Nat.mul_assoc, hv, Nat.sub_add_cancel hz.1]
        rw [numB, Nat.mod_eq_of_lt (by unfold pow62; omega), hcl, e]
        exact row8_val (length_bytesAt _ _ _) (bytesAt_lt _ _ _) (szc_of _)
theorem pow_szc (c : Nat) (hc : c < 4) : 256 ^ szc c = 4 * 2 ^ (8 * szc c - 2) := by
  match c, hc with
  | 0, _ => decide
  | 1, _ => decide
  | 2, _ => decide
  | 3, _ => decide
theorem cls_bd (N : Nat) (h : N < 4611686018427387904) : N < 2 ^ (8 * szc (cls N) - 2) := by
  rcases cls_ways N with ⟨h, hc⟩ | ⟨h, h', hc⟩ | ⟨h, h', hc⟩ | ⟨h, hc⟩ <;> rw [hc] <;> simp [szc] <;> omega
theorem val_numB (N : Nat) (h : N < 4611686018427387904) : val (numB N) = tagged N := by
  rcases numB_form N h with ⟨c1, a1, f1⟩ | ⟨c1, a1, b1, f1⟩ | ⟨c1, a1, b1, f1⟩ | ⟨c1, a1, f1⟩ <;> rw [f1, tagged, c1]
  · simp [val, szc]
  · simp [val, szc]; omega
  · rw [val_row4 _ (by omega)]; simp [szc]
  · rw [val_row8 _ (by omega)]; simp [szc]
/-- P1.2 of P1.1: a number's bytes are read back. -/
theorem numR_back (s : ByteArray) (p N : Nat) (hN : N < 4611686018427387904) (hs : p + (numB N).length ≤ s.size) (h : bytesAt s p (numB N).length = numB N) : numR s p = (N, (numB N).length, 0) := by
  have hlen := length_numB N
  rw [Nat.mod_eq_of_lt (show N < pow62 by unfold pow62; omega)] at hlen
  have hz := szc_bd (cls N)
  have hc4 := cls_lt N
  have hpw := szc_pow _ hc4
  have hcb := cls_bd N hN
  have hv := nval_val s p (szc (cls N) - 1)
  rw [Nat.sub_add_cancel hz.1, ← hlen, h, val_numB N hN, tagged, hlen] at hv
  have hnl := nval_lt s p (szc (cls N) - 1)
  rw [hpw] at hnl
  have hv2 : nval s p (szc (cls N) - 1) + bAt s p / 64 * 2 ^ (8 * szc (cls N) - 2) = N + cls N * 2 ^ (8 * szc (cls N) - 2) := by
    rw [← hv, ← hpw, Nat.mul_assoc]
  generalize hX : 2 ^ (8 * szc (cls N) - 2) = X at *
  have hX0 : 0 < X := by omega
  have hK : bAt s p / 64 = cls N := by
    have e1 : (nval s p (szc (cls N) - 1) + bAt s p / 64 * X) / X = bAt s p / 64 := by
      rw [Nat.add_mul_div_right _ _ hX0, Nat.div_eq_of_lt hnl, Nat.zero_add]
    have e2 : (N + cls N * X) / X = cls N := by
      rw [Nat.add_mul_div_right _ _ hX0, Nat.div_eq_of_lt hcb, Nat.zero_add]
    rw [← e1, hv2, e2]
  have hnv : nval s p (szc (cls N) - 1) = N := by rw [hK] at hv2; omega
  unfold numR
  rw [if_neg (by omega), hK, hlen, if_neg (by omega), hnv, if_neg (by omega)]
theorem head3 (N : Nat) (h : N < 4611686018427387904) : (N + 13835058055282163712) / 72057594037927936 % 256 / 64 = 3 := by omega
theorem head2 (N : Nat) (h : N < 1073741824) : (N + 2147483648) / 16777216 % 256 / 64 = 2 := by omega
theorem head1 (N : Nat) (h : N < 16384) : (N + 16384) / 256 % 256 / 64 = 1 := by omega
/-- The first byte of a number tells its class. -/
theorem numB_head (N : Nat) (h : N < 4611686018427387904) : ∃ b l, numB N = b :: l ∧ b / 64 = cls N := by
  rcases numB_form N h with ⟨c1, a1, f1⟩ | ⟨c1, a1, b1, f1⟩ | ⟨c1, a1, b1, f1⟩ | ⟨c1, a1, f1⟩
  · exact ⟨_, _, f1, by rw [c1]; omega⟩
  · exact ⟨_, _, f1, by rw [c1]; exact head1 N b1⟩
  · exact ⟨_, _, f1, by rw [c1]; exact head2 N b1⟩
  · exact ⟨_, _, f1, by rw [c1]; exact head3 N h⟩
/-- A number of which the end is cut off. -/
theorem numR_cut (s : ByteArray) (p N : Nat) (hN : N < 4611686018427387904) (hs : s.size < p + (numB N).length) (h : bytesAt s p (s.size - p) = (numB N).take (s.size - p)) : (numR s p).2.2 = 3 := by
  have hlen := length_numB N
  rw [Nat.mod_eq_of_lt (show N < pow62 by unfold pow62; omega)] at hlen
  unfold numR
  by_cases h1 : s.size ≤ p
  · rw [if_pos h1]
  · rw [if_neg h1]
    obtain ⟨m, hm⟩ : ∃ m, s.size - p = m + 1 := ⟨s.size - p - 1, by omega⟩
    have hb : bAt s p / 64 = cls N := by
      have e0 : (bytesAt s p (s.size - p))[0]? = some (bAt s p) := by rw [hm]; simp [bytesAt]
      obtain ⟨b, l, e1, e2⟩ := numB_head N hN
      rw [h, hm, e1] at e0
      simp only [List.take_succ_cons, List.getElem?_cons_zero, Option.some.injEq] at e0
      rw [← e0]; exact e2
    rw [hb, ← hlen, if_pos (by omega)]
end Go.Proofs.YtmmdkoomceikiaaDoor
