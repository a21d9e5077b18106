/-
  Plain mathematics: the bytes of a greater number below 2^62 are not fewer, and are greater, as texts. No program in sight.
-/
import Derived.Test.YtmmdkoomceikiaaDoorNum
import GoSem.Op.String
namespace Go.Proofs.YtmmdkoomceikiaaDoor

def lexN : List Nat → List Nat → Bool
  | _, [] => false
  | [], _ :: _ => true
  | a :: x, b :: y => decide (a < b) || (a == b && lexN x y)
def val : List Nat → Nat
  | [] => 0
  | x :: l => x * 256 ^ l.length + val l
theorem val_lt (l : List Nat) (h : ∀ x ∈ l, x < 256) : val l < 256 ^ l.length := by
  induction l with
  | nil => decide
  | cons x l ih =>
    have h1 := ih fun y hy => h y (List.mem_cons_of_mem _ hy)
    have h2 := h x (List.mem_cons_self ..)
    simp only [val, List.length_cons, Nat.pow_succ]
    have : x * 256 ^ l.length ≤ 255 * 256 ^ l.length := Nat.mul_le_mul_right _ (by omega)
    omega
theorem lexN_val : ∀ (l m : List Nat), l.length = m.length → (∀ x ∈ l, x < 256) → (∀ x ∈ m, x < 256) → val l < val m → lexN l m = true
  | [], [], _, _, _, h => by simp [val] at h
  | a :: l, b :: m, hl, h1, h2, h => by
    have hlen : l.length = m.length := by simpa using hl
    have v1 := val_lt l fun y hy => h1 y (List.mem_cons_of_mem _ hy)
    have v2 := val_lt m fun y hy => h2 y (List.mem_cons_of_mem _ hy)
    simp only [val] at h
    rw [hlen] at h v1
    rcases Nat.lt_trichotomy a b with hab | hab | hab
    · simp [lexN, hab]
    · subst hab
      have := lexN_val l m hlen (fun y hy => h1 y (List.mem_cons_of_mem _ hy)) (fun y hy => h2 y (List.mem_cons_of_mem _ hy)) (by omega)
      simp [lexN, this]
    · exfalso
      have : (b + 1) * 256 ^ m.length ≤ a * 256 ^ m.length := Nat.mul_le_mul_right _ hab
      rw [Nat.add_mul] at this
      omega
theorem lexN_head (a b : Nat) (l m : List Nat) (h : a < b) : lexN (a :: l) (b :: m) = true := by simp [lexN, h]
theorem lexN_irrefl : ∀ l : List Nat, lexN l l = false
  | [] => rfl
  | a :: l => by simp [lexN, lexN_irrefl l]
theorem bytesLess_lexN : ∀ (l m : List Nat), (∀ x ∈ l, x < 256) → (∀ x ∈ m, x < 256) → Op.bytesLess (l.map UInt8.ofNat) (m.map UInt8.ofNat) = lexN l m
  | _, [], _, _ => by simp [Op.bytesLess, lexN]
  | [], _ :: _, _, _ => by simp [Op.bytesLess, lexN]
  | a :: l, b :: m, h1, h2 => by
    have ha := h1 a (List.mem_cons_self ..)
    have hb := h2 b (List.mem_cons_self ..)
    have ih := bytesLess_lexN l m (fun y hy => h1 y (List.mem_cons_of_mem _ hy)) (fun y hy => h2 y (List.mem_cons_of_mem _ hy))
    have e1 : (UInt8.ofNat a < UInt8.ofNat b) ↔ a < b := by
      rw [UInt8.lt_iff_toNat_lt, UInt8.toNat_ofNat_of_lt' ha, UInt8.toNat_ofNat_of_lt' hb]
    have e2 : (UInt8.ofNat a = UInt8.ofNat b) ↔ a = b := by
      constructor
      · intro h
        have := congrArg UInt8.toNat h
        rwa [UInt8.toNat_ofNat_of_lt' ha, UInt8.toNat_ofNat_of_lt' hb] at this
      · rintro rfl; rfl
    simp only [List.map_cons, Op.bytesLess, lexN, ih]
    by_cases hab : a < b
    · simp [hab, e1.2 hab]
    · have h3 : ¬ UInt8.ofNat a < UInt8.ofNat b := fun h => hab (e1.1 h)
      by_cases he : a = b
      · subst he; simp
      · have h4 : ¬ UInt8.ofNat a = UInt8.ofNat b := fun h => he (e2.1 h)
        have h5 : (UInt8.ofNat a == UInt8.ofNat b) = false := by simpa using h4
        have h6 : (a == b) = false := by simpa using he
        simp [hab, h3, h5, h6]

/-- The four forms of a number's bytes. -/
theorem numB_form (n : Nat) (h : n < 4611686018427387904) :
    (cls n = 0 ∧ n < 64 ∧ numB n = [n]) ∨
    (cls n = 1 ∧ 64 ≤ n ∧ n < 16384 ∧ numB n = [(n + 16384) / 256 % 256, (n + 16384) % 256]) ∨
    (cls n = 2 ∧ 16384 ≤ n ∧ n < 1073741824 ∧ numB n = (row8 (n + 2147483648)).drop 4) ∨
    (cls n = 3 ∧ 1073741824 ≤ n ∧ numB n = row8 (n + 13835058055282163712)) := by
  have hm : n % pow62 = n := Nat.mod_eq_of_lt h
  rcases cls_ways n with ⟨h1, hc⟩ | ⟨h1, h2, hc⟩ | ⟨h1, h2, hc⟩ | ⟨h1, hc⟩
  · refine .inl ⟨hc, h1, ?_⟩
    simp [numB, hm, hc, tagged, szc, row8]
    omega
  · refine .inr (.inl ⟨hc, h1, h2, ?_⟩)
    simp [numB, hm, hc, tagged, szc, row8]
  · refine .inr (.inr (.inl ⟨hc, h1, h2, ?_⟩))
    simp [numB, hm, hc, tagged, szc]
  · refine .inr (.inr (.inr ⟨hc, h1, ?_⟩))
    simp [numB, hm, hc, tagged, szc]

theorem val_append : ∀ l m : List Nat, val (l ++ m) = val l * 256 ^ m.length + val m
  | [], m => by simp [val]
  | x :: l, m => by
    have ih := val_append l m
    simp only [List.cons_append, val, ih, List.length_append, Nat.pow_add, Nat.add_mul, Nat.mul_assoc, Nat.add_assoc]
def r4 (T : Nat) : List Nat := [T / 16777216 % 256, T / 65536 % 256, T / 256 % 256, T % 256]
theorem val_r4 (T : Nat) : val (r4 T) = T % 4294967296 := by
  simp only [r4, val, List.length_cons, List.length_nil]
  omega
theorem row8_r4 (T : Nat) : row8 T = r4 (T / 4294967296) ++ r4 T := by
  simp [row8, r4, Nat.div_div_eq_div_mul]
theorem val_row8 (T : Nat) (h : T < 18446744073709551616) : val (row8 T) = T := by
  rw [row8_r4, val_append, val_r4, val_r4]
  rw [show (r4 T).length = 4 from rfl, show (256 : Nat) ^ 4 = 4294967296 from by decide]
  omega
theorem val_row4 (T : Nat) (h : T < 4294967296) : val ((row8 T).drop 4) = T := by
  simp only [row8, List.drop_succ_cons, List.drop_zero, val, List.length_cons, List.length_nil]
  omega
theorem numB_less (n m : Nat) (h : n < m) (hm : m < 4611686018427387904) : lexN (numB n) (numB m) = true := by
  have e4 : ∀ T, (row8 T).drop 4 = [T / 16777216 % 256, T / 65536 % 256, T / 256 % 256, T % 256] := fun T => rfl
  rcases numB_form n (by omega) with ⟨c1, a1, f1⟩ | ⟨c1, a1, b1, f1⟩ | ⟨c1, a1, b1, f1⟩ | ⟨c1, a1, f1⟩ <;> rcases numB_form m hm with ⟨c2, a2, f2⟩ | ⟨c2, a2, b2, f2⟩ | ⟨c2, a2, b2, f2⟩ | ⟨c2, a2, f2⟩ <;> try omega
  · rw [f1, f2]; exact lexN_head _ _ _ _ h
  · rw [f1, f2]; exact lexN_head _ _ _ _ (by omega)
  · rw [f1, f2, e4]; exact lexN_head _ _ _ _ (by omega)
  · rw [f1, f2, row8]; exact lexN_head _ _ _ _ (by omega)
  · refine lexN_val _ _ (by rw [f1, f2]; simp) (numB_lt n) (numB_lt m) ?_
    rw [f1, f2]
    simp only [val, List.length_cons, List.length_nil]
    omega
  · rw [f1, f2, e4]; exact lexN_head _ _ _ _ (by omega)
  · rw [f1, f2, row8]; exact lexN_head _ _ _ _ (by omega)
  · refine lexN_val _ _ (by rw [f1, f2]; simp [length_row8]) (numB_lt n) (numB_lt m) ?_
    rw [f1, f2, val_row4 _ (by omega), val_row4 _ (by omega)]
    omega
  · rw [f1, f2, e4, row8]; exact lexN_head _ _ _ _ (by omega)
  · refine lexN_val _ _ (by rw [f1, f2]; simp [length_row8]) (numB_lt n) (numB_lt m) ?_
    rw [f1, f2, val_row8 _ (by omega), val_row8 _ (by omega)]
    omega
theorem numB_ne (n m : Nat) (h : n < m) (hm : m < 4611686018427387904) : numB n ≠ numB m := by
  intro e
  have := numB_less n m h hm
  rw [e, lexN_irrefl] at this
  cases this
theorem len_mono (n m : Nat) (h : n ≤ m) (hm : m < 4611686018427387904) : (numB n).length ≤ (numB m).length := by
  rw [length_numB, length_numB, show n % pow62 = n from Nat.mod_eq_of_lt (by unfold pow62; omega), show m % pow62 = m from Nat.mod_eq_of_lt (by unfold pow62; omega)]
  rcases cls_ways n with ⟨h1, hc⟩ | ⟨h1, h2, hc⟩ | ⟨h1, h2, hc⟩ | ⟨h1, hc⟩ <;> rcases cls_ways m with ⟨h3, hd⟩ | ⟨h3, h4, hd⟩ | ⟨h3, h4, hd⟩ | ⟨h3, hd⟩ <;> rw [hc, hd] <;> first | (simp [szc]; done) | (exfalso; omega)
end Go.Proofs.YtmmdkoomceikiaaDoor
