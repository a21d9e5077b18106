/-
  The document's own 'one' at a number: by its contract. Condition: the text is shorter than 2^46 bytes.
-/
import Derived.Test.YtmebcenjghagoaaGreatDoorRefW
namespace Go.Proofs.YtmebcenjghagoaaGreatDoor
open Go.RowKit

theorem numS_ge (s : ByteArray) (base : Int) (p : Nat) (n : Int) : p ≤ (numS s base p n).2 := by
  induction h : s.size - p generalizing p n with
  | zero => rw [numS, if_neg (by omega)]; exact Nat.le_refl _
  | succ k ih =>
    rw [numS]
    split
    · have := ih (p + 1) (capS (n * base + hexS (bAt s p))) (by omega)
      omega
    · exact Nat.le_refl _
theorem numS_le (s : ByteArray) (base : Int) (p : Nat) (n : Int) (hp : p ≤ s.size) : (numS s base p n).2 ≤ s.size := by
  induction h : s.size - p generalizing p n with
  | zero => rw [numS, if_neg (by omega)]; exact hp
  | succ k ih =>
    rw [numS]
    split
    · exact ih (p + 1) _ (by omega) (by omega)
    · exact hp
/-- 0x begins at p. -/
def isX (s : ByteArray) (p : Nat) : Bool := bAt s p == 48 && (decide (p + 1 < s.size) && bAt s (p + 1) == 120)
/-- A number's value and its end. -/
def numE (s : ByteArray) (p : Nat) : Int × Nat := if isX s p = true then numS s 16 (p + 2) 0 else numS s 10 p 0
/-- A letter or a digit stands at p. -/
def isW (s : ByteArray) (p : Nat) : Bool := decide (p < s.size) && (isL (bAt s p) || isD (bAt s p))
/-- What 'one' answers at a number. -/
def digitV (s : ByteArray) (p : Nat) : Value := .tuple (
  if isX s p = true ∧ (numE s p).2 = p + 2 then #[tokV 0 p (lineS s p) ByteArray.empty 0, fltV 7 (p + 2)]
  else if 4294967296 ≤ (numE s p).1 then #[tokV 0 p (lineS s p) ByteArray.empty 0, fltV 10 p]
  else if isW s (numE s p).2 = true then #[tokV 0 p (lineS s p) ByteArray.empty 0, fltV 7 (numE s p).2]
  else #[tokV 2 p (lineS s p) (s.extract p (numE s p).2) (numE s p).1, fltV 0 0])
theorem digitV_x (s : ByteArray) (p : Nat) (h : isX s p = true) (h2 : (numE s p).2 = p + 2) : digitV s p = .tuple #[.agg #[.int .i64 0, .int .i64 (p : Int), .int .i64 ((lineS s p : Nat) : Int), .string ⟨#[]⟩, .int .i64 0], .agg #[.int .i64 7, .int .i64 ((p : Int) + 2)]] := by
  unfold digitV; rw [if_pos ⟨h, h2⟩]; rfl
theorem digitV_n (s : ByteArray) (p e : Nat) (n : Int) (hn : numE s p = (n, e)) (h : ¬ (isX s p = true ∧ e = p + 2)) (h2 : 4294967296 ≤ n) : digitV s p = .tuple #[.agg #[.int .i64 0, .int .i64 (p : Int), .int .i64 ((lineS s p : Nat) : Int), .string ⟨#[]⟩, .int .i64 0], .agg #[.int .i64 10, .int .i64 (p : Int)]] := by
  unfold digitV; rw [hn, if_neg h, if_pos h2]; rfl
theorem digitV_w (s : ByteArray) (p e : Nat) (n : Int) (hn : numE s p = (n, e)) (h : ¬ (isX s p = true ∧ e = p + 2)) (h2 : ¬ 4294967296 ≤ n) (h3 : isW s e = true) : digitV s p = .tuple #[.agg #[.int .i64 0, .int .i64 (p : Int), .int .i64 ((lineS s p : Nat) : Int), .string ⟨#[]⟩, .int .i64 0], .agg #[.int .i64 7, .int .i64 (e : Int)]] := by
  unfold digitV; rw [hn, if_neg h, if_neg h2, if_pos h3]; rfl
theorem digitV_t (s : ByteArray) (p e : Nat) (n : Int) (hn : numE s p = (n, e)) (h : ¬ (isX s p = true ∧ e = p + 2)) (h2 : ¬ 4294967296 ≤ n) (h3 : isW s e = false) : digitV s p = .tuple #[.agg #[.int .i64 2, .int .i64 (p : Int), .int .i64 ((lineS s p : Nat) : Int), .string (s.extract p e), .int .i64 n], .agg #[.int .i64 0, .int .i64 0]] := by
  unfold digitV; rw [hn, if_neg h, if_neg h2, if_neg (by simp [h3])]; rfl
theorem isW_ways (s : ByteArray) (e : Nat) : (e < s.size ∧ isL (bAt s e) = true ∧ isW s e = true) ∨ (e < s.size ∧ isL (bAt s e) = false ∧ isD (bAt s e) = true ∧ isW s e = true) ∨ (e < s.size ∧ isL (bAt s e) = false ∧ isD (bAt s e) = false ∧ isW s e = false) ∨ (¬ e < s.size ∧ isW s e = false) := by
  by_cases h : e < s.size
  · cases hl : isL (bAt s e)
    · cases hd : isD (bAt s e)
      · exact Or.inr (Or.inr (Or.inl ⟨h, rfl, rfl, by simp [isW, hl, hd]⟩))
      · exact Or.inr (Or.inl ⟨h, rfl, rfl, by simp [isW, h, hd]⟩)
    · exact Or.inl ⟨h, rfl, by simp [isW, h, hl]⟩
  · exact Or.inr (Or.inr (Or.inr ⟨h, by simp [isW, h]⟩))
set_option maxRecDepth 100000 in
set_option maxHeartbeats 8000000 in
theorem rone_dec1 (s : ByteArray) (p : Nat) (w : World) (hs : s.size ≤ 70368744177664) (hp : p < s.size) (hL : isL (bAt s p) = false) (hD : isD (bAt s p) = true) (h1 : bAt s p ≠ 48) :
    Calls Tryz.prog 44 #[.string s, .int .i64 (p : Int)] w fun e w' => e = .returned (digitV s p) ∧ Below w.heap.size w w' := by
  have HLi := Lib.hid (fun w => rLine_any s (p : Int) w hs (by omega))
  have HLe := Lib.hid rLetter_any
  have HDi := Lib.hid rDigit_any
  have H10 := Lib.hid (fun w => rnumber_10 s p w hs (by omega))
  have hbb := bAt_eq s p hp
  have tok1 : True := trivial
  have hx : isX s p = false := by simp [isX, h1]
  have k1 : ((bAt s p : Int) == 48) = false := by simp; omega
  clear h1
  have hge := numS_ge s 10 p 0
  have hle := numS_le s 10 p 0 (by omega)
  have hne : numE s p = numS s 10 p 0 := by unfold numE; rw [if_neg (by simp [hx])]
  obtain ⟨⟨n, e⟩, hn⟩ : ∃ r, numS s 10 p 0 = r := ⟨_, rfl⟩
  rw [hn] at H10 hge hle hne
  have HNE := Lib.hid hne
  have HX : Hid (¬ (isX s p = true ∧ e = p + 2)) := Lib.hid (fun h => by rw [hx] at h; exact absurd h.1 (by simp))
  simp only at hge hle
  clear hn hne hx
  by_cases hbig : 4294967296 ≤ n
  · have HV := Lib.hid (digitV_n s p e n HNE.out HX.out hbig)
    have k9 : decide (4294967296 ≤ n) = true := by simp; omega
    go_enter Tryz.func44, Tryz.ntmps44
    go_wp2_with (first | (go_at_call 11; refine (HLi.out _).mono ?_; rintro e w' ⟨rfl, rfl⟩) | (go_at_call 18; refine (HLe.out _ _).mono ?_; rintro e w' ⟨rfl, rfl⟩) | (go_at_call 17; refine (HDi.out _ _).mono ?_; rintro e w' ⟨rfl, rfl⟩) | (go_at_call 61; have _t := tok1; refine (H10.out _).mono ?_; rintro e w' ⟨rfl, rfl⟩; clear tok1 _t))
    refine bodyPost_ret (v := .tuple #[.agg #[.int .i64 0, .int .i64 (p : Int), .int .i64 ((lineS s p : Nat) : Int), .string ⟨#[]⟩, .int .i64 0], .agg #[.int .i64 10, .int .i64 (p : Int)]]) (by simp [results, Tryz.results44, go_sem]) rfl ⟨by rw [HV.out], ?_⟩
    exact (((Below.refl _ _).alloc (Nat.le_refl _) _).alloc (by simp) _).alloc (by simp; omega) _
  have k9 : decide (4294967296 ≤ n) = false := by simp; omega
  rcases isW_ways s e with ⟨h1, h2, hw⟩ | ⟨h1, h2, h3, hw⟩ | ⟨h1, h2, h3, hw⟩ | ⟨h1, hw⟩
  · have HV := Lib.hid (digitV_w s p e n HNE.out HX.out hbig hw)
    have hbe := bAt_eq s e h1
    clear hw hbig
    go_enter Tryz.func44, Tryz.ntmps44
    go_wp2_with (first | (go_at_call 11; refine (HLi.out _).mono ?_; rintro e w' ⟨rfl, rfl⟩) | (go_at_call 18; refine (HLe.out _ _).mono ?_; rintro e w' ⟨rfl, rfl⟩) | (go_at_call 17; refine (HDi.out _ _).mono ?_; rintro e w' ⟨rfl, rfl⟩) | (go_at_call 61; have _t := tok1; refine (H10.out _).mono ?_; rintro e w' ⟨rfl, rfl⟩; clear tok1 _t))
    refine bodyPost_ret (v := .tuple #[.agg #[.int .i64 0, .int .i64 (p : Int), .int .i64 ((lineS s p : Nat) : Int), .string ⟨#[]⟩, .int .i64 0], .agg #[.int .i64 7, .int .i64 (e : Int)]]) (by simp [results, Tryz.results44, go_sem]) rfl ⟨by rw [HV.out], ?_⟩
    exact (((Below.refl _ _).alloc (Nat.le_refl _) _).alloc (by simp) _).alloc (by simp; omega) _
  · have HV := Lib.hid (digitV_w s p e n HNE.out HX.out hbig hw)
    have hbe := bAt_eq s e h1
    clear hw hbig
    go_enter Tryz.func44, Tryz.ntmps44
    go_wp2_with (first | (go_at_call 11; refine (HLi.out _).mono ?_; rintro e w' ⟨rfl, rfl⟩) | (go_at_call 18; refine (HLe.out _ _).mono ?_; rintro e w' ⟨rfl, rfl⟩) | (go_at_call 17; refine (HDi.out _ _).mono ?_; rintro e w' ⟨rfl, rfl⟩) | (go_at_call 61; have _t := tok1; refine (H10.out _).mono ?_; rintro e w' ⟨rfl, rfl⟩; clear tok1 _t))
    refine bodyPost_ret (v := .tuple #[.agg #[.int .i64 0, .int .i64 (p : Int), .int .i64 ((lineS s p : Nat) : Int), .string ⟨#[]⟩, .int .i64 0], .agg #[.int .i64 7, .int .i64 (e : Int)]]) (by simp [results, Tryz.results44, go_sem]) rfl ⟨by rw [HV.out], ?_⟩
    exact (((Below.refl _ _).alloc (Nat.le_refl _) _).alloc (by simp) _).alloc (by simp; omega) _
  · have HV := Lib.hid (digitV_t s p e n HNE.out HX.out hbig hw)
    have hbe := bAt_eq s e h1
    clear hw hbig
    go_enter Tryz.func44, Tryz.ntmps44
    go_wp2_with (first | (go_at_call 11; refine (HLi.out _).mono ?_; rintro e w' ⟨rfl, rfl⟩) | (go_at_call 18; refine (HLe.out _ _).mono ?_; rintro e w' ⟨rfl, rfl⟩) | (go_at_call 17; refine (HDi.out _ _).mono ?_; rintro e w' ⟨rfl, rfl⟩) | (go_at_call 61; have _t := tok1; refine (H10.out _).mono ?_; rintro e w' ⟨rfl, rfl⟩; clear tok1 _t))
    refine bodyPost_ret (v := .tuple #[.agg #[.int .i64 2, .int .i64 (p : Int), .int .i64 ((lineS s p : Nat) : Int), .string (s.extract p e), .int .i64 n], .agg #[.int .i64 0, .int .i64 0]]) (by simp [results, Tryz.results44, go_sem]) rfl ⟨by rw [HV.out], ?_⟩
    exact (((Below.refl _ _).alloc (Nat.le_refl _) _).alloc (by simp) _).alloc (by simp; omega) _
  · have HV := Lib.hid (digitV_t s p e n HNE.out HX.out hbig hw)
    clear hw hbig
    go_enter Tryz.func44, Tryz.ntmps44
    go_wp2_with (first | (go_at_call 11; refine (HLi.out _).mono ?_; rintro e w' ⟨rfl, rfl⟩) | (go_at_call 18; refine (HLe.out _ _).mono ?_; rintro e w' ⟨rfl, rfl⟩) | (go_at_call 17; refine (HDi.out _ _).mono ?_; rintro e w' ⟨rfl, rfl⟩) | (go_at_call 61; have _t := tok1; refine (H10.out _).mono ?_; rintro e w' ⟨rfl, rfl⟩; clear tok1 _t))
    refine bodyPost_ret (v := .tuple #[.agg #[.int .i64 2, .int .i64 (p : Int), .int .i64 ((lineS s p : Nat) : Int), .string (s.extract p e), .int .i64 n], .agg #[.int .i64 0, .int .i64 0]]) (by simp [results, Tryz.results44, go_sem]) rfl ⟨by rw [HV.out], ?_⟩
    exact (((Below.refl _ _).alloc (Nat.le_refl _) _).alloc (by simp) _).alloc (by simp; omega) _
set_option maxRecDepth 100000 in
set_option maxHeartbeats 8000000 in
theorem rone_dec2 (s : ByteArray) (p : Nat) (w : World) (hs : s.size ≤ 70368744177664) (hp : p < s.size) (hL : isL (bAt s p) = false) (hD : isD (bAt s p) = true) (h1 : bAt s p = 48) (h2 : ¬ p + 1 < s.size) :
    Calls Tryz.prog 44 #[.string s, .int .i64 (p : Int)] w fun e w' => e = .returned (digitV s p) ∧ Below w.heap.size w w' := by
  have HLi := Lib.hid (fun w => rLine_any s (p : Int) w hs (by omega))
  have HLe := Lib.hid rLetter_any
  have HDi := Lib.hid rDigit_any
  have H10 := Lib.hid (fun w => rnumber_10 s p w hs (by omega))
  have hbb := bAt_eq s p hp
  have tok1 : True := trivial
  have hx : isX s p = false := by simp [isX, h2]
  have k1 : ((bAt s p : Int) == 48) = true := by simp; omega
  have k2 : ¬ (p : Int) + 1 < (s.size : Int) := by omega
  clear h1 h2
  have hge := numS_ge s 10 p 0
  have hle := numS_le s 10 p 0 (by omega)
  have hne : numE s p = numS s 10 p 0 := by unfold numE; rw [if_neg (by simp [hx])]
  obtain ⟨⟨n, e⟩, hn⟩ : ∃ r, numS s 10 p 0 = r := ⟨_, rfl⟩
  rw [hn] at H10 hge hle hne
  have HNE := Lib.hid hne
  have HX : Hid (¬ (isX s p = true ∧ e = p + 2)) := Lib.hid (fun h => by rw [hx] at h; exact absurd h.1 (by simp))
  simp only at hge hle
  clear hn hne hx
  by_cases hbig : 4294967296 ≤ n
  · have HV := Lib.hid (digitV_n s p e n HNE.out HX.out hbig)
    have k9 : decide (4294967296 ≤ n) = true := by simp; omega
    go_enter Tryz.func44, Tryz.ntmps44
    go_wp2_with (first | (go_at_call 11; refine (HLi.out _).mono ?_; rintro e w' ⟨rfl, rfl⟩) | (go_at_call 18; refine (HLe.out _ _).mono ?_; rintro e w' ⟨rfl, rfl⟩) | (go_at_call 17; refine (HDi.out _ _).mono ?_; rintro e w' ⟨rfl, rfl⟩) | (go_at_call 61; have _t := tok1; refine (H10.out _).mono ?_; rintro e w' ⟨rfl, rfl⟩; clear tok1 _t))
    refine bodyPost_ret (v := .tuple #[.agg #[.int .i64 0, .int .i64 (p : Int), .int .i64 ((lineS s p : Nat) : Int), .string ⟨#[]⟩, .int .i64 0], .agg #[.int .i64 10, .int .i64 (p : Int)]]) (by simp [results, Tryz.results44, go_sem]) rfl ⟨by rw [HV.out], ?_⟩
    exact (((Below.refl _ _).alloc (Nat.le_refl _) _).alloc (by simp) _).alloc (by simp; omega) _
  have k9 : decide (4294967296 ≤ n) = false := by simp; omega
  rcases isW_ways s e with ⟨h1, h2, hw⟩ | ⟨h1, h2, h3, hw⟩ | ⟨h1, h2, h3, hw⟩ | ⟨h1, hw⟩
  · have HV := Lib.hid (digitV_w s p e n HNE.out HX.out hbig hw)
    have hbe := bAt_eq s e h1
    clear hw hbig
    go_enter Tryz.func44, Tryz.ntmps44
    go_wp2_with (first | (go_at_call 11; refine (HLi.out _).mono ?_; rintro e w' ⟨rfl, rfl⟩) | (go_at_call 18; refine (HLe.out _ _).mono ?_; rintro e w' ⟨rfl, rfl⟩) | (go_at_call 17; refine (HDi.out _ _).mono ?_; rintro e w' ⟨rfl, rfl⟩) | (go_at_call 61; have _t := tok1; refine (H10.out _).mono ?_; rintro e w' ⟨rfl, rfl⟩; clear tok1 _t))
    refine bodyPost_ret (v := .tuple #[.agg #[.int .i64 0, .int .i64 (p : Int), .int .i64 ((lineS s p : Nat) : Int), .string ⟨#[]⟩, .int .i64 0], .agg #[.int .i64 7, .int .i64 (e : Int)]]) (by simp [results, Tryz.results44, go_sem]) rfl ⟨by rw [HV.out], ?_⟩
    exact (((Below.refl _ _).alloc (Nat.le_refl _) _).alloc (by simp) _).alloc (by simp; omega) _
  · have HV := Lib.hid (digitV_w s p e n HNE.out HX.out hbig hw)
    have hbe := bAt_eq s e h1
    clear hw hbig
    go_enter Tryz.func44, Tryz.ntmps44
    go_wp2_with (first | (go_at_call 11; refine (HLi.out _).mono ?_; rintro e w' ⟨rfl, rfl⟩) | (go_at_call 18; refine (HLe.out _ _).mono ?_; rintro e w' ⟨rfl, rfl⟩) | (go_at_call 17; refine (HDi.out _ _).mono ?_; rintro e w' ⟨rfl, rfl⟩) | (go_at_call 61; have _t := tok1; refine (H10.out _).mono ?_; rintro e w' ⟨rfl, rfl⟩; clear tok1 _t))
    refine bodyPost_ret (v := .tuple #[.agg #[.int .i64 0, .int .i64 (p : Int), .int .i64 ((lineS s p : Nat) : Int), .string ⟨#[]⟩, .int .i64 0], .agg #[.int .i64 7, .int .i64 (e : Int)]]) (by simp [results, Tryz.results44, go_sem]) rfl ⟨by rw [HV.out], ?_⟩
    exact (((Below.refl _ _).alloc (Nat.le_refl _) _).alloc (by simp) _).alloc (by simp; omega) _
  · have HV := Lib.hid (digitV_t s p e n HNE.out HX.out hbig hw)
    have hbe := bAt_eq s e h1
    clear hw hbig
    go_enter Tryz.func44, Tryz.ntmps44
    go_wp2_with (first | (go_at_call 11; refine (HLi.out _).mono ?_; rintro e w' ⟨rfl, rfl⟩) | (go_at_call 18; refine (HLe.out _ _).mono ?_; rintro e w' ⟨rfl, rfl⟩) | (go_at_call 17; refine (HDi.out _ _).mono ?_; rintro e w' ⟨rfl, rfl⟩) | (go_at_call 61; have _t := tok1; refine (H10.out _).mono ?_; rintro e w' ⟨rfl, rfl⟩; clear tok1 _t))
    refine bodyPost_ret (v := .tuple #[.agg #[.int .i64 2, .int .i64 (p : Int), .int .i64 ((lineS s p : Nat) : Int), .string (s.extract p e), .int .i64 n], .agg #[.int .i64 0, .int .i64 0]]) (by simp [results, Tryz.results44, go_sem]) rfl ⟨by rw [HV.out], ?_⟩
    exact (((Below.refl _ _).alloc (Nat.le_refl _) _).alloc (by simp) _).alloc (by simp; omega) _
  · have HV := Lib.hid (digitV_t s p e n HNE.out HX.out hbig hw)
    clear hw hbig
    go_enter Tryz.func44, Tryz.ntmps44
    go_wp2_with (first | (go_at_call 11; refine (HLi.out _).mono ?_; rintro e w' ⟨rfl, rfl⟩) | (go_at_call 18; refine (HLe.out _ _).mono ?_; rintro e w' ⟨rfl, rfl⟩) | (go_at_call 17; refine (HDi.out _ _).mono ?_; rintro e w' ⟨rfl, rfl⟩) | (go_at_call 61; have _t := tok1; refine (H10.out _).mono ?_; rintro e w' ⟨rfl, rfl⟩; clear tok1 _t))
    refine bodyPost_ret (v := .tuple #[.agg #[.int .i64 2, .int .i64 (p : Int), .int .i64 ((lineS s p : Nat) : Int), .string (s.extract p e), .int .i64 n], .agg #[.int .i64 0, .int .i64 0]]) (by simp [results, Tryz.results44, go_sem]) rfl ⟨by rw [HV.out], ?_⟩
    exact (((Below.refl _ _).alloc (Nat.le_refl _) _).alloc (by simp) _).alloc (by simp; omega) _
set_option maxRecDepth 100000 in
set_option maxHeartbeats 8000000 in
theorem rone_dec3 (s : ByteArray) (p : Nat) (w : World) (hs : s.size ≤ 70368744177664) (hp : p < s.size) (hL : isL (bAt s p) = false) (hD : isD (bAt s p) = true) (h1 : bAt s p = 48) (h2 : p + 1 < s.size) (h3 : bAt s (p + 1) ≠ 120) :
    Calls Tryz.prog 44 #[.string s, .int .i64 (p : Int)] w fun e w' => e = .returned (digitV s p) ∧ Below w.heap.size w w' := by
  have HLi := Lib.hid (fun w => rLine_any s (p : Int) w hs (by omega))
  have HLe := Lib.hid rLetter_any
  have HDi := Lib.hid rDigit_any
  have H10 := Lib.hid (fun w => rnumber_10 s p w hs (by omega))
  have hbb := bAt_eq s p hp
  have tok1 : True := trivial
  have hx : isX s p = false := by simp [isX, h3]
  have k1 : ((bAt s p : Int) == 48) = true := by simp; omega
  have hb2 := bAt_eq s (p + 1) h2
  have k3 : ((bAt s (p + 1) : Int) == 120) = false := by simp; omega
  clear h1 h3
  have hge := numS_ge s 10 p 0
  have hle := numS_le s 10 p 0 (by omega)
  have hne : numE s p = numS s 10 p 0 := by unfold numE; rw [if_neg (by simp [hx])]
  obtain ⟨⟨n, e⟩, hn⟩ : ∃ r, numS s 10 p 0 = r := ⟨_, rfl⟩
  rw [hn] at H10 hge hle hne
  have HNE := Lib.hid hne
  have HX : Hid (¬ (isX s p = true ∧ e = p + 2)) := Lib.hid (fun h => by rw [hx] at h; exact absurd h.1 (by simp))
  simp only at hge hle
  clear hn hne hx
  by_cases hbig : 4294967296 ≤ n
  · have HV := Lib.hid (digitV_n s p e n HNE.out HX.out hbig)
    have k9 : decide (4294967296 ≤ n) = true := by simp; omega
    go_enter Tryz.func44, Tryz.ntmps44
    go_wp2_with (first | (go_at_call 11; refine (HLi.out _).mono ?_; rintro e w' ⟨rfl, rfl⟩) | (go_at_call 18; refine (HLe.out _ _).mono ?_; rintro e w' ⟨rfl, rfl⟩) | (go_at_call 17; refine (HDi.out _ _).mono ?_; rintro e w' ⟨rfl, rfl⟩) | (go_at_call 61; have _t := tok1; refine (H10.out _).mono ?_; rintro e w' ⟨rfl, rfl⟩; clear tok1 _t))
    refine bodyPost_ret (v := .tuple #[.agg #[.int .i64 0, .int .i64 (p : Int), .int .i64 ((lineS s p : Nat) : Int), .string ⟨#[]⟩, .int .i64 0], .agg #[.int .i64 10, .int .i64 (p : Int)]]) (by simp [results, Tryz.results44, go_sem]) rfl ⟨by rw [HV.out], ?_⟩
    exact (((Below.refl _ _).alloc (Nat.le_refl _) _).alloc (by simp) _).alloc (by simp; omega) _
  have k9 : decide (4294967296 ≤ n) = false := by simp; omega
  rcases isW_ways s e with ⟨h1, h2, hw⟩ | ⟨h1, h2, h3, hw⟩ | ⟨h1, h2, h3, hw⟩ | ⟨h1, hw⟩
  · have HV := Lib.hid (digitV_w s p e n HNE.out HX.out hbig hw)
    have hbe := bAt_eq s e h1
    clear hw hbig
    go_enter Tryz.func44, Tryz.ntmps44
    go_wp2_with (first | (go_at_call 11; refine (HLi.out _).mono ?_; rintro e w' ⟨rfl, rfl⟩) | (go_at_call 18; refine (HLe.out _ _).mono ?_; rintro e w' ⟨rfl, rfl⟩) | (go_at_call 17; refine (HDi.out _ _).mono ?_; rintro e w' ⟨rfl, rfl⟩) | (go_at_call 61; have _t := tok1; refine (H10.out _).mono ?_; rintro e w' ⟨rfl, rfl⟩; clear tok1 _t))
    refine bodyPost_ret (v := .tuple #[.agg #[.int .i64 0, .int .i64 (p : Int), .int .i64 ((lineS s p : Nat) : Int), .string ⟨#[]⟩, .int .i64 0], .agg #[.int .i64 7, .int .i64 (e : Int)]]) (by simp [results, Tryz.results44, go_sem]) rfl ⟨by rw [HV.out], ?_⟩
    exact (((Below.refl _ _).alloc (Nat.le_refl _) _).alloc (by simp) _).alloc (by simp; omega) _
  · have HV := Lib.hid (digitV_w s p e n HNE.out HX.out hbig hw)
    have hbe := bAt_eq s e h1
    clear hw hbig
    go_enter Tryz.func44, Tryz.ntmps44
    go_wp2_with (first | (go_at_call 11; refine (HLi.out _).mono ?_; rintro e w' ⟨rfl, rfl⟩) | (go_at_call 18; refine (HLe.out _ _).mono ?_; rintro e w' ⟨rfl, rfl⟩) | (go_at_call 17; refine (HDi.out _ _).mono ?_; rintro e w' ⟨rfl, rfl⟩) | (go_at_call 61; have _t := tok1; refine (H10.out _).mono ?_; rintro e w' ⟨rfl, rfl⟩; clear tok1 _t))
    refine bodyPost_ret (v := .tuple #[.agg #[.int .i64 0, .int .i64 (p : Int), .int .i64 ((lineS s p : Nat) : Int), .string ⟨#[]⟩, .int .i64 0], .agg #[.int .i64 7, .int .i64 (e : Int)]]) (by simp [results, Tryz.results44, go_sem]) rfl ⟨by rw [HV.out], ?_⟩
    exact (((Below.refl _ _).alloc (Nat.le_refl _) _).alloc (by simp) _).alloc (by simp; omega) _
  · have HV := Lib.hid (digitV_t s p e n HNE.out HX.out hbig hw)
    have hbe := bAt_eq s e h1
    clear hw hbig
    go_enter Tryz.func44, Tryz.ntmps44
    go_wp2_with (first | (go_at_call 11; refine (HLi.out _).mono ?_; rintro e w' ⟨rfl, rfl⟩) | (go_at_call 18; refine (HLe.out _ _).mono ?_; rintro e w' ⟨rfl, rfl⟩) | (go_at_call 17; refine (HDi.out _ _).mono ?_; rintro e w' ⟨rfl, rfl⟩) | (go_at_call 61; have _t := tok1; refine (H10.out _).mono ?_; rintro e w' ⟨rfl, rfl⟩; clear tok1 _t))
    refine bodyPost_ret (v := .tuple #[.agg #[.int .i64 2, .int .i64 (p : Int), .int .i64 ((lineS s p : Nat) : Int), .string (s.extract p e), .int .i64 n], .agg #[.int .i64 0, .int .i64 0]]) (by simp [results, Tryz.results44, go_sem]) rfl ⟨by rw [HV.out], ?_⟩
    exact (((Below.refl _ _).alloc (Nat.le_refl _) _).alloc (by simp) _).alloc (by simp; omega) _
  · have HV := Lib.hid (digitV_t s p e n HNE.out HX.out hbig hw)
    clear hw hbig
    go_enter Tryz.func44, Tryz.ntmps44
    go_wp2_with (first | (go_at_call 11; refine (HLi.out _).mono ?_; rintro e w' ⟨rfl, rfl⟩) | (go_at_call 18; refine (HLe.out _ _).mono ?_; rintro e w' ⟨rfl, rfl⟩) | (go_at_call 17; refine (HDi.out _ _).mono ?_; rintro e w' ⟨rfl, rfl⟩) | (go_at_call 61; have _t := tok1; refine (H10.out _).mono ?_; rintro e w' ⟨rfl, rfl⟩; clear tok1 _t))
    refine bodyPost_ret (v := .tuple #[.agg #[.int .i64 2, .int .i64 (p : Int), .int .i64 ((lineS s p : Nat) : Int), .string (s.extract p e), .int .i64 n], .agg #[.int .i64 0, .int .i64 0]]) (by simp [results, Tryz.results44, go_sem]) rfl ⟨by rw [HV.out], ?_⟩
    exact (((Below.refl _ _).alloc (Nat.le_refl _) _).alloc (by simp) _).alloc (by simp; omega) _
set_option maxRecDepth 100000 in
set_option maxHeartbeats 8000000 in
theorem rone_hex (s : ByteArray) (p : Nat) (w : World) (hs : s.size ≤ 70368744177664) (hp : p < s.size) (hL : isL (bAt s p) = false) (hD : isD (bAt s p) = true) (h1 : bAt s p = 48) (h2 : p + 1 < s.size) (h3 : bAt s (p + 1) = 120) :
    Calls Tryz.prog 44 #[.string s, .int .i64 (p : Int)] w fun e w' => e = .returned (digitV s p) ∧ Below w.heap.size w w' := by
  have HLi := Lib.hid (fun w => rLine_any s (p : Int) w hs (by omega))
  have HLe := Lib.hid rLetter_any
  have HDi := Lib.hid rDigit_any
  have H10 := Lib.hid (fun w => rnumber_10 s p w hs (by omega))
  have hbb := bAt_eq s p hp
  have tok1 : True := trivial
  have hx : isX s p = true := by simp [isX, h1, h2, h3]
  have k1 : ((bAt s p : Int) == 48) = true := by simp; omega
  have hb2 := bAt_eq s (p + 1) h2
  have k3 : ((bAt s (p + 1) : Int) == 120) = true := by simp; omega
  have H16 := Lib.hid (fun w => rnumber_16 s (p + 2) w hs (by omega))
  have hge := numS_ge s 16 (p + 2) 0
  have hle := numS_le s 16 (p + 2) 0 (by omega)
  have hne : numE s p = numS s 16 (p + 2) 0 := by unfold numE; rw [if_pos hx]
  obtain ⟨⟨n, e⟩, hn⟩ : ∃ r, numS s 16 (p + 2) 0 = r := ⟨_, rfl⟩
  rw [hn] at H16 hge hle hne
  rw [show ((p + 2 : Nat) : Int) = (p : Int) + 2 from by omega] at H16
  have HNE := Lib.hid hne
  simp only at hge hle
  obtain ⟨⟨n0, e0⟩, hn0⟩ : ∃ r, numS s 10 p 0 = r := ⟨_, rfl⟩
  rw [hn0] at H10
  clear hn hne h1 h3 hn0
  by_cases hee : e = p + 2
  · subst hee
    have HV := Lib.hid (digitV_x s p hx (by rw [HNE.out]))
    clear hx
    go_enter Tryz.func44, Tryz.ntmps44
    go_wp2_with (first | (go_at_call 11; refine (HLi.out _).mono ?_; rintro e w' ⟨rfl, rfl⟩) | (go_at_call 18; refine (HLe.out _ _).mono ?_; rintro e w' ⟨rfl, rfl⟩) | (go_at_call 17; refine (HDi.out _ _).mono ?_; rintro e w' ⟨rfl, rfl⟩) | (go_at_call 61; have _t := tok1; refine (H10.out _).mono ?_; rintro e w' ⟨rfl, rfl⟩; clear tok1 _t) | (go_at_call 61; refine (H16.out _).mono ?_; rintro e w' ⟨rfl, rfl⟩))
    refine bodyPost_ret (v := .tuple #[.agg #[.int .i64 0, .int .i64 (p : Int), .int .i64 ((lineS s p : Nat) : Int), .string ⟨#[]⟩, .int .i64 0], .agg #[.int .i64 7, .int .i64 ((p : Int) + 2)]]) (by simp [results, Tryz.results44, go_sem]) rfl ⟨by rw [HV.out], ?_⟩
    exact (((Below.refl _ _).alloc (Nat.le_refl _) _).alloc (by simp) _).alloc (by simp; omega) _
  have HX : Hid (¬ (isX s p = true ∧ e = p + 2)) := Lib.hid (fun h => hee h.2)
  have k4 : ((e : Int) == (p : Int) + 2) = false := by rw [beq_eq_false_iff_ne]; omega
  clear hx hee
  by_cases hbig : 4294967296 ≤ n
  · have HV := Lib.hid (digitV_n s p e n HNE.out HX.out hbig)
    have k9 : decide (4294967296 ≤ n) = true := by simp; omega
    go_enter Tryz.func44, Tryz.ntmps44
    go_wp2_with (first | (go_at_call 11; refine (HLi.out _).mono ?_; rintro e w' ⟨rfl, rfl⟩) | (go_at_call 18; refine (HLe.out _ _).mono ?_; rintro e w' ⟨rfl, rfl⟩) | (go_at_call 17; refine (HDi.out _ _).mono ?_; rintro e w' ⟨rfl, rfl⟩) | (go_at_call 61; have _t := tok1; refine (H10.out _).mono ?_; rintro e w' ⟨rfl, rfl⟩; clear tok1 _t) | (go_at_call 61; refine (H16.out _).mono ?_; rintro e w' ⟨rfl, rfl⟩))
    refine bodyPost_ret (v := .tuple #[.agg #[.int .i64 0, .int .i64 (p : Int), .int .i64 ((lineS s p : Nat) : Int), .string ⟨#[]⟩, .int .i64 0], .agg #[.int .i64 10, .int .i64 (p : Int)]]) (by simp [results, Tryz.results44, go_sem]) rfl ⟨by rw [HV.out], ?_⟩
    exact (((Below.refl _ _).alloc (Nat.le_refl _) _).alloc (by simp) _).alloc (by simp; omega) _
  have k9 : decide (4294967296 ≤ n) = false := by simp; omega
  rcases isW_ways s e with ⟨h1, h2, hw⟩ | ⟨h1, h2, h3, hw⟩ | ⟨h1, h2, h3, hw⟩ | ⟨h1, hw⟩
  · have HV := Lib.hid (digitV_w s p e n HNE.out HX.out hbig hw)
    have hbe := bAt_eq s e h1
    clear hw hbig
    go_enter Tryz.func44, Tryz.ntmps44
    go_wp2_with (first | (go_at_call 11; refine (HLi.out _).mono ?_; rintro e w' ⟨rfl, rfl⟩) | (go_at_call 18; refine (HLe.out _ _).mono ?_; rintro e w' ⟨rfl, rfl⟩) | (go_at_call 17; refine (HDi.out _ _).mono ?_; rintro e w' ⟨rfl, rfl⟩) | (go_at_call 61; have _t := tok1; refine (H10.out _).mono ?_; rintro e w' ⟨rfl, rfl⟩; clear tok1 _t) | (go_at_call 61; refine (H16.out _).mono ?_; rintro e w' ⟨rfl, rfl⟩))
    refine bodyPost_ret (v := .tuple #[.agg #[.int .i64 0, .int .i64 (p : Int), .int .i64 ((lineS s p : Nat) : Int), .string ⟨#[]⟩, .int .i64 0], .agg #[.int .i64 7, .int .i64 (e : Int)]]) (by simp [results, Tryz.results44, go_sem]) rfl ⟨by rw [HV.out], ?_⟩
    exact (((Below.refl _ _).alloc (Nat.le_refl _) _).alloc (by simp) _).alloc (by simp; omega) _
  · have HV := Lib.hid (digitV_w s p e n HNE.out HX.out hbig hw)
    have hbe := bAt_eq s e h1
    clear hw hbig
    go_enter Tryz.func44, Tryz.ntmps44
    go_wp2_with (first | (go_at_call 11; refine (HLi.out _).mono ?_; rintro e w' ⟨rfl, rfl⟩) | (go_at_call 18; refine (HLe.out _ _).mono ?_; rintro e w' ⟨rfl, rfl⟩) | (go_at_call 17; refine (HDi.out _ _).mono ?_; rintro e w' ⟨rfl, rfl⟩) | (go_at_call 61; have _t := tok1; refine (H10.out _).mono ?_; rintro e w' ⟨rfl, rfl⟩; clear tok1 _t) | (go_at_call 61; refine (H16.out _).mono ?_; rintro e w' ⟨rfl, rfl⟩))
    refine bodyPost_ret (v := .tuple #[.agg #[.int .i64 0, .int .i64 (p : Int), .int .i64 ((lineS s p : Nat) : Int), .string ⟨#[]⟩, .int .i64 0], .agg #[.int .i64 7, .int .i64 (e : Int)]]) (by simp [results, Tryz.results44, go_sem]) rfl ⟨by rw [HV.out], ?_⟩
    exact (((Below.refl _ _).alloc (Nat.le_refl _) _).alloc (by simp) _).alloc (by simp; omega) _
  · have HV := Lib.hid (digitV_t s p e n HNE.out HX.out hbig hw)
    have hbe := bAt_eq s e h1
    clear hw hbig
    go_enter Tryz.func44, Tryz.ntmps44
    go_wp2_with (first | (go_at_call 11; refine (HLi.out _).mono ?_; rintro e w' ⟨rfl, rfl⟩) | (go_at_call 18; refine (HLe.out _ _).mono ?_; rintro e w' ⟨rfl, rfl⟩) | (go_at_call 17; refine (HDi.out _ _).mono ?_; rintro e w' ⟨rfl, rfl⟩) | (go_at_call 61; have _t := tok1; refine (H10.out _).mono ?_; rintro e w' ⟨rfl, rfl⟩; clear tok1 _t) | (go_at_call 61; refine (H16.out _).mono ?_; rintro e w' ⟨rfl, rfl⟩))
    refine bodyPost_ret (v := .tuple #[.agg #[.int .i64 2, .int .i64 (p : Int), .int .i64 ((lineS s p : Nat) : Int), .string (s.extract p e), .int .i64 n], .agg #[.int .i64 0, .int .i64 0]]) (by simp [results, Tryz.results44, go_sem]) rfl ⟨by rw [HV.out], ?_⟩
    exact (((Below.refl _ _).alloc (Nat.le_refl _) _).alloc (by simp) _).alloc (by simp; omega) _
  · have HV := Lib.hid (digitV_t s p e n HNE.out HX.out hbig hw)
    clear hw hbig
    go_enter Tryz.func44, Tryz.ntmps44
    go_wp2_with (first | (go_at_call 11; refine (HLi.out _).mono ?_; rintro e w' ⟨rfl, rfl⟩) | (go_at_call 18; refine (HLe.out _ _).mono ?_; rintro e w' ⟨rfl, rfl⟩) | (go_at_call 17; refine (HDi.out _ _).mono ?_; rintro e w' ⟨rfl, rfl⟩) | (go_at_call 61; have _t := tok1; refine (H10.out _).mono ?_; rintro e w' ⟨rfl, rfl⟩; clear tok1 _t) | (go_at_call 61; refine (H16.out _).mono ?_; rintro e w' ⟨rfl, rfl⟩))
    refine bodyPost_ret (v := .tuple #[.agg #[.int .i64 2, .int .i64 (p : Int), .int .i64 ((lineS s p : Nat) : Int), .string (s.extract p e), .int .i64 n], .agg #[.int .i64 0, .int .i64 0]]) (by simp [results, Tryz.results44, go_sem]) rfl ⟨by rw [HV.out], ?_⟩
    exact (((Below.refl _ _).alloc (Nat.le_refl _) _).alloc (by simp) _).alloc (by simp; omega) _
theorem rone_digit (s : ByteArray) (p : Nat) (w : World) (hs : s.size ≤ 70368744177664) (hp : p < s.size) (hL : isL (bAt s p) = false) (hD : isD (bAt s p) = true) :
    Calls Tryz.prog 44 #[.string s, .int .i64 (p : Int)] w fun e w' => e = .returned (digitV s p) ∧ Below w.heap.size w w' := by
  by_cases h1 : bAt s p = 48
  · by_cases h2 : p + 1 < s.size
    · by_cases h3 : bAt s (p + 1) = 120
      · exact rone_hex s p w hs hp hL hD h1 h2 h3
      · exact rone_dec3 s p w hs hp hL hD h1 h2 h3
    · exact rone_dec2 s p w hs hp hL hD h1 h2
  · exact rone_dec1 s p w hs hp hL hD h1
end Go.Proofs.YtmebcenjghagoaaGreatDoor
