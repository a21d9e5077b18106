/-
  told, slices.Max, greatest.
-/
import Derived.Test.YtchhbhgbpimegaaDoorOrdZ
namespace Go.Proofs.YtchhbhgbpimegaaDoor
open Go.RowKit
set_option linter.unusedVariables false
/-- What a row tells of f. -/
def toldI (l : List Int) (f : Int) : Int := if f < 0 ∨ (l.length : Int) ≤ f then 0 else l.getD f.toNat 0
/-- The greatest one of numbers, 0 of none. -/
def greatL : List Int → Int
  | [] => 0
  | x :: l => l.foldl max x
theorem foldl_max_le (l : List Int) (x b : Int) (hx : x ≤ b) (hl : ∀ y ∈ l, y ≤ b) : l.foldl max x ≤ b := by
  induction l generalizing x with
  | nil => exact hx
  | cons y l ih =>
    rw [List.foldl_cons]
    exact ih _ (by have := hl y (by simp); omega) (fun z hz => hl z (by simp [hz]))
theorem le_foldl_max (l : List Int) (x : Int) : x ≤ l.foldl max x ∧ ∀ y ∈ l, y ≤ l.foldl max x := by
  induction l generalizing x with
  | nil => simp
  | cons y l ih =>
    rw [List.foldl_cons]
    have := ih (max x y)
    refine ⟨by omega, fun z hz => ?_⟩
    rcases List.mem_cons.1 hz with rfl | hz
    · omega
    · exact this.2 z hz
theorem greatL_le (l : List Int) (b : Int) (h0 : 0 ≤ b) (hl : ∀ y ∈ l, y ≤ b) : greatL l ≤ b := by
  cases l with
  | nil => exact h0
  | cons x l => exact foldl_max_le l x b (hl x (by simp)) (fun z hz => hl z (by simp [hz]))
theorem greatL_ge (l : List Int) (hl : ∀ y ∈ l, 0 ≤ y) : 0 ≤ greatL l := by
  cases l with
  | nil => exact Int.le_refl 0
  | cons x l => exact Int.le_trans (hl x (by simp)) (le_foldl_max l x).1
theorem greatL_foldl (l : List Int) (hl : ∀ y ∈ l, 0 ≤ y) : greatL l = l.foldl max 0 := by
  cases l with
  | nil => rfl
  | cons x l =>
    rw [List.foldl_cons]
    have h := hl x (by simp)
    rw [show max 0 x = x by omega]
    rfl
theorem greatL_take (l : List Int) (x : Int) (j : Nat) (y : Int) (h : l[j]? = some y) : greatL (x :: l.take (j + 1)) = max (greatL (x :: l.take j)) y := by
  rw [take_snoc l j y h]
  show (l.take j ++ [y]).foldl max x = _
  rw [List.foldl_append]
  rfl
set_option maxRecDepth 100000 in
set_option maxHeartbeats 1000000 in
theorem told_any (l : List Int) (v : Value) (f : Int) (w : World) (h : IntsIs w v l) (hl : l.length ≤ 1048576) : Calls Tryd.prog 37 #[v, .int .i64 f] w fun e w' => e = .returned (.int .i64 (toldI l f)) ∧ w' = w := by
  obtain ⟨A, c, rfl, hr⟩ := h
  by_cases h0 : f < 0
  · have ht : toldI l f = 0 := by simp [toldI, h0]
    rw [ht]
    clear hr ht
    go_enter Tryd.func37, Tryd.ntmps37
    go_wp2
    go_ret
    exact ⟨rfl, rfl⟩
  · by_cases h1 : (l.length : Int) ≤ f
    · have ht : toldI l f = 0 := by simp [toldI, h1]
      rw [ht]
      clear hr ht
      go_enter Tryd.func37, Tryd.ntmps37
      go_wp2
      go_ret
      exact ⟨rfl, rfl⟩
    · obtain ⟨k, rfl⟩ : ∃ k : Nat, f = k := ⟨f.toNat, by omega⟩
      have hk : k < l.length := by omega
      have hx : l[k]? = some l[k] := List.getElem?_eq_getElem hk
      obtain ⟨b, rfl, hc⟩ := hr k _ hx
      have ht : toldI l k = l[k] := by
        have : ¬ ((k : Int) < 0 ∨ (l.length : Int) ≤ k) := by omega
        rw [toldI, if_neg this]
        simp [hk]
      rw [ht]
      have h2 : (k : Int) < (l.length : Int) := by omega
      clear hr ht hx
      generalize l[k] = x at *
      go_enter Tryd.func37, Tryd.ntmps37
      go_wp2
      go_ret
      exact ⟨rfl, rfl⟩
set_option maxRecDepth 100000 in
set_option maxHeartbeats 1000000 in
theorem max_any (x : Int) (l : List Int) (v : Value) (w : World) (h : IntsIs w v (x :: l)) (hl : l.length ≤ 1048576) : Calls Tryd.prog 58 #[v] w fun e w' => e = .returned (.int .i64 (greatL (x :: l))) ∧ w' = w := by
  obtain ⟨A, c, rfl, hr⟩ := h
  obtain ⟨b, rfl, hc0⟩ := hr 0 x rfl
  have HR : Hid (∀ j y, (x :: l)[j]? = some y → w.cell? ⟨b, j, none⟩ = some (.int .i64 y)) := fun j y hj => by
    obtain ⟨b', hb, hc⟩ := hr j y hj
    cases hb
    exact hc
  have hlen : (x :: l).length = l.length + 1 := rfl
  rw [hlen]
  clear hr hlen
  go_enter Tryd.func58, Tryd.ntmps58
  go_wp2
  go_loopw [3, 4] (fun m i wr => ∃ j : Nat, j ≤ l.length ∧ i = .int .i64 (j + 1 : Nat) ∧ m = .int .i64 (greatL (x :: l.take j)) ∧ wr = w) (fun _ i _ => l.length + 1 - (intOf i).toNat)
  case atStart => exact ⟨0, by omega, rfl, rfl, rfl⟩
  case round =>
    obtain ⟨j, hj, rfl, rfl, rfl⟩ := hrel
    by_cases hjl : j < l.length
    · obtain ⟨y, hy⟩ : ∃ y, l[j]? = some y := ⟨_, List.getElem?_eq_getElem hjl⟩
      have hc := HR.out (j + 1) y (by simpa using hy)
      have ht := greatL_take l x j y hy
      have HTK := Lib.hid ht
      clear ht hy
      go_wp2
      go_roundw
      case rel => exact ⟨j + 1, by omega, by go_num, by rw [HTK.out]; exact congrArg (Value.int .i64) (by split <;> omega), trivial⟩
      case measure =>
        simp [intOf]
        omega
    · obtain rfl : j = l.length := by omega
      rw [List.take_length]
      go_wp2
      go_ret
      exact ⟨rfl, rfl⟩
set_option maxRecDepth 100000 in
theorem greatest_any (l : List Int) (v : Value) (w : World) (h : IntsIs w v l) (hl : l.length ≤ 1048576) : Calls Tryd.prog 38 #[v] w fun e w' => e = .returned (.int .i64 (greatL l)) ∧ w' = w := by
  cases l with
  | nil =>
    obtain ⟨A, c, rfl, hr⟩ := h
    clear hr
    simp only [List.length_nil]
    go_enter Tryd.func38, Tryd.ntmps38
    go_wp2
    go_ret
    exact ⟨rfl, rfl⟩
  | cons x l =>
    have HM := Lib.hid (max_any x l v w h (by simp at hl; omega))
    obtain ⟨A, c, rfl, hr⟩ := h
    have hlen : (x :: l).length = l.length + 1 := rfl
    rw [hlen] at HM ⊢
    have h0 : (((l.length + 1 : Nat) : Int) == 0) = false := by rw [beq_eq_false_iff_ne]; omega
    clear hr hlen
    go_enter Tryd.func38, Tryd.ntmps38
    go_wp2_with (go_at_call 58; refine HM.out.mono ?_; rintro e w' ⟨rfl, rfl⟩)
    go_ret
    exact ⟨rfl, rfl⟩
end Go.Proofs.YtchhbhgbpimegaaDoor
