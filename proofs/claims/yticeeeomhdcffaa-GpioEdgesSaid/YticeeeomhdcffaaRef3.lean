/-
  The document's own Rising, Pins: by their contracts.
-/
import Derived.Test.YticeeeomhdcffaaRef2
namespace Go.Proofs.Yticeeeomhdcffaa
open Go.RowKit
set_option linter.unusedVariables false
/-- The slice v is of the call's own memory, from block B on, and holds these numbers. -/
def OwnN (w : World) (B : Nat) (v : Value) (l : List Nat) : Prop := w.ownsRow B 3 1 v l.length (l.map iv)
theorem OwnN.form {w : World} {B : Nat} {v : Value} {l : List Nat} (h : OwnN w B v l) : ∃ A c, v = .slice A l.length c := own_form h
theorem OwnN.at {w : World} {B : Nat} {v : Value} {l : List Nat} (h : OwnN w B v l) (k x : Nat) (hx : l[k]? = some x) : ∃ a c, v = .slice (some a) l.length c ∧ w.cell? (a.add k) = some (.int .i64 (x : Int)) := by
  rcases h.2 with ⟨_, h0⟩ | ⟨g, cap, cur, rfl, hg, hh, hn, hc, hs, ht⟩
  · have : l = [] := List.eq_nil_of_length_eq_zero h0
    subst this
    simp at hx
  · exact ⟨⟨g, 0, none⟩, cap, rfl, World.ownsRow.cells h (g := g) rfl k _ (by simp [List.getElem?_map, hx, iv])⟩
theorem OwnN.below {w w' : World} {B : Nat} {v : Value} {l : List Nat} (h : OwnN w B v l) (hb : Below w.heap.size w w') : OwnN w' B v l := ownsRow_below h hb
set_option maxRecDepth 100000 in
theorem rRising_any (was is : Nat) (w : World) (h1 : was < 256) (h2 : is < 256) : Calls Try.prog 12 #[.int .u8 was, .int .u8 is] w fun x w' => ∃ v, x = .returned v ∧ OwnN w' w.heap.size v (riseK was is 8) ∧ Below w.heap.size w w' := by
  obtain ⟨i0, hi0, hz0, hz1, hz2⟩ := info_parts i64info
  have H9 := Lib.hid hz0
  have H10 := Lib.hid hz1
  have H11 := Lib.hid hz2
  have H12 := Lib.hid hi0
  clear hz0 hz1 hz2 hi0
  go_enter Try.func12, Try.ntmps12
  go_wp2
  go_loopw [5, 6] (fun v kv wr => ∃ k : Nat, k ≤ 8 ∧ kv = .int .i64 k ∧ OwnN wr w.heap.size v (riseK was is k) ∧ Below w.heap.size w wr) (fun _ kv _ => 8 - (intOf kv).toNat)
  case atStart => exact ⟨0, by omega, rfl, World.ownsRow_nil _ _ _ _, Below.refl _ _⟩
  case round =>
    obtain ⟨k, hk, rfl, hown, hb⟩ := hrel
    obtain ⟨A, c, rfl⟩ := hown.form
    have HO := Lib.hid hown
    have HB := Lib.hid hb
    clear hown hb
    by_cases hlt : k < 8
    · have d1 : (k : Int) < 8 := by omega
      have HB1 : Hid (∀ W : World, Calls Try.prog 19 #[.int .u8 was, .int .i64 k] W fun x w' => x = .returned (.bool (bitB was k)) ∧ w' = W) := Lib.hid (fun W => bit_any was k W h1 (by omega))
      have HB2 : Hid (∀ W : World, Calls Try.prog 19 #[.int .u8 is, .int .i64 k] W fun x w' => x = .returned (.bool (bitB is k)) ∧ w' = W) := Lib.hid (fun W => bit_any is k W h2 (by omega))
      have hlen := riseK_len was is k
      have hsucc := riseK_succ was is k
      obtain ⟨L, hL⟩ : ∃ L, riseK was is k = L := ⟨_, rfl⟩
      rw [hL] at HO hlen hsucc ⊢
      have HS := Lib.hid hsucc
      clear hL hsucc
      cases hb1 : bitB was k
      · rw [hb1] at HB1 HS
        cases hb2 : bitB is k
        · rw [hb2] at HB2 HS
          go_wp2_with (first | (go_at_call 19; (with_reducible refine (HB1.out _).mono ?_); rintro x w1 ⟨rfl, rfl⟩) | (go_at_call 19; (with_reducible refine (HB2.out _).mono ?_); rintro x w1 ⟨rfl, rfl⟩))
          go_roundw
          case rel => exact ⟨k + 1, by omega, by go_num, by rw [HS.out]; exact HO.out, HB.out⟩
          case measure =>
            simp [intOf]
            omega
        · rw [hb2] at HB2 HS
          go_wp2_with (first | (go_at_call 19; (with_reducible refine (HB1.out _).mono ?_); rintro x w1 ⟨rfl, rfl⟩) | (go_at_call 19; (with_reducible refine (HB2.out _).mono ?_); rintro x w1 ⟨rfl, rfl⟩) | (at_builtin; go_must (refine wpList_append_blk _ rfl (.tmp 20) (.tmp 22) 36 rfl w.heap.size 3 i0 (.int .i64 0) 1 8 Try.underlying36 H12.out H9.out H10.out H11.out rfl (by decide) (.slice A L.length c) L.length (L.map iv) rfl (own_ne HO.out (gb_alloc _ none _) (by simp)) ⟨_, 0, none⟩ 1 1 [iv k] rfl rfl (new_one _ _ _ _ rfl) (by simp [Value.oneCell', iv]) (by simp only [maxLen]; omega) (by omega) (by have := HB.out.size; simp; omega) ?_; intro v3 w3 hown3 hg3 hb3; obtain ⟨g3, cap3, rfl⟩ := own_succ hown3; have O3 := Lib.hid hown3; have G3 := Lib.hid hg3; clear hown3 hg3 hb3)))
          go_roundw
          case rel => exact ⟨k + 1, by omega, by go_num, by rw [HS.out]; exact (by simpa [OwnN] using O3.out), below_gb (HB.out.alloc HB.out.size _) G3.out (by have := HB.out.size; simp; omega) (fun b hb => (HO.out.lt b hb).1)⟩
          case measure =>
            simp [intOf]
            omega
      · rw [hb1] at HB1 HS
        go_wp2_with (go_at_call 19; (with_reducible refine (HB1.out _).mono ?_); rintro x w1 ⟨rfl, rfl⟩)
        go_roundw
        case rel => exact ⟨k + 1, by omega, by go_num, by rw [HS.out]; exact HO.out, HB.out⟩
        case measure =>
          simp [intOf]
          omega
    · obtain rfl : k = 8 := by omega
      go_wp2
      go_ret
      exact ⟨_, rfl, HO.out, HB.out⟩
end Go.Proofs.Yticeeeomhdcffaa
