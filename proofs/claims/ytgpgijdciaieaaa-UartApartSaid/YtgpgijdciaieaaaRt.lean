/-
  Of uarts that are right: what the program's functions answer, if they are what they must be.
-/
import Derived.Test.YtgpgijdciaieaaaWorks
namespace Go.Proofs.Ytgpgijdciaieaaa
open Go.RowKit
set_option linter.unusedVariables false
theorem cutL_len (l : List Nat) (h : l.length ≤ 8) : cutL ((l.length : Nat) : Int) (pad l) = l := by
  have h1 := cutL_ofV l
  rw [Nat.min_eq_left h, List.take_of_length_le h] at h1
  exact h1
/-- The uart that has these bytes. -/
abbrev ur (I O : List Nat) (l : Bool) (c k : Nat) : Value := uv ((I.length : Nat) : Int) (pad I) ((O.length : Nat) : Int) (pad O) l c k
theorem uq_ur {I O : List Nat} (l : Bool) (c k : Nat) (hI : I.length ≤ 8) (hO : O.length ≤ 8) : uq I O l c k = ur I O l c k := by
  unfold uq
  rw [Nat.min_eq_left hI, Nat.min_eq_left hO]
/-- It is right. -/
structure Rg (I O : List Nat) (c k : Nat) : Prop where
  i8 : I.length ≤ 8
  o8 : O.length ≤ 8
  ib : ∀ x ∈ I, x < 256
  ob : ∀ x ∈ O, x < 256
  c8 : c < 256
  k4 : k < 4
  k0 : O = [] → k = 0
theorem Rg.new : Rg [] [] 0 0 := ⟨by decide, by decide, by decide, by decide, by decide, by decide, fun _ => rfl⟩
section
variable {I O : List Nat} {c k : Nat}
theorem Rg.uin (h : Rg I O c k) : UIn ((I.length : Nat) : Int) (pad I) ((O.length : Nat) : Int) (pad O) c k :=
  have := h.i8
  have := h.o8
  have := h.k4
  ⟨pad_length _, pad_length _, by omega, by omega, by omega, by omega, pad_lt h.ib, pad_lt h.ob, h.c8, by omega⟩
theorem Rg.kM (h : Rg I O c k) : kM O k = k := by
  by_cases h0 : O = []
  · rw [h0, kM_nil, h.k0 h0]
  · refine if_neg ?_
    have := h.k4
    rintro (h1 | h1)
    · omega
    · exact h0 h1
theorem addL_len {L : List Nat} (b : Nat) (h : L.length ≤ 8) : (addL L b).length ≤ 8 := by
  unfold addL
  split
  · rw [List.length_append]
    simp
    omega
  · exact h
theorem addL_lt {L : List Nat} {b : Nat} (h : ∀ x ∈ L, x < 256) (hb : b < 256) : ∀ x ∈ addL L b, x < 256 := by
  intro x hx
  unfold addL at hx
  split at hx
  · rcases List.mem_append.1 hx with h1 | h1
    · exact h x h1
    · rw [List.mem_singleton] at h1
      omega
  · exact h x hx
theorem addL_ne {L : List Nat} (b : Nat) : addL L b = [] → L = [] := by
  unfold addL
  split
  · intro h; simp at h
  · exact fun h => h
theorem tail_lt {L : List Nat} (h : ∀ x ∈ L, x < 256) : ∀ x ∈ L.tail, x < 256 := fun x hx => h x (List.mem_of_mem_tail hx)
theorem Rg.addI (h : Rg I O c k) {b : Nat} (hb : b < 256) : Rg (addL I b) O c k := ⟨addL_len b h.i8, h.o8, addL_lt h.ib hb, h.ob, h.c8, h.k4, h.k0⟩
theorem Rg.addO (h : Rg I O c k) {b : Nat} (hb : b < 256) : Rg I (addL O b) c k := ⟨h.i8, addL_len b h.o8, h.ib, addL_lt h.ob hb, h.c8, h.k4, fun e => h.k0 (addL_ne b e)⟩
theorem Rg.cutI (h : Rg I O c k) : Rg I.tail O c k := ⟨by have := h.i8; simp; omega, h.o8, tail_lt h.ib, h.ob, h.c8, h.k4, h.k0⟩
theorem Rg.ctl (h : Rg I O c k) {d : Nat} (hd : d < 256) : Rg I O d k := ⟨h.i8, h.o8, h.ib, h.ob, hd, h.k4, h.k0⟩
theorem Rg.tick (h : Rg I O c k) : Rg I (tickT O k) c (tickK O k) := by
  have h8 := h.o8
  have h4 := h.k4
  refine ⟨h.i8, ?_, h.ib, ?_, h.c8, ?_, ?_⟩
  · unfold tickT
    split
    · simp; omega
    · exact h8
  · unfold tickT
    split
    · exact tail_lt h.ob
    · exact h.ob
  · unfold tickK
    split
    · omega
    · split <;> omega
  · intro e
    unfold tickT at e
    unfold tickK
    split
    · rfl
    · rename_i hn
      split at e
      · rename_i hs
        have : k = 3 := by
          unfold sendsU at hs
          simp at hs
          exact hs.2
        rw [if_pos this]
      · exact absurd e hn
variable {l : Bool}
theorem rt_arrive (H : UartOk) (W : World) (h : Rg I O c k) (b : Nat) (hb : b < 256) : Calls Try.prog 12 #[ur I O l c k, .int .u8 b] W fun e w' => e = .returned (.tuple #[ur (addL I b) O (arriveL I l) c k, .bool (asksU I c)]) ∧ Below W.heap.size W w' := by
  have h1 := H.arrive _ _ _ _ l c k b W h.uin hb
  rw [cutL_len I h.i8, cutL_len O h.o8, h.kM, uq_ur _ _ _ (addL_len b h.i8) h.o8] at h1
  exact h1
theorem rt_read3 (H : UartOk) (W : World) (h : Rg I O c k) : Calls Try.prog 13 #[ur I O l c k, .int .i64 3] W fun e w' => e = .returned (.tuple #[.int .i32 (I.headD 0 : Nat), ur I.tail O l c k]) ∧ Below W.heap.size W w' := by
  have h1 := H.read _ _ _ _ l c k 3 W h.uin (by decide) (by decide)
  rw [cutL_len I h.i8, cutL_len O h.o8, h.kM, show readR I 3 = I.tail from if_pos rfl, show readL l 3 = l from if_neg (by decide), show peekU I O l c 3 = ((I.headD 0 : Nat) : Int) from if_pos rfl, uq_ur _ _ _ h.cutI.i8 h.o8] at h1
  exact h1
theorem rt_read4 (H : UartOk) (W : World) (h : Rg I O c k) : Calls Try.prog 13 #[ur I O l c k, .int .i64 4] W fun e w' => e = .returned (.tuple #[.int .i32 (statU I O l), ur I O false c k]) ∧ Below W.heap.size W w' := by
  have h1 := H.read _ _ _ _ l c k 4 W h.uin (by decide) (by decide)
  rw [cutL_len I h.i8, cutL_len O h.o8, h.kM, show readR I 4 = I from if_neg (by decide), show readL l 4 = false from if_pos rfl, show peekU I O l c 4 = statU I O l from (if_neg (by decide)).trans (if_pos rfl), uq_ur _ _ _ h.i8 h.o8] at h1
  exact h1
theorem rt_write3 (H : UartOk) (W : World) (h : Rg I O c k) (v : Int) (h0 : -2147483648 ≤ v) (h1 : v ≤ 2147483647) : Calls Try.prog 14 #[ur I O l c k, .int .i64 3, .int .i32 v] W fun e w' => e = .returned (ur I (addL O (lowN v)) l c k) ∧ Below W.heap.size W w' := by
  have h2 := H.write _ _ _ _ l c k 3 v W h.uin (by decide) (by decide) h0 h1
  rw [cutL_len I h.i8, cutL_len O h.o8, h.kM, show writeT O 3 v = addL O (lowN v) from if_pos rfl, show writeC c 3 v = c from if_neg (by decide), uq_ur _ _ _ h.i8 (addL_len _ h.o8)] at h2
  exact h2
theorem rt_write5 (H : UartOk) (W : World) (h : Rg I O c k) (v : Int) (h0 : -2147483648 ≤ v) (h1 : v ≤ 2147483647) : Calls Try.prog 14 #[ur I O l c k, .int .i64 5, .int .i32 v] W fun e w' => e = .returned (ur I O l (lowN v) k) ∧ Below W.heap.size W w' := by
  have h2 := H.write _ _ _ _ l c k 5 v W h.uin (by decide) (by decide) h0 h1
  rw [cutL_len I h.i8, cutL_len O h.o8, h.kM, show writeT O 5 v = O from if_neg (by decide), show writeC c 5 v = lowN v from if_pos rfl, uq_ur _ _ _ h.i8 h.o8] at h2
  exact h2
theorem rt_tick (H : UartOk) (W : World) (h : Rg I O c k) : Calls Try.prog 15 #[ur I O l c k] W fun e w' => e = .returned (.tuple #[ur I (tickT O k) l c (tickK O k), .int .u8 (tickB O k : Nat), .bool (sendsU O k), .bool (tickQ O c k)]) ∧ Below W.heap.size W w' := by
  have h2 := H.tick _ _ _ _ l c k W h.uin
  rw [cutL_len I h.i8, cutL_len O h.o8, h.kM, uq_ur _ _ _ h.i8 h.tick.o8] at h2
  exact h2
theorem rt_peek4 (H : UartOk) (W : World) (h : Rg I O c k) : Calls Try.prog 16 #[ur I O l c k, .int .i64 4] W fun e w' => e = .returned (.int .i32 (statU I O l)) ∧ Below W.heap.size W w' := by
  have h1 := H.peek _ _ _ _ l c k 4 W h.uin (by decide) (by decide)
  rw [cutL_len I h.i8, cutL_len O h.o8, show peekU I O l c 4 = statU I O l from (if_neg (by decide)).trans (if_pos rfl)] at h1
  exact h1
theorem rt_peek5 (H : UartOk) (W : World) (h : Rg I O c k) : Calls Try.prog 16 #[ur I O l c k, .int .i64 5] W fun e w' => e = .returned (.int .i32 c) ∧ Below W.heap.size W w' := by
  have h1 := H.peek _ _ _ _ l c k 5 W h.uin (by decide) (by decide)
  rw [cutL_len I h.i8, cutL_len O h.o8, show peekU I O l c 5 = (c : Int) from (if_neg (by decide)).trans ((if_neg (by decide)).trans (if_pos rfl))] at h1
  exact h1
theorem rt_mend (H : UartOk) (W : World) (h : Rg I O c k) : Calls Try.prog 9 #[ur I O l c k] W fun e w' => e = .returned (ur I O l c k) ∧ Below W.heap.size W w' := by
  have h1 := H.mend _ _ _ _ l c k W h.uin
  rw [cutL_len I h.i8, cutL_len O h.o8, h.kM, uq_ur _ _ _ h.i8 h.o8] at h1
  exact h1
end
end Go.Proofs.Ytgpgijdciaieaaa
