/-
  A slice of bytes that is appended to, and cut from its head: where it lies. General laws.
-/
import Derived.Test.YtgpgijdciaieaaaRt
import Derived.ArgAppend
namespace Go.Proofs.Ytgpgijdciaieaaa
open Go.RowKit
set_option linter.unusedVariables false
/-- The slice v lies in a row of the call's own, from block B on, somewhere in it, and holds the bytes l. -/
def View (w : World) (B : Nat) (v : Value) (l : List Nat) : Prop :=
  (v = .slice none 0 0 ∧ l = []) ∨ ∃ g off cap cur, v = .slice (some ⟨g, off, none⟩) l.length cap ∧ B ≤ g ∧ w.heap[g]? = some (.cells cur 5 (0, 0)) ∧ l.length ≤ cap ∧ off + cap ≤ cur.size ∧
    ∀ (j x : Nat), l[j]? = some x → cur[off + j]? = some (.int .u8 (x : Int))
theorem View.nil_ (w : World) (B : Nat) : View w B (.slice none 0 0) [] := Or.inl ⟨rfl, rfl⟩
theorem View.rdb {w : World} {B : Nat} {v : Value} {l : List Nat} (h : View w B v l) : ∃ A c, v = .slice A l.length c ∧ l.length ≤ c ∧ RdB w w.heap.size A l := by
  rcases h with ⟨rfl, rfl⟩ | ⟨g, off, cap, cur, rfl, hg, hh, hc, hs, hx⟩
  · exact ⟨none, 0, rfl, Nat.le_refl _, RdB.nil_ _ _⟩
  · refine ⟨_, _, rfl, hc, fun h => (by cases h), fun a ha _ => ?_, fun a ha j x hj => ?_⟩
    · cases ha
      exact (Array.getElem?_eq_some_iff.1 hh).1
    · cases ha
      rw [addr_add]
      simp [World.cell?, hh, hx j x hj]
theorem View.keep {w w' : World} {B : Nat} {v : Value} {l : List Nat} (h : View w B v l) (hk : ∀ g, B ≤ g → g < w.heap.size → w'.heap[g]? = w.heap[g]?) : View w' B v l := by
  rcases h with h | ⟨g, off, cap, cur, hv, hg, hh, r⟩
  · exact .inl h
  · exact .inr ⟨g, off, cap, cur, hv, hg, (hk g hg (Array.getElem?_eq_some_iff.1 hh).1).trans hh, r⟩
theorem View.below {w w' : World} {B : Nat} {v : Value} {l : List Nat} (h : View w B v l) (hb : Below w.heap.size w w') : View w' B v l := h.keep fun g _ hg => hb.block g hg
theorem View.blk {w : World} {B : Nat} {v : Value} {l : List Nat} (h : View w B v l) : ∀ k, v.ownBlock = some k → B ≤ k ∧ k < w.heap.size := by
  intro k hk
  rcases h with ⟨rfl, _⟩ | ⟨g, off, cap, cur, rfl, hg, hh, _⟩
  · simp [Value.ownBlock] at hk
  · simp only [Value.ownBlock, Option.some.injEq] at hk
    subst hk
    exact ⟨hg, (Array.getElem?_eq_some_iff.1 hh).1⟩
theorem View.but {w w' : World} {B g0 : Nat} {v : Value} {l : List Nat} (h : View w B v l) (hk : ∀ k, k ≠ g0 → w'.heap[k]? = w.heap[k]?) (hg : ∀ k, v.ownBlock = some k → k ≠ g0) : View w' B v l := by
  rcases h with h | ⟨g, off, cap, cur, rfl, h0, hh, r⟩
  · exact .inl h
  · exact .inr ⟨g, off, cap, cur, rfl, h0, (hk g (hg g rfl)).trans hh, r⟩
theorem View.own {w : World} {B B' : Nat} {v : Value} {l : List Nat} (h : w.ownsRow B' 5 1 v l.length (bvals l)) (hB : B ≤ B') : View w B v l := by
  rcases h.2 with ⟨rfl, h0⟩ | ⟨g, cap, cur, rfl, hg, hh, hn, hc, hs, ht⟩
  · exact .inl ⟨rfl, List.eq_nil_of_length_eq_zero h0⟩
  · refine .inr ⟨g, 0, cap, cur, rfl, by omega, hh, hn, by omega, fun j x hx => ?_⟩
    have h1 : (cur.toList.take (l.length * 1))[j]? = some (.int .u8 (x : Int)) := by rw [ht]; simp [bvals, hx]
    rw [List.getElem?_take] at h1
    split at h1
    · rw [Nat.zero_add]
      simpa using h1
    · cases h1
/-- Without its first. -/
def cutV (g off n cap : Nat) : Value := .slice (if cap = 1 then some ⟨g, off, none⟩ else some ⟨g, off + 1, none⟩) n (cap - 1)
theorem run_cutV (g off k cap : Nat) (hc : k + 1 ≤ cap) (W : World) : (Instr.sliceAt 32 (.slice (some ⟨g, off, none⟩) (k + 1) cap) (some (.int .i64 1)) none none).run Try.prog W = .ok (cutV g off k cap) W := by
  obtain ⟨i0, hi0, -, hz1, -⟩ := info_parts u8info
  have hsz : (sizeOf 5).run Try.prog W = .ok 1 W := by simp [sizeOf, typeInfo, hi0, hz1]
  have he : Try.prog.elem 32 = 5 := by kernel_rfl
  rw [run_sliceAt_slice W _ _ _ _ _ (by rw [he]; exact Try.underlying32), run_slice_l W _ _ _ _ (by rw [he]; exact Try.underlying32) _ _ (by omega) (by omega), he, hsz]
  simp only [Result.andThen_ok, sliced, cutV]
  have h1 : ((1 : Int).toNat) = 1 := rfl
  rw [h1]
  by_cases h : cap = 1
  · simp [h]
  · simp [h]
    exact addr_add g off 1
theorem View.cut {w : World} {B : Nat} {v : Value} {x : Nat} {r : List Nat} (h : View w B v (x :: r)) : ∃ g off cap, v = .slice (some ⟨g, off, none⟩) (r.length + 1) cap ∧ r.length + 1 ≤ cap ∧ w.cell? ⟨g, off, none⟩ = some (.int .u8 (x : Int)) ∧ View w B (cutV g off r.length cap) r := by
  rcases h with ⟨_, h0⟩ | ⟨g, off, cap, cur, rfl, hg, hh, hc, hs, hx⟩
  · cases h0
  · refine ⟨g, off, cap, rfl, hc, ?_, ?_⟩
    · have := hx 0 x rfl
      simp [World.cell?, hh]
      simpa using this
    · have hc' : r.length + 1 ≤ cap := hc
      unfold cutV
      by_cases h1 : cap = 1
      · have : r = [] := List.eq_nil_of_length_eq_zero (by omega)
        subst this
        rw [if_pos h1]
        exact .inr ⟨g, off, cap - 1, cur, rfl, hg, hh, by simp, by omega, fun j y hy => by simp at hy⟩
      · rw [if_neg h1]
        exact .inr ⟨g, off + 1, cap - 1, cur, rfl, hg, hh, by omega, by omega, fun j y hy => by
          have := hx (j + 1) y hy
          rwa [show off + (j + 1) = off + 1 + j by omega] at this⟩
theorem own_blk {w : World} {B : Nat} {e : TypeId} {s : Nat} {v : Value} {n : Nat} {xs : List Value} (h : w.ownsRow B e s v n xs) (k : Nat) (hk : v.ownBlock = some k) : B ≤ k := by
  rcases h.2 with ⟨rfl, _⟩ | ⟨g, cap, cur, rfl, hg, _⟩
  · simp [Value.ownBlock] at hk
  · simp only [Value.ownBlock, Option.some.injEq] at hk
    omega
theorem cutV_blk (g off n cap k : Nat) (hk : (cutV g off n cap).ownBlock = some k) : k = g := by
  unfold cutV at hk
  split at hk
  · simp only [Value.ownBlock, Option.some.injEq] at hk
    exact hk.symm
  · simp only [Value.ownBlock, Option.some.injEq] at hk
    exact hk.symm
theorem gb_set (w : World) (b i : Nat) (v : Value) : w.grownBy (w.setCell ⟨b, i, none⟩ v) (some b) :=
  ⟨rfl, rfl, rfl, by simp [World.setCell], fun k _ hb => Below.heap_setCell _ _ _ _ fun e => hb (by rw [e])⟩
/-- One byte is appended. -/
theorem wpList_append_view {w : World} {ops : Array Oper} {rest : List Oper} {o : Oper} {a : Act} {Q : Exit → Act → World → Prop} (hgd : o.guard = none) (s x : Operand)
    (ho : o.op = .call { callee := .builtin .append, args := #[s, x], argTypes := #[32, 32] }) (B : Nat) (v : Value) (l : List Nat) (hs : a.eval s = v) (hv : View w B v l) (hl : l.length ≤ 1000) (hB : B ≤ w.heap.size)
    (ad : Addr) (y : Nat) (hx : a.eval x = .slice (some ad) 1 1) (hc : w.cell? ad = some (.int .u8 (y : Int)))
    (h : ∀ v' w', Hid (View w' B v' (l ++ [y])) → Hid (w.grownBy w' v.ownBlock) → Hid (∃ A c, v' = .slice A (l.length + 1) c) → Hid (∀ k, v'.ownBlock = some k → v.ownBlock = some k ∨ w.heap.size ≤ k) → wpList Try.prog ops Q rest (a.put o.dst v') w') : wpList Try.prog ops Q (o :: rest) a w := by
  obtain ⟨i0, hi0, hz0, hz1, hz2⟩ := info_parts u8info
  have hnews : ∀ (j : Nat) (u : Value), [Value.int .u8 (y : Int)][j]? = some u → w.cell? (ad.add j) = some u := fun j u hj => by
    cases j with
    | zero =>
      cases hj
      have : ad.add 0 = ad := by unfold Addr.add; split <;> simp_all
      rw [this]
      exact hc
    | succ j => simp at hj
  have hform : ∀ v', (∃ W, View W B v' (l ++ [y])) → ∃ A c, v' = .slice A (l.length + 1) c := fun v' ⟨W, hV⟩ => by
    obtain ⟨A, c, e, _⟩ := hV.rdb
    exact ⟨A, c, by rw [e]; simp⟩
  have ownV : ∀ (v' : Value) (w' : World), w'.ownsRow w.heap.size 5 1 v' (l.length + 1) (bvals l ++ [.int .u8 (y : Int)]) → View w' B v' (l ++ [y]) := fun v' w' hown => by
    refine View.own (B' := w.heap.size) ?_ hB
    rw [List.length_append, ← bvals_append]
    exact hown
  rcases hv with ⟨rfl, rfl⟩ | ⟨g, off, cap, cur, rfl, hg, hh, hcap, hsz, hcs⟩
  · refine wpList_append_grows w hgd s x _ ho 5 i0 (.int .u8 0) 1 1 Try.underlying32 hi0 hz0 hz1 hz2 rfl (by decide) none 0 0 [] hs (fun _ => ⟨rfl, rfl⟩) rfl (fun b hb => by cases hb) ad 1 1 [.int .u8 (y : Int)] hx rfl hnews (by simp [Value.oneCell']) (by omega) (by decide) (by decide) (fun v' w' hown hgr => ?_)
    have hV := ownV v' w' hown
    exact h v' w' (Lib.hid hV) (Lib.hid hgr) (Lib.hid (hform v' ⟨w', hV⟩)) (Lib.hid fun k hk => .inr (own_blk hown k hk))
  · have hlt : g < w.heap.size := (Array.getElem?_eq_some_iff.1 hh).1
    refine wpList_append_arg w hgd s x _ ho 5 i0 (.int .u8 0) 1 1 Try.underlying32 hi0 hz0 hz1 hz2 rfl (by decide) g off l.length cap (bvals l) hs (by simp [bvals]) (fun j u hu => ?_) ad 1 1 [.int .u8 (y : Int)] hx rfl hnews (by simp [Value.oneCell']) (fun hr j hj => ?_) (by simp only [maxLen]; omega) (by omega) (fun hr => ?_) (fun hr v' w' hown hgr => ?_)
    · obtain ⟨z, hz, rfl⟩ := bvals_at hu
      simp [World.cell?, hh, hcs j z hz]
    · have hj0 : j = 0 := by simpa using hj
      subst hj0
      have : off + l.length * 1 + 0 < cur.size := by omega
      exact ⟨by simp [World.cell?, hh]; omega, by simp [World.frozen?, hh]⟩
    · have e : w.setCells g (off + l.length * 1) [.int .u8 (y : Int)] = w.setCell ⟨g, off + l.length, none⟩ (.int .u8 (y : Int)) := by simp [World.setCells]
      rw [e]
      have hh2 : w.heap[g]? = some (.cells cur.toList.toArray 5 (0, 0)) := by rw [Array.toArray_toList]; exact hh
      have hrow := row_setCell (i := off + l.length) (u := .int .u8 (y : Int)) hh2
      have hV : View (w.setCell ⟨g, off + l.length, none⟩ (.int .u8 (y : Int))) B (.slice (some ⟨g, off, none⟩) (l.length + 1) cap) (l ++ [y]) := by
        refine .inr ⟨g, off, cap, _, by simp, hg, hrow, by simp; omega, by simp; omega, fun j z hz => ?_⟩
        simp only [List.getElem?_toArray, List.getElem?_set]
        by_cases hj : j < l.length
        · rw [if_neg (by omega)]
          rw [List.getElem?_append_left hj] at hz
          have := hcs j z hz
          simpa using this
        · rw [List.getElem?_append_right (by omega)] at hz
          have hj2 : j = l.length := by
            have := (List.getElem?_eq_some_iff.1 hz).1
            simp at this
            omega
          subst hj2
          simp at hz
          subst hz
          rw [if_pos rfl, if_pos (by simp; omega)]
      exact h _ _ (Lib.hid hV) (Lib.hid (gb_set _ _ _ _)) (Lib.hid ⟨_, _, rfl⟩) (Lib.hid fun k hk => .inl hk)
    · have hV := ownV v' w' hown
      exact h v' w' (Lib.hid hV) (Lib.hid ⟨hgr.os, hgr.tape, hgr.output, hgr.size, fun k hk _ => hgr.block k hk (by simp)⟩) (Lib.hid (hform v' ⟨w', hV⟩)) (Lib.hid fun k hk => .inr (own_blk hown k hk))
end Go.Proofs.Ytgpgijdciaieaaa
