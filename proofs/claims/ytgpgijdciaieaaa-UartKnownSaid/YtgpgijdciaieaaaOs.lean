/-
  UartOrder's variables: the uart's row, what came, what is to be sent: two slices apart.
-/
import Derived.Test.YtgpgijdciaieaaaView
namespace Go.Proofs.Ytgpgijdciaieaaa
open Go.RowKit
set_option linter.unusedVariables false
theorem View.grown {w w' : World} {B : Nat} {v : Value} {l : List Nat} {r : Option Nat} (h : View w B v l) (hg : w.grownBy w' r) (hr : ∀ k, v.ownBlock = some k → r ≠ some k) : View w' B v l := by
  rcases h with h | ⟨g, off, cap, cur, rfl, h0, hh, t⟩
  · exact .inl h
  · exact .inr ⟨g, off, cap, cur, rfl, h0, (hg.block g (Array.getElem?_eq_some_iff.1 hh).1 (fun e => hr g rfl e.symm)).trans hh, t⟩
structure Os (w W : World) (gu : Nat) (vi vo : Value) (I O : List Nat) (n : Int) (bs : List Nat) (m : Int) (cs : List Nat) (l : Bool) (c k : Nat) : Prop where
  a : View W (gu + 1) vi I
  b : View W (gu + 1) vo O
  d : ∀ j, vi.ownBlock = some j → vo.ownBlock ≠ some j
  u : URow W gu 26 n bs m cs l c k
  bw : Below w.heap.size w W
  lg : w.heap.size ≤ gu
section
variable {w W W' : World} {gu : Nat} {vi vo : Value} {I O : List Nat} {n : Int} {bs : List Nat} {m : Int} {cs : List Nat} {l : Bool} {c k : Nat} {n' : Int} {bs' : List Nat} {m' : Int} {cs' : List Nat} {l' : Bool} {c' k' : Nat}
theorem Os.under (h : Os w W gu vi vo I O n bs m cs l c k) (hb : Below W.heap.size W W') : Os w W' gu vi vo I O n bs m cs l c k := ⟨h.a.below hb, h.b.below hb, h.d, h.u.below hb h.u.lt, h.bw.trans (hb.mono h.bw.size), h.lg⟩
theorem Os.setU (h : Os w W gu vi vo I O n bs m cs l c k) (hn : URow W' gu 26 n' bs' m' cs' l' c' k') (ho : ∀ j, j ≠ gu → W'.heap[j]? = W.heap[j]?) (hb : Below gu W W') : Os w W' gu vi vo I O n' bs' m' cs' l' c' k' :=
  ⟨h.a.but ho (fun j hj => by have := (h.a.blk j hj).1; omega), h.b.but ho (fun j hj => by have := (h.b.blk j hj).1; omega), h.d, hn, h.bw.trans (hb.mono h.lg), h.lg⟩
theorem Os.gl (h : Os w W gu vi vo I O n bs m cs l c k) : gu + 1 ≤ W.heap.size := h.u.lt
theorem Os.appI {vi' : Value} {I' : List Nat} (h : Os w W gu vi vo I O n bs m cs l c k) (hv : View W' (gu + 1) vi' I') (hg : W.grownBy W' vi.ownBlock) (hk : ∀ j, vi'.ownBlock = some j → vi.ownBlock = some j ∨ W.heap.size ≤ j) : Os w W' gu vi' vo I' O n bs m cs l c k := by
  refine ⟨hv, h.b.grown hg (fun j hj e => h.d j e hj), fun j hj e => ?_, ⟨(hg.block gu h.u.lt (fun e => by have := (h.a.blk gu e.symm).1; omega)).trans h.u.v, h.u.hb, h.u.hc⟩, below_gb h.bw hg h.bw.size (fun j hj => by have := (h.a.blk j hj).1; have := h.lg; omega), h.lg⟩
  rcases hk j hj with h1 | h1
  · exact h.d j h1 e
  · have := (h.b.blk j e).2
    omega
theorem Os.appO {vo' : Value} {O' : List Nat} (h : Os w W gu vi vo I O n bs m cs l c k) (hv : View W' (gu + 1) vo' O') (hg : W.grownBy W' vo.ownBlock) (hk : ∀ j, vo'.ownBlock = some j → vo.ownBlock = some j ∨ W.heap.size ≤ j) : Os w W' gu vi vo' I O' n bs m cs l c k := by
  refine ⟨h.a.grown hg (fun j hj e => h.d j hj e), hv, fun j hj e => ?_, ⟨(hg.block gu h.u.lt (fun e => by have := (h.b.blk gu e.symm).1; omega)).trans h.u.v, h.u.hb, h.u.hc⟩, below_gb h.bw hg h.bw.size (fun j hj => by have := (h.b.blk j hj).1; have := h.lg; omega), h.lg⟩
  rcases hk j e with h1 | h1
  · exact h.d j hj h1
  · have := (h.a.blk j hj).2
    omega
theorem Os.cutI {x : Nat} {r : List Nat} (h : Os w W gu vi vo (x :: r) O n bs m cs l c k) : ∃ g off cap, vi = .slice (some ⟨g, off, none⟩) (r.length + 1) cap ∧ r.length + 1 ≤ cap ∧ W.cell? ⟨g, off, none⟩ = some (.int .u8 (x : Int)) ∧ Os w W gu (cutV g off r.length cap) vo r O n bs m cs l c k := by
  obtain ⟨g, off, cap, rfl, hc, hx, hv⟩ := h.a.cut
  exact ⟨g, off, cap, rfl, hc, hx, hv, h.b, fun j hj => h.d j (by rw [cutV_blk _ _ _ _ _ hj]; rfl), h.u, h.bw, h.lg⟩
theorem Os.cutO {x : Nat} {r : List Nat} (h : Os w W gu vi vo I (x :: r) n bs m cs l c k) : ∃ g off cap, vo = .slice (some ⟨g, off, none⟩) (r.length + 1) cap ∧ r.length + 1 ≤ cap ∧ W.cell? ⟨g, off, none⟩ = some (.int .u8 (x : Int)) ∧ Os w W gu vi (cutV g off r.length cap) I r n bs m cs l c k := by
  obtain ⟨g, off, cap, rfl, hc, hx, hv⟩ := h.b.cut
  exact ⟨g, off, cap, rfl, hc, hx, h.a, hv, fun j hj e => h.d j hj (by rw [cutV_blk _ _ _ _ _ e]; rfl), h.u, h.bw, h.lg⟩
theorem Os.formI (h : Os w W gu vi vo I O n bs m cs l c k) : ∃ A cap, vi = .slice A I.length cap := by
  obtain ⟨A, c, e, _⟩ := h.a.rdb
  exact ⟨A, c, e⟩
theorem Os.formO (h : Os w W gu vi vo I O n bs m cs l c k) : ∃ A cap, vo = .slice A O.length cap := by
  obtain ⟨A, c, e, _⟩ := h.b.rdb
  exact ⟨A, c, e⟩
end
theorem cell_spot {w : World} {a : Addr} {v : Value} (h : w.cell? a = some v) : w.cell? ⟨a.block, a.off, none⟩ = some v := by
  have hs : a.spot = none := by
    unfold World.cell? at h
    split at h
    · split at h
      · cases h
      · rename_i hn
        simpa using hn
    · cases h
  obtain ⟨b, o, s⟩ := a
  cases hs
  exact h
theorem cell_next {w : World} {a : Addr} {v : Value} (h : w.cell? (a.add 1) = some v) : w.cell? ⟨a.block, a.off + 1, none⟩ = some v := h
/-- Acts, as they lie in memory. -/
def ActsIn (w : World) (A : Option Addr) (len : Nat) : Prop := ∀ j, j < len → ∃ a, A = some a ∧ a.block < w.heap.size ∧ ∃ wh b : Nat, wh < 256 ∧ b < 256 ∧ w.cell? (a.add (j * 2)) = some (.int .u8 (wh : Int)) ∧ w.cell? ((a.add (j * 2)).add 1) = some (.int .u8 (b : Int))
end Go.Proofs.Ytgpgijdciaieaaa
