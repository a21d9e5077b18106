/-
  ordered: what holds between the rounds of its loop over taken(), and within a round.
-/
import Derived.Test.YtchhbhgbpimegaaDoorOrdM
namespace Go.Proofs.YtchhbhgbpimegaaDoor
open Go.RowKit
set_option linter.unusedVariables false
/-- All that the loop has in memory. Q: the box of the order; Q + 1: the iterator's own; Q + 2: the deferred calls; Q + 3: the loop's record. -/
structure OI (w : World) (N lv wb b5 n : Nat) (C : Nat → List Nat) (Q : Nat) (rl : Loop) (ord : List Nat) (ws : Nat → Int) (rd : Nat) (W : World) : Prop where
  d : W.heap[Q + 2]? = some (.deferred (some []))
  l : W.heap[Q + 2 + 1]? = some (.loop rl)
  bn : W.heap[Q + 1]? = some (.cells [.pointer (some ⟨N + 3, 0, none⟩)].toArray 66 (0, 0))
  om : OM N lv wb b5 n C ws rd W
  box : ∃ v, W.heap[Q]? = some (.cells [v].toArray 36 (0, 0)) ∧ W.ownsRow (Q + 4) 3 1 v ord.length (ord.map iv)
  b : Below w.heap.size w W
theorem own_heap {w w' : World} {B : Nat} {e : TypeId} {s : Nat} {v : Value} {n : Nat} {xs : List Value} (h : w.ownsRow B e s v n xs) (hk : ∀ k, B ≤ k → k < w.heap.size → w'.heap[k]? = w.heap[k]?) : w'.ownsRow B e s v n xs := by
  refine ⟨h.1, ?_⟩
  rcases h.2 with h2 | ⟨g, cap, cur, hv, hb, hrow, rest⟩
  · exact .inl h2
  · exact .inr ⟨g, cap, cur, hv, hb, (hk g hb (Array.getElem?_eq_some_iff.1 hrow).1).trans hrow, rest⟩
section
variable {w : World} {N lv wb b5 n : Nat} {C : Nat → List Nat} {Q : Nat} {rl : Loop} {ord : List Nat} {ws ws' : Nat → Int} {rd rd' : Nat} {W W' : World}
theorem OI.move (h : OI w N lv wb b5 n C Q rl ord ws rd W) (hk : ∀ k, Q ≤ k → W'.heap[k]? = W.heap[k]?) (hom : OM N lv wb b5 n C ws' rd' W') (hb : Below w.heap.size w W') : OI w N lv wb b5 n C Q rl ord ws' rd' W' := by
  obtain ⟨v, h1, h2⟩ := h.box
  exact ⟨(hk _ (by omega)).trans h.d, (hk _ (by omega)).trans h.l, (hk _ (by omega)).trans h.bn, hom, ⟨v, (hk _ (by omega)).trans h1, own_heap h2 fun k hB _ => hk k (by omega)⟩, hb⟩
theorem OI.lt (h : OI w N lv wb b5 n C Q rl ord ws rd W) : Q + 4 ≤ W.heap.size := by
  have := (Array.getElem?_eq_some_iff.1 h.l).1
  omega
theorem OI.touch (h : OI w N lv wb b5 n C Q rl ord ws rd W) (hl : Lay w.heap.size N lv wb b5) (hQ : b5 < Q) (ht : Touch wb W W') (hs : IsSet W' (N + 3) lv wb rd') : OI w N lv wb b5 n C Q rl ord ws rd' W' := by
  have h2 := hl.l2
  have h0 := hl.h0
  exact h.move (fun k hk => ht.block k (by omega)) (h.om.touch hl ht hs) (below_touch h.b ht (by omega))
theorem OI.setw (h : OI w N lv wb b5 n C Q rl ord ws rd W) (c : Nat) (x : Int) (hl : Lay w.heap.size N lv wb b5) (hQ : b5 < Q) : OI w N lv wb b5 n C Q rl ord (fun k => if k = c then x else ws k) rd (W.setCell ⟨N + 1, c, none⟩ (.int .i64 x)) := by
  have h2 := hl.l2
  have h0 := hl.h0
  exact h.move (fun k hk => Below.heap_setCell _ _ _ _ (by show k ≠ N + 1; omega)) (h.om.setw x hl) (h.b.setCell (p := ⟨N + 1, c, none⟩) (by show w.heap.size ≤ N + 1; omega) _)
theorem OI.below (h : OI w N lv wb b5 n C Q rl ord ws rd W) (hl : Lay w.heap.size N lv wb b5) (hb : Below W.heap.size W W') : OI w N lv wb b5 n C Q rl ord ws rd W' := by
  have hz := h.lt
  have g : ∀ k o, W.heap[k]? = some o → W'.heap[k]? = some o := fun k o hk => (hb.block k (Array.getElem?_eq_some_iff.1 hk).1).trans hk
  obtain ⟨v, h1, h2⟩ := h.box
  exact ⟨g _ _ h.d, g _ _ h.l, g _ _ h.bn, h.om.gb hl (gb_below (r := none) hb) (fun b e => by cases e), ⟨v, g _ _ h1, ownsRow_below h2 hb⟩, h.b.trans (hb.mono h.b.size)⟩
theorem OI.put (h : OI w N lv wb b5 n C Q rl ord ws rd W) (hl : Lay w.heap.size N lv wb b5) (hQ : b5 < Q) (rl' : Loop) : OI w N lv wb b5 n C Q rl' ord ws rd (W.putObj (Q + 2 + 1) (.loop rl')) := by
  have hz := h.lt
  have h0 := hl.h0
  have h2 := hl.l2
  obtain ⟨v, h1, h3⟩ := h.box
  have g : ∀ k, k ≠ Q + 2 + 1 → (W.putObj (Q + 2 + 1) (.loop rl')).heap[k]? = W.heap[k]? := fun k hk => World.putObj_heap_other hk
  exact ⟨(g _ (by omega)).trans h.d, World.putObj_heap_same (by omega), (g _ (by omega)).trans h.bn, h.om.gb hl (gb_put _ _ _) (fun b e => by cases e; omega), ⟨v, (g _ (by omega)).trans h1, own_gb h3 (gb_put _ _ _) (fun b e => by cases e; omega)⟩, below_gb h.b (gb_put _ _ _) h.b.size (fun b e => by cases e; omega)⟩
/-- One more is over: what the append, and the store into the box, leave. -/
theorem OI.app {w3 : World} {v v3 : Value} {o : Obj} {m : Nat} (h : OI w N lv wb b5 n C Q rl ord ws rd W) (hl : Lay w.heap.size N lv wb b5) (hQ : b5 < Q) (hv : W.heap[Q]? = some (.cells [v].toArray 36 (0, 0))) (hown : W.ownsRow (Q + 4) 3 1 v ord.length (ord.map iv))
    (hg3 : (W.alloc o).grownBy w3 v.ownBlock) (hown3 : w3.ownsRow (Q + 4) 3 1 v3 (ord.length + 1) (ord.map iv ++ [iv m])) : OI w N lv wb b5 n C Q rl (ord ++ [m]) ws rd (w3.setCell ⟨Q, 0, none⟩ v3) := by
  have hz := h.lt
  have h0 := hl.h0
  have h2 := hl.l2
  have hob : ∀ k, v.ownBlock = some k → Q + 4 ≤ k := fun k hk => (hown.lt k hk).1
  have ga := gb_alloc W (some Q) o
  have h3 : ∀ k, k < Q + 4 → w3.heap[k]? = W.heap[k]? := fun k hk => (hg3.block k (by simp; omega) (fun e => by have := hob k e.symm; omega)).trans (Go.heap_alloc_old _ _ (by omega))
  have h4 : ∀ k, k < Q + 4 → k ≠ Q → (w3.setCell ⟨Q, 0, none⟩ v3).heap[k]? = W.heap[k]? := fun k hk hkQ => (Below.heap_setCell _ _ _ _ hkQ).trans (h3 k hk)
  have hz3 : W.heap.size ≤ w3.heap.size := by
    have := hg3.size
    simp at this
    omega
  refine ⟨(h4 _ (by omega) (by omega)).trans h.d, (h4 _ (by omega) (by omega)).trans h.l, (h4 _ (by omega) (by omega)).trans h.bn, ?_, ⟨v3, row_setCell (l := [v]) ((h3 Q (by omega)).trans hv), ?_⟩, ?_⟩
  · have hm := h.om.m
    refine h.om.keep hl (fun k hk _ _ => h4 k (by omega) (by omega)) ((h4 _ (by omega) (by omega)).trans hm) ?_
    obtain ⟨c, r1⟩ := h.om.s.row
    obtain ⟨rr, r2⟩ := h.om.s.lev
    have l1 := hl.l1
    exact ⟨h.om.s.lt, h.om.s.ne, ⟨c, (h4 _ (by omega) (by omega)).trans r1⟩, ⟨rr, (h4 _ (by omega) (by omega)).trans r2⟩, (h4 _ (by omega) (by omega)).trans h.om.s.word⟩
  · have h5 := own_gb hown3 (gb_set w3 Q 0 v3) (fun k e => by cases e; omega)
    simpa using h5
  · refine ⟨hg3.os.trans h.b.os, hg3.tape.trans h.b.tape, hg3.output.trans h.b.output, ?_, fun k hk => (h4 k (by omega) (by omega)).trans (h.b.block k hk)⟩
    have := h.b.size
    simp [World.setCell]
    omega
end
/-- How long the order is that lies in the box. -/
def ordLen (W : World) (Q : Nat) : Nat := match W.cell? ⟨Q, 0, none⟩ with
  | some (.slice _ k _) => k
  | _ => 0
theorem OI.len {w : World} {N lv wb b5 n : Nat} {C : Nat → List Nat} {Q : Nat} {rl : Loop} {ord : List Nat} {ws : Nat → Int} {rd : Nat} {W : World} (h : OI w N lv wb b5 n C Q rl ord ws rd W) : ordLen W Q = ord.length := by
  obtain ⟨v, h1, h2⟩ := h.box
  obtain ⟨a, c, rfl⟩ := own_form h2
  have := row_at h1 0 _ rfl
  simp [ordLen, this]
theorem OI.mu {w : World} {N lv wb b5 n : Nat} {C : Nat → List Nat} {Q : Nat} {rl : Loop} {ord : List Nat} {m : Nat} {ws : Nat → Int} {rd : Nat} {W : World} (h : OI w N lv wb b5 n C Q rl (ord ++ [m]) ws rd W) (hk : ord.length < n) : n + 1 - ordLen W Q < n + 1 - ord.length := by
  rw [h.len, List.length_append, List.length_singleton]
  omega
/-- Between two rounds: the k-th state. -/
def OJ (w : World) (N lv wb b5 n : Nat) (G : Nat → List Nat) (Q : Nat) (rl : Loop) (W : World) : Prop :=
  ∃ k, k ≤ n ∧ (steps n G k (start n G)).ord.length = k ∧ OI w N lv wb b5 n (callersOf n G) Q rl (steps n G k (start n G)).ord (steps n G k (start n G)).ws (steps n G k (start n G)).rd W
theorem OJ.keeps {w : World} {N lv wb b5 n : Nat} {G : Nat → List Nat} {Q : Nat} {rl : Loop} (hT : Tab w) : TakenKeeps (Q + 1) (N + 3) lv wb (OJ w N lv wb b5 n G Q rl) := by
  rintro W ⟨k, hk, hlen, h⟩
  have hT2 := hT.below h.b (Nat.le_refl _)
  exact ⟨row_at h.bn 0 _ rfl, ⟨_, h.om.s⟩, hT2.at_, hT2.lt⟩
theorem ord_main {w wr W0 : World} {N lv wb b5 n : Nat} {G : Nat → List Nat} (hG : IsG n G) (hT : Tab w) (hl : Lay w.heap.size N lv wb b5) (hom : OM N lv wb b5 n (callersOf n G) (start n G).ws (start n G).rd wr) (hb : Below w.heap.size w wr)
    (hW0 : W0 = (wr.alloc (.cells #[.slice none 0 0] 36)).alloc (.cells #[.pointer (some ⟨N + 3, 0, none⟩)] 66))
    (rc : Loop) (hst : rc.state = .ready) (hpe : rc.pending = none) {Q : Exit → Act → World → Prop} {a : Act}
    (round : TakenRound 1 (W0.heap.size + 1) (N + 3) lv wb (OJ w N lv wb b5 n G wr.heap.size rc) (fun W => n + 1 - ordLen W wr.heap.size))
    (after : ∀ W' v, Below w.heap.size w W' → W'.heap[W0.heap.size]? = some (.deferred (some [])) → W'.heap[wr.heap.size]? = some (.cells [v].toArray 36 (0, 0)) → W'.ownsRow (wr.heap.size + 4) 3 1 v (orderL n G).length ((orderL n G).map iv) →
      Q .normal { a with defers := { target := .collected W0.heap.size, args := #[] } :: a.defers } (W'.putObj (W0.heap.size + 1) (.loop { rc with state := .exhausted }))) :
    CallsIn Fence.wide 2 Tryd.prog 43 (#[.func (.yield (W0.heap.size + 1)) #[] #[]] ++ #[.pointer (some ⟨wr.heap.size + 1, 0, none⟩)]) ((W0.alloc (.deferred (some []))).alloc (.loop rc)) (AfterLoop Tryd.prog 2 Q a W0.heap.size) := by
  have hz0 : W0.heap.size = wr.heap.size + 2 := by rw [hW0]; simp
  have hbw : Below W0.heap.size W0 ((W0.alloc (.deferred (some []))).alloc (.loop rc)) := ((Below.refl _ _).alloc (Nat.le_refl _) _).alloc (by simp) _
  have hb0 : Below wr.heap.size wr W0 := by rw [hW0]; exact ((Below.refl _ _).alloc (Nat.le_refl _) _).alloc (by simp) _
  have hbr : Below wr.heap.size wr ((W0.alloc (.deferred (some []))).alloc (.loop rc)) := hb0.trans (hbw.mono (by omega))
  have g : ∀ k o, W0.heap[k]? = some o → ((W0.alloc (.deferred (some []))).alloc (.loop rc)).heap[k]? = some o := fun k o hk => (hbw.block k (Array.getElem?_eq_some_iff.1 hk).1).trans hk
  have hJ0 : OJ w N lv wb b5 n G wr.heap.size rc ((W0.alloc (.deferred (some []))).alloc (.loop rc)) := by
    refine ⟨0, by omega, rfl, ?_, ?_, g _ _ ?_, hom.gb hl (gb_below (r := none) hbr) (fun b e => by cases e), ⟨_, g _ (.cells [.slice none 0 0].toArray 36 (0, 0)) ?_, World.ownsRow_nil _ _ _ _⟩, hb.trans (hbr.mono hb.size)⟩
    · rw [← hz0]; exact two_at0 _ _ _
    · rw [← hz0]; exact two_at _ _ _
    · rw [hW0]; exact two_at _ _ _
    · rw [hW0]; exact two_at0 _ _ _
  refine (taken_iter 1 (W0.heap.size + 1) (wr.heap.size + 1) (N + 3) lv wb _ _ (OJ.keeps hT) round _ hJ0).mono ?_
  rintro e W' ⟨hv, W1, ⟨k, hk, hlen, hJ⟩, hs0, m, rfl⟩
  have hrd : (steps n G k (start n G)).rd = 0 := by rw [← wordOf_set hJ.om.s, wordOf_set hs0]
  have hord := steps_last k hk hrd
  obtain ⟨v, h1, h2⟩ := hJ.box
  rw [hord] at h2
  have hd := hJ.d
  have hll := hJ.l
  rw [← hz0] at hd hll
  refine ⟨hv, rc, hll, by rw [hst]; exact fun hc => (by cases hc), ?_⟩
  split
  · exact after _ v (Below.drewN' hJ.b m) hd h1 (ownsRow_below h2 (Below.drewN' (Below.refl _ _) m))
  · rename_i c hc
    rw [hpe] at hc
    cases hc
theorem relax_take (cs : List Nat) (s : (Nat → Int) × Nat) (j c : Nat) (hc : cs[j]? = some c) : relax (cs.take (j + 1)) s = relax1 (relax (cs.take j) s) c := by
  rw [take_snoc _ _ _ hc, relax, List.foldl_append]
  rfl
/-- What is waited for stays small. -/
theorem relax_small {n : Nat} {G : Nat → List Nat} {s : St} (hG : IsG n G) (hL : ∀ f, f < n → (G f).length ≤ 1048576) (h : Inv n G s) (m y j c : Nat) (hc : c < n) :
    -1 ≤ (relax ((callersOf n G m).take j) (s.ws, y)).1 c ∧ (relax ((callersOf n G m).take j) (s.ws, y)).1 c ≤ 1048576 := by
  have hnd : ((callersOf n G m).take j).Nodup := List.Pairwise.sublist (List.take_sublist _ _) (callersOf_nodup n G m)
  rw [relax_ws _ _ hnd c]
  show -1 ≤ s.ws c - _ ∧ s.ws c - _ ≤ 1048576
  rw [h.ws c hc]
  have h1 := List.length_filter_le (fun k => !s.ord.contains k) (G c)
  have h2 := hL c hc
  split <;> omega
theorem wrap_dec (x : Int) (h1 : -1 ≤ x) (h2 : x ≤ 1048576) : IntKind.i64.wrap (x - 1) = x - 1 := by
  rw [IntKind.wrap_i64]
  omega
end Go.Proofs.YtchhbhgbpimegaaDoor
