/-
  The program's own Lex, by its contract: the document's own tokens, or its fault. Conditions: the listed variables marks and strconv.ErrRange hold what they hold; the text is shorter than 2^46 bytes.
-/
import Derived.Test.YtmebcenjghagoaaGreatDoorIter
import Derived.Test.YtmebcenjghagoaaGreatDoorRange
import Derived.Maps.OwnIn
import Derived.RangeFuncBox
namespace Go.Proofs.YtmebcenjghagoaaGreatDoor
open Go.RowKit Go.Shelf

attribute [local go_sem] Oper.semAt_some

/-- What Lex answers. -/
def LexAns (r : List Tk × (Nat × Nat)) (w : World) (e : Ending) (w' : World) : Prop :=
  ∃ v ev, e = .returned (.tuple #[v, ev]) ∧ OwnT w' w.heap.size v r.1 ∧ ErrL w' w.heap.size ev r.2 ∧ Below w.heap.size w w'
theorem OwnT.of_heap {w w' : World} {base : Nat} {v : Value} {l : List Tk} (h : OwnT w base v l) (hh : ∀ k, base ≤ k → k < w.heap.size → w'.heap[k]? = w.heap[k]?) : OwnT w' base v l := by
  refine ⟨h.1, ?_⟩
  rcases h.2 with h2 | ⟨g, cap, cur, hv, hg, hr, r⟩
  · exact Or.inl h2
  · exact Or.inr ⟨g, cap, cur, hv, hg, (hh g hg (Array.getElem?_eq_some_iff.1 hr).1).trans hr, r⟩
/-- Between two rounds. -/
structure JL (w : World) (D : Nat) (rc : Loop) (pre : List Tk) (W : World) : Prop where
  d : W.heap[D]? = some (.deferred (some []))
  l : W.heap[D + 1]? = some (.loop rc)
  r1 : W.heap[w.heap.size]? = some (.cells #[.slice none 0 0] 29 (0, 0))
  r2 : W.heap[w.heap.size + 1]? = some (.cells #[.nilIface] 31 (0, 0))
  v : ∃ v, W.heap[w.heap.size + 1 + 1]? = some (.cells #[v] 29 (0, 0)) ∧ OwnT W (D + 2) v pre
  b : Below w.heap.size w W
/-- Behind a round that has found a fault. -/
structure JX (w : World) (D : Nat) (rc : Loop) (f : Nat × Nat) (W : World) : Prop where
  d : W.heap[D]? = some (.deferred (some []))
  l : W.heap[D + 1]? = some (.loop { rc with state := .done, pending := some .ret })
  r1 : W.heap[w.heap.size]? = some (.cells #[.slice none 0 0] 29 (0, 0))
  r2 : ∃ b, w.heap.size ≤ b ∧ W.heap[w.heap.size + 1]? = some (.cells #[.iface 68 (.pointer (some ⟨b, 0, none⟩))] 31 (0, 0)) ∧ W.heap[b]? = some (.cells #[.int .i64 (f.1 : Int), .int .i64 (f.2 : Int)] 49 (0, 0))
  b : Below w.heap.size w W
theorem JL.grow {w : World} {D : Nat} {rc : Loop} {pre : List Tk} {W W' : World} (h : JL w D rc pre W) (hb : Below W.heap.size W W') : JL w D rc pre W' := by
  have g : ∀ k o, W.heap[k]? = some o → W'.heap[k]? = some o := fun k o hk => (hb.block k (Array.getElem?_eq_some_iff.1 hk).1).trans hk
  obtain ⟨v, hv, ho⟩ := h.v
  exact ⟨g _ _ h.d, g _ _ h.l, g _ _ h.r1, g _ _ h.r2, ⟨v, g _ _ hv, ho.of_heap fun k _ hk => hb.block k hk⟩, h.b.trans (hb.mono h.b.size)⟩
theorem cell_of_heap_eq {W1 W2 : World} {b o : Nat} (h : W1.heap[b]? = W2.heap[b]?) : W1.cell? ⟨b, o, none⟩ = W2.cell? ⟨b, o, none⟩ := by simp only [World.cell?, h]
theorem lexA_fault (s : ByteArray) (p : Nat) (acc : List Tk) (h : (lexA s p acc).2.1 ≠ 0) : (lexA s p acc).1 = [] := by
  induction hn : s.size - p using Nat.strongRecOn generalizing p acc with
  | _ n ih =>
    subst hn
    by_cases hp : p < s.size
    · by_cases h2 : (oneT s p).2.1 = 0
      · rw [lexA_step s p acc hp h2] at h ⊢
        have h3 := oneT_ok s p hp h2
        have h4 := gap_ge s (p + (oneT s p).1.t.size)
        exact ih _ (by omega) _ _ h rfl
      · rw [lexA_bad s p acc hp h2]
    · rw [lexA_end s p acc hp] at h
      exact absurd rfl h
theorem set2_other (X : World) (N D : Nat) (x y : Value) (o : Obj) (k : Nat) (h1 : k ≠ N) (h2 : k ≠ N + 1) (h3 : k ≠ D) : (((X.setCell ⟨N, 0, none⟩ x).setCell ⟨N + 1, 0, none⟩ y).putObj D o).heap[k]? = X.heap[k]? := by
  rw [World.putObj_heap_other h3, heap_setCell_other _ _ _ _ h2, heap_setCell_other _ _ _ _ h1]
theorem set2_rows (X : World) (N D : Nat) (x y x0 y0 : Value) (t1 t2 : TypeId) (o : Obj) (h1 : X.heap[N]? = some (.cells #[x0] t1 (0, 0))) (h2 : X.heap[N + 1]? = some (.cells #[y0] t2 (0, 0))) (hD : N + 1 < D) :
    (((X.setCell ⟨N, 0, none⟩ x).setCell ⟨N + 1, 0, none⟩ y).putObj D o).heap[N]? = some (.cells #[x] t1 (0, 0)) ∧ (((X.setCell ⟨N, 0, none⟩ x).setCell ⟨N + 1, 0, none⟩ y).putObj D o).heap[N + 1]? = some (.cells #[y] t2 (0, 0)) := by
  constructor
  · rw [World.putObj_heap_other (by omega), heap_setCell_other _ _ _ _ (by simp), heap_setCell_same X N 0 _ _ _ h1]
    rfl
  · rw [World.putObj_heap_other (by omega), heap_setCell_same (X.setCell ⟨N, 0, none⟩ x) (N + 1) 0 #[y0] t2 y (by rw [heap_setCell_other _ _ _ _ (by simp)]; exact h2)]
    rfl
theorem set2_cells (X : World) (N D : Nat) (x y x0 y0 : Value) (t1 t2 : TypeId) (o : Obj) (h1 : X.heap[N]? = some (.cells #[x0] t1 (0, 0))) (h2 : X.heap[N + 1]? = some (.cells #[y0] t2 (0, 0))) (hD : N + 1 < D) :
    (((X.setCell ⟨N, 0, none⟩ x).setCell ⟨N + 1, 0, none⟩ y).putObj D o).cell? ⟨N, 0, none⟩ = some x ∧ (((X.setCell ⟨N, 0, none⟩ x).setCell ⟨N + 1, 0, none⟩ y).putObj D o).cell? ⟨N + 1, 0, none⟩ = some y := by
  obtain ⟨a1, a2⟩ := set2_rows X N D x y x0 y0 t1 t2 o h1 h2 hD
  exact ⟨by rw [cell_of_row _ _ 0 _ _ _ a1]; rfl, by rw [cell_of_row _ _ 0 _ _ _ a2]; rfl⟩
theorem set2_below {w X : World} {N D : Nat} (h : Below N w X) (hD : N ≤ D) (x y : Value) (o : Obj) : Below N w (((X.setCell ⟨N, 0, none⟩ x).setCell ⟨N + 1, 0, none⟩ y).putObj D o) :=
  ⟨h.os, h.tape, h.output, by simpa using h.size, fun k hk => (set2_other X N D x y o k (by omega) (by omega) (by omega)).trans (h.block k hk)⟩
theorem put_below {w X : World} {N D : Nat} (h : Below N w X) (hD : N ≤ D) (o : Obj) : Below N w (X.putObj D o) :=
  ⟨h.os, h.tape, h.output, by simpa using h.size, fun k hk => (World.putObj_heap_other (by omega)).trans (h.block k hk)⟩
theorem leave_main {r : List Tk × (Nat × Nat)} {w W5 : World} {tmps : Array Value} {N : Nat} {x y : Value} (h2 : tmps.getD 2 undef = .pointer (some ⟨N, 0, none⟩)) (h3 : tmps.getD 3 undef = .pointer (some ⟨N + 1, 0, none⟩))
    (c1 : W5.cell? ⟨N, 0, none⟩ = some x) (c2 : W5.cell? ⟨N + 1, 0, none⟩ = some y) (h : LexAns r w (.returned (.tuple #[x, y])) W5) : LeavesInM Fence.wide 3 Tryz.prog Tryz.f13 tmps (LexAns r w) [] FrameMode.returning W5 := by
  have h2' : tmps[2]?.getD undef = .pointer (some ⟨N, 0, none⟩) := by simpa using h2
  have h3' : tmps[3]?.getD undef = .pointer (some ⟨N + 1, 0, none⟩) := by simpa using h3
  exact ⟨_, by simp [results, Tryz.results13, go_sem, h2', h3', c1, c2], h⟩
theorem iter_main (s : ByteArray) (w W0 : World) (hs : s.size ≤ 70368744177664) (hlen : ¬ 20000 < s.size) (hL : LaidL w) (hB0 : Below w.heap.size w W0) (hsz : W0.heap.size = w.heap.size + 4)
    (h1 : W0.heap[w.heap.size]? = some (.cells #[.slice none 0 0] 29 (0, 0))) (h2 : W0.heap[w.heap.size + 1]? = some (.cells #[.nilIface] 31 (0, 0)))
    (h3 : W0.heap[w.heap.size + 1 + 1]? = some (.cells #[.slice none 0 0] 29 (0, 0))) (h4 : W0.heap[w.heap.size + 1 + 1 + 1]? = some (.cells #[.string s] 9 (0, 0)))
    (rc : Loop) (hst : rc.state = .ready) (hpe : rc.pending = none) {Q : Exit → Act → World → Prop} {a : Act}
    (r1 : Round1 1 (W0.heap.size + 1) w.heap.size (w.heap.size + 1 + 1 + 1) (JL w W0.heap.size rc)) (r2 : Round2 1 (W0.heap.size + 1) w.heap.size (JL w W0.heap.size rc) (JX w W0.heap.size rc))
    (after1 : ∀ W', JL w W0.heap.size rc (lexB s).1 W' → (lexB s).2.1 = 0 → Q .normal { a with defers := { target := .collected W0.heap.size, args := #[] } :: a.defers } (W'.putObj (W0.heap.size + 1) (.loop { rc with state := .exhausted })))
    (after2 : ∀ W', JX w W0.heap.size rc (lexB s).2 W' → (lexB s).2.1 ≠ 0 → Code.ret.wpIn Fence.wide (2 + 1) Tryz.prog Q { a with defers := { target := .collected W0.heap.size, args := #[] } :: a.defers } (W'.putObj (W0.heap.size + 1) (.loop { rc with state := .exhausted, pending := some .ret }))) :
    CallsIn Fence.wide 2 Tryz.prog 45 (#[.func (.yield (W0.heap.size + 1)) #[] #[]] ++ #[.pointer (some ⟨w.heap.size + 1 + 1 + 1, 0, none⟩)]) ((W0.alloc (.deferred (some []))).alloc (.loop rc)) (AfterLoop Tryz.prog 2 Q a W0.heap.size) := by
  have hlt := hL.lt
  have hbw : Below W0.heap.size W0 ((W0.alloc (.deferred (some []))).alloc (.loop rc)) := ((Below.refl _ _).alloc (Nat.le_refl _) _).alloc (by simp) _
  have g : ∀ k o, W0.heap[k]? = some o → ((W0.alloc (.deferred (some []))).alloc (.loop rc)).heap[k]? = some o := fun k o hk => (hbw.block k (Array.getElem?_eq_some_iff.1 hk).1).trans hk
  have hb : Below w.heap.size w ((W0.alloc (.deferred (some []))).alloc (.loop rc)) := hB0.trans (hbw.mono (by omega))
  have hJ0 : JL w W0.heap.size rc [] ((W0.alloc (.deferred (some []))).alloc (.loop rc)) := by
    refine ⟨?_, heap_alloc2_new _ _ _, g _ _ h1, g _ _ h2, ⟨_, g _ _ h3, World.ownsRow_nil _ _ _ _⟩, hb⟩
    rw [Go.heap_alloc_old _ _ (by simp)]
    exact alloc_at _ _ _ rfl
  refine (tokens_iter 1 (W0.heap.size + 1) (w.heap.size + 1 + 1 + 1) w.heap.size s _ _ hs hlen (fun pre W W' h hb => h.grow hb) r1 r2 _ ?_ (hL.below hb hlt) hJ0 hb.size hlt).mono ?_
  · rw [cell_of_row _ _ 0 _ _ _ (g _ _ h4)]
    rfl
  · rintro e W' ⟨hv, h | h⟩
    · refine ⟨hv, rc, h.2.l, by rw [hst]; exact fun hc => (by cases hc), ?_⟩
      split
      · exact after1 W' h.2 h.1
      · rename_i c hc
        rw [hpe] at hc
        cases hc
    · exact ⟨hv, _, h.2.l, fun hc => (by cases hc), after2 W' h.2 h.1⟩
set_option maxRecDepth 100000 in
set_option maxHeartbeats 1000000 in
theorem Lex_main (s : ByteArray) (w : World) (hL : LaidL w) (hs : s.size ≤ 70368744177664) (hlen : ¬ 20000 < s.size) :
    Calls Tryz.prog 13 #[.string s] w (LexAns (lexS s) w) := by
  have hi : ¬ (20000 : Int) < (s.size : Int) := by omega
  have HS : Hid (lexS s = lexB s) := by unfold lexS lexB; rw [Hid, if_neg hlen]
  have HL := Lib.hid hL
  have HN := Lib.hid (And.intro hs hlen)
  clear hL hs hlen
  refine (callsIn_wide (n := 3)).1 ?_
  refine callsIn_of_wp_marks Tryz.func13 rfl trivial ?_ rfl
  simp only [Tryz.ntmps13, List.size_toArray, List.length_cons, List.length_nil, Nat.reduceAdd, Nat.reduceSub, Array.replicate_succ, Array.replicate_zero, List.push_toArray, List.append_toArray, List.nil_append, List.cons_append]
  gi_wp2_with (refine ⟨trivial, ?_⟩; gi_at_call 31; refine (callsIn_wide.2 (tokensOf_any s _)).mono ?_; rintro e w' ⟨rfl, rfl⟩)
  have hB0 : Below w.heap.size w ((((w.alloc (.cells #[.slice none 0 0] 29)).alloc (.cells #[.nilIface] 31)).alloc (.cells #[.slice none 0 0] 29)).alloc (.cells #[.string s] 9)) := ((((Below.refl _ w).alloc (Nat.le_refl _) _).alloc (by simp) _).alloc (by simp; omega) _).alloc (by simp; omega) _
  have hsz : ((((w.alloc (.cells #[.slice none 0 0] 29)).alloc (.cells #[.nilIface] 31)).alloc (.cells #[.slice none 0 0] 29)).alloc (.cells #[.string s] 9)).heap.size = w.heap.size + 4 := by simp
  have h1 : ((((w.alloc (.cells #[.slice none 0 0] 29)).alloc (.cells #[.nilIface] 31)).alloc (.cells #[.slice none 0 0] 29)).alloc (.cells #[.string s] 9)).heap[w.heap.size]? = some (.cells #[.slice none 0 0] 29 (0, 0)) := by
    rw [Go.heap_alloc_old _ _ (by simp; omega), Go.heap_alloc_old _ _ (by simp; omega), Go.heap_alloc_old _ _ (by simp)]
    exact alloc_at _ _ _ rfl
  have h2 : ((((w.alloc (.cells #[.slice none 0 0] 29)).alloc (.cells #[.nilIface] 31)).alloc (.cells #[.slice none 0 0] 29)).alloc (.cells #[.string s] 9)).heap[w.heap.size + 1]? = some (.cells #[.nilIface] 31 (0, 0)) := by
    rw [Go.heap_alloc_old _ _ (by simp), Go.heap_alloc_old _ _ (by simp)]
    exact alloc_at _ _ _ (by simp)
  have h3 : ((((w.alloc (.cells #[.slice none 0 0] 29)).alloc (.cells #[.nilIface] 31)).alloc (.cells #[.slice none 0 0] 29)).alloc (.cells #[.string s] 9)).heap[w.heap.size + 1 + 1]? = some (.cells #[.slice none 0 0] 29 (0, 0)) := by
    rw [Go.heap_alloc_old _ _ (by simp)]
    exact alloc_at _ _ _ (by simp)
  have h4 : ((((w.alloc (.cells #[.slice none 0 0] 29)).alloc (.cells #[.nilIface] 31)).alloc (.cells #[.slice none 0 0] 29)).alloc (.cells #[.string s] 9)).heap[w.heap.size + 1 + 1 + 1]? = some (.cells #[.string s] 9 (0, 0)) := alloc_at _ _ _ (by simp)
  obtain ⟨W0, hW0⟩ : ∃ W0, ((((w.alloc (.cells #[.slice none 0 0] 29)).alloc (.cells #[.nilIface] 31)).alloc (.cells #[.slice none 0 0] 29)).alloc (.cells #[.string s] 9)) = W0 := ⟨_, rfl⟩
  rw [hW0] at hB0 hsz h1 h2 h3 h4 ⊢
  clear hW0
  refine range_wide (n := 2) (gf := 45) (lb := #[.pointer (some ⟨w.heap.size + 1 + 1 + 1, 0, none⟩)]) rfl (enters_of Tryz.func45 (by kernel_rfl) rfl) (fun fn => ?_)
  refine iter_main s w W0 HN.out.1 HN.out.2 HL.out hB0 hsz h1 h2 h3 h4 _ rfl rfl ?r1 ?r2 ?a1 ?a2
  case r1 =>
    intro pre tk W hj hpl
    obtain ⟨i0, hi0, hz0, hz1, hz2⟩ := info_parts tkinfo
    have H9 := Lib.hid hz0
    have H10 := Lib.hid hz1
    have H11 := Lib.hid hz2
    have H12 := Lib.hid hi0
    clear hz0 hz1 hz2 hi0
    have hD : w.heap.size + 1 + 1 + 1 < W0.heap.size := by omega
    have hga : Below W.heap.size W (W.alloc (.cells #[.int .i64 (tk.k : Int), .int .i64 (tk.p : Int), .int .i64 (tk.l : Int), .string tk.t, .int .i64 tk.n] 38)) := (Below.refl _ _).alloc (Nat.le_refl _) _
    have hgb : Below W.heap.size W ((W.alloc (.cells #[.int .i64 (tk.k : Int), .int .i64 (tk.p : Int), .int .i64 (tk.l : Int), .string tk.t, .int .i64 tk.n] 38)).alloc (.cells #[.int .i64 (tk.k : Int), .int .i64 (tk.p : Int), .int .i64 (tk.l : Int), .string tk.t, .int .i64 tk.n] 38)) := hga.alloc (by simp) _
    refine yield_wide (hj.grow hga).l rfl rfl ?_
    have hj2 := hj.grow hgb
    have ht1 : ((W.alloc (.cells #[.int .i64 (tk.k : Int), .int .i64 (tk.p : Int), .int .i64 (tk.l : Int), .string tk.t, .int .i64 tk.n] 38)).alloc (.cells #[.int .i64 (tk.k : Int), .int .i64 (tk.p : Int), .int .i64 (tk.l : Int), .string tk.t, .int .i64 tk.n] 38)).heap[W.heap.size]? = some (.cells #[.int .i64 (tk.k : Int), .int .i64 (tk.p : Int), .int .i64 (tk.l : Int), .string tk.t, .int .i64 tk.n] 38 (0, 0)) := by
      rw [Go.heap_alloc_old _ _ (by simp)]
      exact alloc_at _ _ _ rfl
    have ht2 : ((W.alloc (.cells #[.int .i64 (tk.k : Int), .int .i64 (tk.p : Int), .int .i64 (tk.l : Int), .string tk.t, .int .i64 tk.n] 38)).alloc (.cells #[.int .i64 (tk.k : Int), .int .i64 (tk.p : Int), .int .i64 (tk.l : Int), .string tk.t, .int .i64 tk.n] 38)).heap[W.heap.size + 1]? = some (.cells #[.int .i64 (tk.k : Int), .int .i64 (tk.p : Int), .int .i64 (tk.l : Int), .string tk.t, .int .i64 tk.n] 38 (0, 0)) := alloc_at _ _ _ (by simp)
    have hts : ((W.alloc (.cells #[.int .i64 (tk.k : Int), .int .i64 (tk.p : Int), .int .i64 (tk.l : Int), .string tk.t, .int .i64 tk.n] 38)).alloc (.cells #[.int .i64 (tk.k : Int), .int .i64 (tk.p : Int), .int .i64 (tk.l : Int), .string tk.t, .int .i64 tk.n] 38)).heap.size = W.heap.size + 1 + 1 := by simp
    generalize hWt : (W.alloc (.cells #[.int .i64 (tk.k : Int), .int .i64 (tk.p : Int), .int .i64 (tk.l : Int), .string tk.t, .int .i64 tk.n] 38)).alloc (.cells #[.int .i64 (tk.k : Int), .int .i64 (tk.p : Int), .int .i64 (tk.l : Int), .string tk.t, .int .i64 tk.n] 38) = Wt at hj2 hgb ht1 ht2 hts
    have HWt := Lib.hid hWt
    have hlt : W0.heap.size + 1 < W.heap.size := (Array.getElem?_eq_some_iff.1 hj.l).1
    obtain ⟨v, hv, ho⟩ := hj2.v
    obtain ⟨va, vc, rfl⟩ := ho.form
    obtain ⟨v', hv', ho'⟩ := hj.v
    have hvv : v' = .slice va pre.length vc := by
      have := (hgb.block _ (Array.getElem?_eq_some_iff.1 hv').1).trans hv'
      rw [hv] at this
      simpa using this.symm
    subst hvv
    have hown : ∀ k, some k = (Value.slice va pre.length vc).ownBlock → k < W.heap.size ∧ W0.heap.size + 2 ≤ k := fun k hk => by
      have := World.ownsRow.lt ho' k hk.symm
      omega
    have g : ∀ k o, k ≠ W0.heap.size + 1 → Wt.heap[k]? = some o → ∀ x, (Wt.putObj (W0.heap.size + 1) x).heap[k]? = some o := fun k o hk h x => (World.putObj_heap_other hk).trans h
    have k3 := g _ _ (by omega) hv
    have k5 := g _ _ (by omega) ht2
    have c3 : ∀ x, (Wt.putObj (W0.heap.size + 1) x).cell? ⟨w.heap.size + 1 + 1, 0, none⟩ = some (.slice va pre.length vc) := fun x => by rw [cell_of_row _ _ 0 _ _ _ (k3 x)]; rfl
    have f3 : ∀ x, (Wt.putObj (W0.heap.size + 1) x).frozen? ⟨w.heap.size + 1 + 1, 0, none⟩ = false := fun x => by simp [World.frozen?, k3 x]
    have d0 : ∀ x, (Wt.putObj (W0.heap.size + 1) x).cell? ⟨W.heap.size + 1, 0, none⟩ = some (.int .i64 (tk.k : Int)) := fun x => by rw [cell_of_row _ _ 0 _ _ _ (k5 x)]; rfl
    have d1 : ∀ x, (Wt.putObj (W0.heap.size + 1) x).cell? ⟨W.heap.size + 1, 1, none⟩ = some (.int .i64 (tk.p : Int)) := fun x => by rw [cell_of_row _ _ 1 _ _ _ (k5 x)]; rfl
    have d2 : ∀ x, (Wt.putObj (W0.heap.size + 1) x).cell? ⟨W.heap.size + 1, 2, none⟩ = some (.int .i64 (tk.l : Int)) := fun x => by rw [cell_of_row _ _ 2 _ _ _ (k5 x)]; rfl
    have d3 : ∀ x, (Wt.putObj (W0.heap.size + 1) x).cell? ⟨W.heap.size + 1, 3, none⟩ = some (.string tk.t) := fun x => by rw [cell_of_row _ _ 3 _ _ _ (k5 x)]; rfl
    have d4 : ∀ x, (Wt.putObj (W0.heap.size + 1) x).cell? ⟨W.heap.size + 1, 4, none⟩ = some (.int .i64 tk.n) := fun x => by rw [cell_of_row _ _ 4 _ _ _ (k5 x)]; rfl
    have HO := Lib.hid (fun x => ho.of_heap (w' := Wt.putObj (W0.heap.size + 1) x) fun k hk _ => World.putObj_heap_other (by omega))
    have HJ := Lib.hid hj
    have HJ2 := Lib.hid hj2
    have HGB := Lib.hid hgb
    have HT1 := Lib.hid ht1
    have HOW := Lib.hid hown
    have HTS := Lib.hid hts
    have hts2 : W.heap.size + 1 + 1 ≤ Wt.heap.size := by omega
    have hne : ∀ k, (W0.heap.size + 2 ≤ k → W.heap.size ≤ k) → some k ≠ (Value.slice va pre.length vc).ownBlock := fun k hk e => by have := hown k e; omega
    have HNE := Lib.hid hne
    have hL2 := hj2.l
    simp only [rec0] at hL2 ⊢
    have HL2 := Lib.hid hL2
    have HK3 := Lib.hid k3
    clear hga hgb hj hj2 ht1 ht2 hts hWt hv ho hv' ho' hown hne g k3 k5 hL2 h1 h2 h3 h4 hB0 hsz
    gi_wp2
    rw [HWt.out]
    refine ⟨HL2.out, ?_⟩
    gi_wp2_with (gi_at_builtin; go_must (refine wpListIn_append_own_at _ rfl (.tmp 18) (.tmp 20) _ rfl (W0.heap.size + 2) 38 i0 _ 5 48 Tryz.underlying29 H12.out H9.out H10.out H11.out rfl (by omega) (.slice va pre.length vc) pre.length (pre.flatMap tkC) rfl ((HO.out _).alloc _) ⟨Wt.heap.size, 0, none⟩ 1 1 (tkC tk) rfl rfl (news_tk _ tk _ (by simp)) (tkC_one tk) (by simp only [maxLen]; omega) (by omega) (by simp; omega) ?_; intro v3 w3 hown3 hg3 _ hblk3; obtain ⟨g3, cap3, rfl⟩ := ownsRow_succ hown3; have O3 := Lib.hid hown3; have G3 := Lib.hid hg3; clear hown3 hg3 hblk3; have e3 : w3.cell? ⟨w.heap.size + 1 + 1, 0, none⟩ = some (.slice va pre.length vc) := (G3.out.cell_far _ (by simp; omega) (HNE.out (w.heap.size + 1 + 1) (by intro; omega))).trans ((World.cell?_alloc_lt _ _ ⟨w.heap.size + 1 + 1, 0, none⟩ (by simp; omega)).trans (c3 _)); have f4 : w3.frozen? ⟨w.heap.size + 1 + 1, 0, none⟩ = false := (G3.out.frozen_far _ (by simp; omega) (HNE.out (w.heap.size + 1 + 1) (by intro; omega))).trans ((World.frozen?_alloc_old _ _ ⟨w.heap.size + 1 + 1, 0, none⟩ (by simp; omega)).trans (f3 _))))
    have key : ∀ k, k ≠ w.heap.size + 1 + 1 → k < W.heap.size + 2 → (W0.heap.size + 2 ≤ k → W.heap.size ≤ k) → (w3.setCell ⟨w.heap.size + 1 + 1, 0, none⟩ (.slice (some ⟨g3, 0, none⟩) (pre.length + 1) cap3)).heap[k]? = (Wt.putObj (W0.heap.size + 1) _).heap[k]? := fun k h1 h2 h3 => (heap_setCell_other _ _ _ _ h1).trans ((G3.out.block k (by simp; omega) (HNE.out k h3)).trans (Go.heap_alloc_old _ _ (by simp; omega)))
    have hz3 := G3.out.size
    simp only [World.size_alloc, World.putObj_size] at hz3
    have hw3 : w3.heap[w.heap.size + 1 + 1]? = some (.cells #[.slice va pre.length vc] 29 (0, 0)) := (G3.out.block _ (by simp; omega) (HNE.out _ (by intro; omega))).trans ((Go.heap_alloc_old _ _ (by simp; omega)).trans (HK3.out _))
    have hB : ∀ {x : World} (o : Obj), Below w.heap.size x Wt → Below w.heap.size x ((w3.setCell ⟨w.heap.size + 1 + 1, 0, none⟩ (.slice (some ⟨g3, 0, none⟩) (pre.length + 1) cap3)).putObj (W0.heap.size + 1) o) := fun o h => put_below (((((put_below h (show w.heap.size ≤ W0.heap.size + 1 by omega) _).alloc (by simp; omega) _).grown G3.out (by simp; omega) (fun k hk => by have := HOW.out k hk.symm; omega))).setCell (p := ⟨w.heap.size + 1 + 1, 0, none⟩) (by simp; omega) _) (by omega) o
    refine ⟨(key _ (by omega) (by omega) (by omega)).trans (World.putObj_heap_same (by omega)), rfl, ⟨?_, ?_, ?_, ?_, ⟨.slice (some ⟨g3, 0, none⟩) (pre.length + 1) cap3, ?_, ?_⟩, ?_⟩, ?_, ?_, ?_⟩
    · exact (World.putObj_heap_other (by omega)).trans ((key _ (by omega) (by omega) (by omega)).trans ((World.putObj_heap_other (by omega)).trans HJ2.out.d))
    · exact World.putObj_heap_same (by simp; omega)
    · exact (World.putObj_heap_other (by omega)).trans ((key _ (by omega) (by omega) (by omega)).trans ((World.putObj_heap_other (by omega)).trans HJ2.out.r1))
    · exact (World.putObj_heap_other (by omega)).trans ((key _ (by omega) (by omega) (by omega)).trans ((World.putObj_heap_other (by omega)).trans HJ2.out.r2))
    · exact (World.putObj_heap_other (by omega)).trans (heap_setCell_same _ _ 0 _ _ _ hw3)
    · exact (OwnT.snoc O3.out).of_heap fun k hk _ => (World.putObj_heap_other (by omega)).trans (heap_setCell_other _ _ _ _ (by simp; omega))
    · exact hB _ HJ2.out.b
    · exact hB _ (HGB.out.mono HJ.out.b.size)
    · exact cell_of_heap_eq ((World.putObj_heap_other (by omega)).trans ((key _ (by omega) (by omega) (by omega)).trans ((World.putObj_heap_other (by omega)).trans (HGB.out.block _ (by omega)))))
    · exact (World.putObj_heap_other (by omega)).trans ((key _ (by omega) (by omega) (by omega)).trans ((World.putObj_heap_other (by omega)).trans HT1.out))
  case r2 =>
    intro pre b f W hj hnb hf hrow
    refine yield_wide hj.l rfl rfl ?_
    have hD : w.heap.size + 1 + 1 + 1 < W0.heap.size := by omega
    have hg : Below W.heap.size W (W.alloc (.cells #[.int .i64 0, .int .i64 0, .int .i64 0, .string ⟨#[]⟩, .int .i64 0] 38)) := (Below.refl _ _).alloc (Nat.le_refl _) _
    have hj2 := hj.grow hg
    have hrow2 := (hg.block b (Array.getElem?_eq_some_iff.1 hrow).1).trans hrow
    generalize hWt : W.alloc (.cells #[.int .i64 0, .int .i64 0, .int .i64 0, .string ⟨#[]⟩, .int .i64 0] 38) = Wt at hj2 hrow2
    have HWt := Lib.hid hWt
    have hlt : W0.heap.size + 1 < Wt.heap.size := (Array.getElem?_eq_some_iff.1 hj2.l).1
    have n1 : b ≠ W0.heap.size + 1 := by rintro rfl; rw [hj2.l] at hrow2; cases hrow2
    have n2 : b ≠ w.heap.size := by rintro rfl; rw [hj2.r1] at hrow2; cases hrow2
    have n3 : b ≠ w.heap.size + 1 := by rintro rfl; rw [hj2.r2] at hrow2; cases hrow2
    have HJ2 := Lib.hid hj2
    have HR2 := Lib.hid hrow2
    have g : ∀ k o, k ≠ W0.heap.size + 1 → Wt.heap[k]? = some o → ∀ x, (Wt.putObj (W0.heap.size + 1) x).heap[k]? = some o := fun k o hk h x => (World.putObj_heap_other hk).trans h
    have k1 := g _ _ (by omega) hj2.r1
    have k2 := g _ _ (by omega) hj2.r2
    have q1 : ∀ x, (Wt.putObj (W0.heap.size + 1) x).cell? ⟨w.heap.size, 0, none⟩ = some (.slice none 0 0) := fun x => by rw [cell_of_row _ _ 0 _ _ _ (k1 x)]; rfl
    have f1 : ∀ x, (Wt.putObj (W0.heap.size + 1) x).frozen? ⟨w.heap.size, 0, none⟩ = false := fun x => by simp [World.frozen?, k1 x]
    have q2 : ∀ x, (Wt.putObj (W0.heap.size + 1) x).cell? ⟨w.heap.size + 1, 0, none⟩ = some .nilIface := fun x => by rw [cell_of_row _ _ 0 _ _ _ (k2 x)]; rfl
    have f2 : ∀ x, (Wt.putObj (W0.heap.size + 1) x).frozen? ⟨w.heap.size + 1, 0, none⟩ = false := fun x => by simp [World.frozen?, k2 x]
    have HG := Lib.hid g
    have hL2 := hj2.l
    simp only [rec0] at hL2 ⊢
    have HL2 := Lib.hid hL2
    clear hg hj hrow hj2 hrow2 hf hWt g k1 k2 hL2 h1 h2 h3 h4 hB0 hsz
    gi_wp2
    rw [HWt.out]
    refine ⟨HL2.out, ?_⟩
    gi_wp2
    refine ⟨?_, rfl, ⟨?_, ?_, ?_, ⟨b, hnb, ?_, ?_⟩, ?_⟩⟩
    · rw [heap_setCell_other _ _ _ _ (by simp; omega), heap_setCell_other _ _ _ _ (by simp; omega), World.putObj_heap_same hlt]
    · exact (set2_other _ _ _ _ _ _ _ (by omega) (by omega) (by omega)).trans ((World.putObj_heap_other (by omega)).trans HJ2.out.d)
    · exact World.putObj_heap_same (by simpa using hlt)
    · exact (set2_rows _ _ _ _ _ _ _ _ _ _ (HG.out _ _ (by omega) HJ2.out.r1 _) (HG.out _ _ (by omega) HJ2.out.r2 _) (by omega)).1
    · exact (set2_rows _ _ _ _ _ _ _ _ _ _ (HG.out _ _ (by omega) HJ2.out.r1 _) (HG.out _ _ (by omega) HJ2.out.r2 _) (by omega)).2
    · exact (set2_other _ _ _ _ _ _ _ n2 n3 n1).trans (HG.out _ _ n1 HR2.out _)
    · exact set2_below (put_below HJ2.out.b (by omega) _) (by omega) _ _ _
  case a1 =>
    intro W' hj h0
    obtain ⟨v, hv, ho⟩ := hj.v
    obtain ⟨va, vc, rfl⟩ := ho.form
    have hlt : w.heap.size + 1 + 1 + 1 < W'.heap.size := by have := (Array.getElem?_eq_some_iff.1 hj.d).1; omega
    have g : ∀ k o, k ≠ W0.heap.size + 1 → W'.heap[k]? = some o → ∀ x, (W'.putObj (W0.heap.size + 1) x).heap[k]? = some o := fun k o hk h x => (World.putObj_heap_other hk).trans h
    have k1 := g _ _ (by omega) hj.r1
    have k2 := g _ _ (by omega) hj.r2
    have k3 := g _ _ (by omega) hv
    have kd := g _ _ (by omega) hj.d
    have ko : ∀ x, OwnT (W'.putObj (W0.heap.size + 1) x) (W0.heap.size + 2) (.slice va (lexB s).1.length vc) (lexB s).1 := fun x => ho.of_heap fun k hk _ => World.putObj_heap_other (by omega)
    have kb : ∀ x, Below w.heap.size w (W'.putObj (W0.heap.size + 1) x) := fun x => belowK_b (w := w) (Nat.le_refl _) W' _ _ x (by omega) hj.l rfl rfl |> fun h => hj.b.trans h
    have q1 : ∀ x, (W'.putObj (W0.heap.size + 1) x).cell? ⟨w.heap.size, 0, none⟩ = some (.slice none 0 0) := fun x => by rw [cell_of_row _ _ 0 _ _ _ (k1 x)]; rfl
    have f1 : ∀ x, (W'.putObj (W0.heap.size + 1) x).frozen? ⟨w.heap.size, 0, none⟩ = false := fun x => by simp [World.frozen?, k1 x]
    have q2 : ∀ x, (W'.putObj (W0.heap.size + 1) x).cell? ⟨w.heap.size + 1, 0, none⟩ = some .nilIface := fun x => by rw [cell_of_row _ _ 0 _ _ _ (k2 x)]; rfl
    have f2 : ∀ x, (W'.putObj (W0.heap.size + 1) x).frozen? ⟨w.heap.size + 1, 0, none⟩ = false := fun x => by simp [World.frozen?, k2 x]
    have q3 : ∀ x, (W'.putObj (W0.heap.size + 1) x).cell? ⟨w.heap.size + 1 + 1, 0, none⟩ = some (.slice va (lexB s).1.length vc) := fun x => by rw [cell_of_row _ _ 0 _ _ _ (k3 x)]; rfl
    have HKD := Lib.hid kd
    have HK1 := Lib.hid k1
    have HK2 := Lib.hid k2
    have HKO := Lib.hid ko
    have HKB := Lib.hid kb
    have HH := Lib.hid h0
    have hD : w.heap.size + 1 + 1 + 1 < W0.heap.size := by omega
    clear k1 k2 k3 kd ko kb g hj hv ho h1 h2 h3 h4 hB0 h0 hsz
    gi_wp2
    refine ⟨by simp, .inl ⟨_, _, rfl, run_takeDeferred (by rw [heap_setCell_other _ _ _ _ (by simp; omega), heap_setCell_other _ _ _ _ (by simp; omega)]; exact HKD.out _), ?_⟩⟩
    exact leave_main (N := w.heap.size) rfl rfl (set2_cells _ _ _ _ _ _ _ _ _ _ (HK1.out _) (HK2.out _) (by omega)).1 (set2_cells _ _ _ _ _ _ _ _ _ _ (HK1.out _) (HK2.out _) (by omega)).2 ⟨_, _, rfl, by rw [HS.out]; exact OwnT.mono ((HKO.out _).of_heap fun k hk _ => set2_other _ _ _ _ _ _ k (by omega) (by omega) (by omega)) (by omega), by rw [HS.out]; exact Or.inl ⟨HH.out, rfl⟩, set2_below (HKB.out _) (by omega) _ _ _⟩
  case a2 =>
    intro W' hj h0
    obtain ⟨b, hb0, hr2, hrb⟩ := hj.r2
    have hD : w.heap.size + 1 + 1 + 1 < W0.heap.size := by omega
    have g : ∀ k o, k ≠ W0.heap.size + 1 → W'.heap[k]? = some o → ∀ x, (W'.putObj (W0.heap.size + 1) x).heap[k]? = some o := fun k o hk h x => (World.putObj_heap_other hk).trans h
    have g2 : ∀ k o, k ≠ W0.heap.size + 1 → k ≠ W0.heap.size → W'.heap[k]? = some o → ∀ x y, ((W'.putObj (W0.heap.size + 1) x).putObj W0.heap.size y).heap[k]? = some o := fun k o hk hk2 h x y => (World.putObj_heap_other hk2).trans (g k o hk h x)
    have n1 : b ≠ W0.heap.size + 1 := by rintro rfl; rw [hj.l] at hrb; cases hrb
    have n2 : b ≠ W0.heap.size := by rintro rfl; rw [hj.d] at hrb; cases hrb
    have K1 := Lib.hid (g2 _ _ (by omega) (by omega) hj.r1)
    have K2 := Lib.hid (g2 _ _ (by omega) (by omega) hr2)
    have K3 := Lib.hid (g2 _ _ n1 n2 hrb)
    have KD := Lib.hid (g _ _ (by omega) hj.d)
    have KB := Lib.hid (fun x y => put_below (put_below hj.b (show w.heap.size ≤ W0.heap.size + 1 by omega) x) (show w.heap.size ≤ W0.heap.size by omega) y)
    have HH := Lib.hid h0
    have HE := Lib.hid (lexA_fault s (gap s 0) [] h0)
    clear g g2 hj hr2 hrb h0 h1 h2 h3 h4 hB0 hsz n1 n2
    gi_wp2
    refine ⟨by simp, .inl ⟨_, _, rfl, run_takeDeferred (KD.out _), ?_⟩⟩
    exact leave_main (N := w.heap.size) rfl rfl (by rw [cell_of_row _ _ 0 _ _ _ (K1.out _ _)]; rfl) (by rw [cell_of_row _ _ 0 _ _ _ (K2.out _ _)]; rfl) ⟨_, _, rfl, by rw [HS.out, show (lexB s).1 = [] from HE.out]; exact World.ownsRow_nil _ _ _ _, by rw [HS.out]; exact Or.inr ⟨HH.out, b, hb0, rfl, K3.out _ _⟩, KB.out _ _⟩
end Go.Proofs.YtmebcenjghagoaaGreatDoor
