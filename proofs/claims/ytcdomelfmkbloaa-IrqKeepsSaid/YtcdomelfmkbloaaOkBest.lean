/-
  The program's ready and the rank that Choose hands over, by their contracts.
-/
import Derived.Test.YtcdomelfmkbloaaOkReady
namespace Go.Proofs.Ytcdomelfmkbloaa
open Go.RowKit
set_option linter.unusedVariables false
theorem name_third {Q : World → Prop} {w : World} {A B C : Array Value} {s t u : TypeId} (h : ∀ W, W.heap[w.heap.size]? = some (.cells A s) → W.heap[w.heap.size + 1]? = some (.cells B t) → W.heap[w.heap.size + 1 + 1]? = some (.cells C u) → W.heap.size = w.heap.size + 1 + 1 + 1 → Below w.heap.size w W → Q W) :
    Q (((w.alloc (.cells A s)).alloc (.cells B t)).alloc (.cells C u)) := by
  have hz : ((w.alloc (.cells A s)).alloc (.cells B t)).heap.size = w.heap.size + 1 + 1 := by simp
  have h2 : Below ((w.alloc (.cells A s)).alloc (.cells B t)).heap.size ((w.alloc (.cells A s)).alloc (.cells B t)) (((w.alloc (.cells A s)).alloc (.cells B t)).alloc (.cells C u)) := (Below.refl _ _).alloc (Nat.le_refl _) _
  refine h _ ((h2.block _ (by omega)).trans (two_at0 _ _ _)) ((h2.block _ (by omega)).trans (two_at _ _ _)) ?_ (by simp) ((two_below _ _ _).trans (h2.mono (by omega)))
  rw [← hz]
  exact alloc_at _ _
theorem rank_any (ps : List Int) (v q : Nat) (w : World) (hp : PsOk ps) (hv : v < 8) (hr : PRow w q ps) :
    Calls Try.prog 21 #[.int .i64 (v : Int), .pointer (some ⟨q, 0, none⟩)] w fun x w' => x = .returned (.int .i64 (prio ps v)) ∧ w' = w := by
  have hc := hr.at hp v hv
  have hI := run_index_eight q v w hv
  clear hr hp
  go_enter Try.func21, Try.ntmps21
  go_wp2
  go_ret
  exact ⟨rfl, rfl⟩
set_option maxRecDepth 100000 in
set_option maxHeartbeats 1000000 in
theorem ready_any (c : Ic) (ps : List Int) (lev : Int) (mk : Nat) (w : World) (h : c.ok) (hp : PsOk ps) (h0 : -9223372036854775808 ≤ lev) (h1 : lev ≤ 9223372036854775807) (hm : mk < 256) :
    Calls Try.prog 20 #[cv c, pv ps, .int .i64 lev, .int .u8 (mk : Int)] w fun x w' => ∃ q lb wb lk, x = .returned (.func (.func 26) #[] #[.pointer (some ⟨q, 0, none⟩), .pointer (some ⟨lb, 0, none⟩), .pointer (some ⟨wb, 0, none⟩)]) ∧ Env w' q lb wb lk c ps lev mk ∧ Below w.heap.size w w' := by
  unfold cv pv
  go_enter Try.func20, Try.ntmps20
  go_upto_region 1 with (fail)
  refine name_third (Q := fun X => Code.wp _ _ _ _ X) ?_
  intro W0 hq1 hq2 hq3 hz hB0
  have RC : CRow W0 w.heap.size 23 c := hq1
  have RP : Hid (PRow W0 (w.heap.size + 1) ps) := Lib.hid hq2
  have RL : Hid (VRow W0 (w.heap.size + 1 + 1) 3 [.int .i64 lev]) := Lib.hid hq3
  have c0 := RC.c0
  have c1 := RC.c1
  have HB := Lib.hid hB0
  clear hq1 hq2 hq3 hB0 RC
  obtain ⟨g, hg⟩ : ∃ g, w.heap.size = g := ⟨_, rfl⟩
  obtain ⟨q, hq⟩ : ∃ q, w.heap.size + 1 = q := ⟨_, rfl⟩
  obtain ⟨lb, hlb⟩ : ∃ q, w.heap.size + 1 + 1 = q := ⟨_, rfl⟩
  rw [hlb] at RL ⊢
  rw [hq] at RP ⊢
  rw [hg] at c0 c1 ⊢
  have HZ : Hid (W0.heap.size = g + 1 + 1 + 1) := Lib.hid (by omega)
  clear hz hq hlb
  go_wp2_with (first
    | ((with_reducible show wpList _ _ _ (⟨none, .store 60 (.tmp 9) (.tmp 19), _, _, _, _⟩ :: _) _ _); refine wpList_store_v rfl 60 _ _ rfl W0.heap.size (by exact rfl) (lkc c mk) (by exact rfl) (by kernel_rfl) (by intro u hu; simp only [lkc, List.mem_cons, List.not_mem_nil, or_false] at hu; rcases hu with rfl | rfl | rfl | rfl | rfl | rfl <;> rfl) 60 [.int .u8 0, .nilFunc, .int .u8 0, .nilFunc, .int .u8 0, .nilFunc] (VRow.al W0 [.int .u8 0, .nilFunc, .int .u8 0, .nilFunc, .int .u8 0, .nilFunc] 60) rfl ?_; intro W1 HN HO HB1)
    | ((with_reducible show wpList _ _ _ (⟨none, .store 57 (.tmp 10) (.tmp 20), _, _, _, _⟩ :: _) _ _); refine wpList_store_c rfl 57 _ _ rfl W1.heap.size 0 (by exact rfl) (.func (.func 25) #[] #[.pointer (some ⟨W0.heap.size, 0, none⟩)]) (by exact rfl) rfl (by kernel_rfl) 57 [.nilFunc] (VRow.al W1 [.nilFunc] 57) (show 0 < 1 by decide) ?_; intro W2 HN2 HO2 HB2))
  go_ret
  have b1 : Below W0.heap.size W0 W1 := ((Below.refl _ _).alloc (Nat.le_refl _) _).trans HB1.out
  have hz1 : W0.heap.size < W1.heap.size := VRow.lt HN.out
  have b2 : Below W1.heap.size W1 W2 := ((Below.refl _ _).alloc (Nat.le_refl _) _).trans HB2.out
  have b02 : Below W0.heap.size W0 W2 := b1.trans (b2.mono (by omega))
  refine ⟨q, lb, W1.heap.size, W0.heap.size, rfl, ⟨PRow.below RP.out b02 (PRow.lt RP.out), VRow.cell (VRow.below RL.out b02 (VRow.lt RL.out)) 0 _ rfl, VRow.cell HN2.out 0 _ rfl, VRow.below HN.out b2 (VRow.lt HN.out)⟩, HB.out.trans (b02.mono HB.out.size)⟩
/-- The best one's place in found. -/
def fnd (b : Int) : Int := if b < 0 then 0 else b
/-- Between two rounds. -/
structure JB (w : World) (B D : Nat) (q2 : Nat) (rc : Loop) (b : Int) (W : World) : Prop where
  d : W.heap[D]? = some (.deferred (some []))
  l : W.heap[D + 1]? = some (.loop rc)
  r : VRow W B 53 [.func (.func 21) #[] #[.pointer (some ⟨q2, 0, none⟩)]]
  f : VRow W (B + 1) 3 [.int .i64 (fnd b)]
  s : VRow W (B + 1 + 1) 4 [.bool (decide (0 ≤ b))]
  b : Below B w W
section
variable {w W W' : World} {B D q2 : Nat} {rc rc' : Loop} {b : Int}
theorem JB.below (h : JB w B D q2 rc b W) (hB : B ≤ W.heap.size) (hb : Below W.heap.size W W') : JB w B D q2 rc b W' :=
  ⟨(hb.block _ (Array.getElem?_eq_some_iff.1 h.d).1).trans h.d, (hb.block _ (Array.getElem?_eq_some_iff.1 h.l).1).trans h.l, VRow.below h.r hb (VRow.lt h.r), VRow.below h.f hb (VRow.lt h.f), VRow.below h.s hb (VRow.lt h.s), h.b.trans (hb.mono hB)⟩
theorem put_below' {B : Nat} {a w : World} {k : Nat} (h : Below B a w) (hk : B ≤ k) (o : Obj) : Below B a (w.putObj k o) :=
  ⟨h.os, h.tape, h.output, by simpa using h.size, fun i hi => (World.putObj_heap_other (by omega)).trans (h.block i hi)⟩
theorem JB.put (h : JB w B D q2 rc b W) (hD : B + 1 + 1 < D) (rc' : Loop) : JB w B D q2 rc' b (W.putObj (D + 1) (.loop rc')) :=
  have g : ∀ k, k ≠ D + 1 → (W.putObj (D + 1) (.loop rc')).heap[k]? = W.heap[k]? := fun k hk => World.putObj_heap_other hk
  ⟨(g _ (by omega)).trans h.d, World.putObj_heap_same (Array.getElem?_eq_some_iff.1 h.l).1, (g _ (by omega)).trans h.r, (g _ (by omega)).trans h.f, (g _ (by omega)).trans h.s, put_below' h.b (by omega) _⟩
theorem JB.set (h : JB w B D q2 rc b W) (hD : B + 1 + 1 < D) (k : Nat) : JB w B D q2 rc (k : Int) ((W.setCell ⟨B + 1, 0, none⟩ (.int .i64 (k : Int))).setCell ⟨B + 1 + 1, 0, none⟩ (.bool true)) := by
  have g : ∀ j, j ≠ B + 1 → j ≠ B + 1 + 1 → ((W.setCell ⟨B + 1, 0, none⟩ (.int .i64 (k : Int))).setCell ⟨B + 1 + 1, 0, none⟩ (.bool true)).heap[j]? = W.heap[j]? := fun j h1 h2 => (Below.heap_setCell _ _ _ _ h2).trans (Below.heap_setCell _ _ _ _ h1)
  refine ⟨(g _ (by omega) (by omega)).trans h.d, (g _ (by omega) (by omega)).trans h.l, (g _ (by omega) (by omega)).trans h.r, ?_, ?_, (h.b.setCell (p := ⟨B + 1, 0, none⟩) (by show B ≤ B + 1; omega) _).setCell (p := ⟨B + 1 + 1, 0, none⟩) (by show B ≤ B + 1 + 1; omega) _⟩
  · have e : fnd (k : Int) = (k : Int) := by unfold fnd; rw [if_neg (by omega)]
    rw [e]
    exact (Below.heap_setCell _ _ _ _ (by show B + 1 ≠ B + 1 + 1; omega)).trans (row_setCell (l := [.int .i64 (fnd b)]) h.f)
  · have e : decide (0 ≤ (k : Int)) = true := by simp
    rw [e]
    refine row_setCell (l := [.bool (decide (0 ≤ b))]) ?_
    exact (Below.heap_setCell _ _ _ _ (by show B + 1 + 1 ≠ B + 1; omega)).trans h.s
end
theorem bestK_no (c : Ic) (ps : List Int) (lev : Int) (mk k : Nat) (h : mayI c ps lev mk k = false) : bestK c ps lev mk (k + 1) = bestK c ps lev mk k := by
  rw [bestK, h]
  rfl
theorem best_main (w W0 : World) (D q lb wb lk q2 : Nat) (c : Ic) (ps : List Int) (lev : Int) (mk : Nat) (h : c.ok) (hp : PsOk ps) (h0 : -9223372036854775808 ≤ lev) (h1 : lev ≤ 9223372036854775807) (hm : mk < 256)
    (hE : Env w q lb wb lk c ps lev mk) (hD : W0.heap.size = D) (hz : D = w.heap.size + 1 + 1 + 1) (hB : Below w.heap.size w W0)
    (hr : VRow W0 w.heap.size 53 [.func (.func 21) #[] #[.pointer (some ⟨q2, 0, none⟩)]]) (hf : VRow W0 (w.heap.size + 1) 3 [.int .i64 0]) (hs : VRow W0 (w.heap.size + 1 + 1) 4 [.bool false])
    (rc : Loop) (hst : rc.state = .ready) (hpe : rc.pending = none) {Q : Exit → Act → World → Prop} {a : Act}
    (round : ∀ k W, k < 8 → mayI c ps lev mk k = true → JB w w.heap.size D q2 rc (bestK c ps lev mk k) W → YieldAt Fence.wide 1 Try.prog (D + 1) #[.int .i64 (k : Int)] W fun e W' => e = .returned (.bool true) ∧ JB w w.heap.size D q2 rc (bestK c ps lev mk (k + 1)) W')
    (after : ∀ W', JB w w.heap.size D q2 rc (bestK c ps lev mk 8) W' → Q .normal { a with defers := { target := .collected D, args := #[] } :: a.defers } (W'.putObj (D + 1) (.loop { rc with state := .exhausted }))) :
    CallsIn Fence.wide 2 Try.prog 26 (#[.func (.yield (D + 1)) #[] #[]] ++ #[.pointer (some ⟨q, 0, none⟩), .pointer (some ⟨lb, 0, none⟩), .pointer (some ⟨wb, 0, none⟩)]) ((W0.alloc (.deferred (some []))).alloc (.loop rc)) (AfterLoop Try.prog 2 Q a D) := by
  subst hD
  have hbw : Below W0.heap.size W0 ((W0.alloc (.deferred (some []))).alloc (.loop rc)) := two_below _ _ _
  have hJ0 : JB w w.heap.size W0.heap.size q2 rc (-1) ((W0.alloc (.deferred (some []))).alloc (.loop rc)) :=
    ⟨two_at0 _ _ _, two_at _ _ _, VRow.below hr hbw (VRow.lt hr), VRow.below hf hbw (VRow.lt hf), VRow.below hs hbw (VRow.lt hs), hB.trans (hbw.mono (by omega))⟩
  refine (ready_iter 1 (W0.heap.size + 1) q lb wb lk c ps lev mk (fun k W => JB w w.heap.size W0.heap.size q2 rc (bestK c ps lev mk k) W) h hp h0 h1 hm ?_ ?_ ?_ round _ hJ0).mono ?_
  · exact fun k W hj => hE.below hj.b
  · exact fun k W W' hj hb => hj.below hj.b.size hb
  · intro k W hk hno hj
    rw [bestK_no c ps lev mk k hno]
    exact hj
  · rintro e W' ⟨hv, hj⟩
    refine ⟨hv, rc, hj.l, by rw [hst]; exact fun hc => (by cases hc), ?_⟩
    split
    · exact after W' hj
    · rename_i c hc
      rw [hpe] at hc
      cases hc
end Go.Proofs.Ytcdomelfmkbloaa
