/-
  The document's Tick, All by their contracts. Made by wip/genbankref.py.
-/
import Derived.Test.YtkodoldkfeopdaaRc
import Derived.Deep.LoopGhost
namespace Go.Proofs.Ytkodoldkfeopdaa
open Go.RowKit
set_option linter.unusedVariables false
set_option maxRecDepth 100000
theorem askB_T (b : Bk) (n : Nat) (a : Bool) : (askB b n a).T = b.T ∧ (askB b n a).k = b.k := by
  unfold askB
  split <;> exact ⟨rfl, rfl⟩
theorem tick01_T (b : Bk) : (tick1 (tick0 b)).T = b.T ∧ (tick1 (tick0 b)).k = b.k := by
  have h1 := askB_T { tick0 b with t1 := Ti.tickT (tick0 b).t1 } 16 (Ti.asksT (tick0 b).t1)
  have h2 := askB_T { b with t0 := Ti.tickT b.t0 } 8 (Ti.asksT b.t0)
  exact ⟨h1.1.trans h2.1, h1.2.trans h2.2⟩
def tkN (b : Bk) : Nat → Bk
  | 0 => b
  | 1 => tick0 b
  | _ => tick1 (tick0 b)
theorem results_ctt {fn : Func} {t u1 u2 : Tmp} {ty : TypeId} (h : fn.results = #[.cell t ty, .tmp u1, .tmp u2]) (tmps : Array Value) (P : Program) (w : World) (a : Addr) (v x1 x2 : Value) (hp : tmps.getD t undef = .pointer (some a)) (hl : (loadVar ty a).run P w = .ok v w) (h1 : tmps.getD u1 undef = x1) (h2 : tmps.getD u2 undef = x2) : (results fn tmps).run P w = .ok (.tuple #[v, x1, x2]) w := by
  subst h1
  subst h2
  rw [Array.getD_eq_getD_getElem?] at hp
  simp [results, h, hp, asAddr, hl]
def outK (b : Bk) : Nat → List Value
  | 0 => [.int .i32 0, .int .i32 0, .int .i32 0, .int .i32 0, .int .i32 0, .int .i32 0, .int .i32 0, .int .i32 0, .int .i32 0, .int .i32 0, .int .i32 0, .int .i32 0, .int .i32 0, .int .i32 0, .int .i32 0]
  | k + 1 => (outK b k).set k (.int .i32 (peekB b ((k : Nat) : Int)))
theorem outK_length (b : Bk) : ∀ k, (outK b k).length = 15
  | 0 => rfl
  | k + 1 => by rw [outK, List.length_set]; exact outK_length b k
theorem outK_all (b : Bk) : outK b 15 = allB b := rfl
theorem outK_one (b : Bk) : ∀ k, ∀ u ∈ outK b k, u.oneCell' = true
  | 0 => by unfold outK; intro u hu; simp only [List.mem_cons, List.not_mem_nil, or_false, or_self] at hu; subst hu; rfl
  | k + 1 => by
    intro u hu
    rcases List.mem_or_eq_of_mem_set hu with h | rfl
    · exact outK_one b k u h
    · rfl
theorem run_index_fifteen (g k : Nat) (w : World) (hk : k < 15) : (Instr.indexAt 51 (.pointer (some ⟨g, 0, none⟩)) (.int .i64 (k : Int))).run Try.prog w = .ok (.pointer (some ⟨g, k, none⟩)) w := by
  obtain rfl | rfl | rfl | rfl | rfl | rfl | rfl | rfl | rfl | rfl | rfl | rfl | rfl | rfl | rfl : k = 0 ∨ k = 1 ∨ k = 2 ∨ k = 3 ∨ k = 4 ∨ k = 5 ∨ k = 6 ∨ k = 7 ∨ k = 8 ∨ k = 9 ∨ k = 10 ∨ k = 11 ∨ k = 12 ∨ k = 13 ∨ k = 14 := by omega
  all_goals kernel_rfl
theorem keep_alloc {X : World} {o o' : Obj} {j : Nat} (h : X.heap[j]? = some o) : (X.alloc o').heap[j]? = some o := by
  have hl : j < X.heap.size := by
    rcases Nat.lt_or_ge j X.heap.size with h1 | h1
    · exact h1
    · rw [Array.getElem?_eq_none h1] at h; cases h
  exact (((Below.refl X.heap.size X).alloc (Nat.le_refl _) o').block j hl).trans h
theorem name_3 {Q : World → Prop} {w : World} {o1 o2 o3 : Obj} (F : ∀ X : World, X.heap[w.heap.size]? = some o1 → X.heap[w.heap.size + 1]? = some o2 → X.heap[w.heap.size + 1 + 1]? = some o3 → Below w.heap.size w X → Q X) : Q (((w.alloc o1).alloc o2).alloc o3) := by
  refine F _ ?_ ?_ ?_ ?_
  · exact keep_alloc (keep_alloc (alloc_at _ _))
  · have h := alloc_at (w.alloc o1) o2
    rw [World.size_alloc] at h
    exact keep_alloc h
  · have h := alloc_at ((w.alloc o1).alloc o2) o3
    rw [World.size_alloc, World.size_alloc] at h
    exact h
  · exact (((Below.refl _ _).alloc (Nat.le_refl _) _).alloc (by simp) _).alloc (by simp; omega) _
/-- An array is loaded whole. -/
theorem wpList_load_arr {P : Program} {w : World} {ops : Array Oper} {rest : List Oper} {o : Oper} {a : Act} {Q : Exit → Act → World → Prop} (hw : Region.wanted o (yielded ops a.tmps) = true) (ty : TypeId) (x : Operand) (ho : o.op = .load ty x) (g : Nat) (hx : a.eval x = .pointer (some ⟨g, 0, none⟩))
    (n : Nat) (e : TypeId) (hu : P.underlying ty = some (.array n e)) (t : TypeId) (cs : List Value) (hr : VRow w g t cs) (hi : (P.info? ty).map (·.size) = some cs.length) (h : wpList P ops Q rest (a.put o.dst (.agg cs.toArray)) w) : wpList P ops Q (o :: rest) a w :=
  BigFrame.wpList_want hw fun _ hK => by
    unfold Oper.wp execOp
    simp only [ho, hx, Instr.loadAt, Instr.sureAddr, Sem.run_bind, Sem.run_pure, Result.andThen_ok, run_loadVar_at w g 0 ty cs _ (row_cells hr) hu rfl hi]
    exact hK _ _ h
theorem VRow.oth {X X' : World} {t : TypeId} {g r : Nat} {vs : List Value} (h : VRow X g t vs) (ho : ∀ j, j ≠ r → X'.heap[j]? = X.heap[j]?) (hr : g ≠ r) : VRow X' g t vs := (ho g hr).trans h
end Go.Proofs.Ytkodoldkfeopdaa
