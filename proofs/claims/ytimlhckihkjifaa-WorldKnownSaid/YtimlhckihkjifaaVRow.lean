/-
  General laws of my own, at any seat: structs (of whatever fields, nested too) that lie whole in a block of their own: loads and stores of the whole, and of parts; rows that grow. No program in sight.
-/
import Derived.Test.YtimlhckihkjifaaKit
import Derived.BigFrame
namespace Go.Proofs.Ytimlhckihkjifaa
open Go.RowKit
set_option linter.unusedVariables false
/-- Block g holds the cells cs, all of them. -/
def VRow (w : World) (g : Nat) (t : TypeId) (cs : List Value) : Prop := w.heap[g]? = some (.cells cs.toArray t (0, 0))
theorem VRow.below {w w' : World} {B g : Nat} {t : TypeId} {cs : List Value} (h : VRow w g t cs) (hb : Below B w w') (hg : g < B) : VRow w' g t cs := (hb.block g hg).trans h
theorem VRow.lt {w : World} {g : Nat} {t : TypeId} {cs : List Value} (h : VRow w g t cs) : g < w.heap.size := by
  rcases Nat.lt_or_ge g w.heap.size with h1 | h1
  · exact h1
  · rw [VRow, Array.getElem?_eq_none h1] at h; cases h
theorem VRow.set {w : World} {g : Nat} {t : TypeId} {cs : List Value} (h : VRow w g t cs) (ds : List Value) : VRow (w.setRow g ds.toArray) g t ds := setRow_heap w g _ _ t _ h
theorem VRow.al (w : World) (cs : List Value) (t : TypeId) : VRow (w.alloc (.cells cs.toArray t)) w.heap.size t cs := alloc_at w _
theorem VRow.cell {w : World} {g : Nat} {t : TypeId} {cs : List Value} (h : VRow w g t cs) (j : Nat) (v : Value) (hv : cs[j]? = some v) : w.cell? ⟨g, j, none⟩ = some v := row_at h j v hv
section
variable {P : Program}
/-- A struct, or an array, is loaded whole; a guard that says yes is let by. -/
theorem wpList_load_v {ops : Array Oper} {rest : List Oper} {o : Oper} {a : Act} {w : World} {Q : Exit → Act → World → Prop} (hw : Region.wanted o (yielded ops a.tmps) = true) (ty : TypeId) (x : Operand) (ho : o.op = .load ty x) (g : Nat) (hx : a.eval x = .pointer (some ⟨g, 0, none⟩))
    (fs : Array Field) (hu : P.underlying ty = some (.struct fs)) (t : TypeId) (cs : List Value) (hr : VRow w g t cs) (hi : (P.info? ty).map (·.size) = some cs.length)
    (h : wpList P ops Q rest (a.put o.dst (.agg cs.toArray)) w) : wpList P ops Q (o :: rest) a w :=
  BigFrame.wpList_want hw fun _ hK => by
    unfold Oper.wp execOp
    simp only [ho, hx, Instr.loadAt, Instr.sureAddr, Sem.run_bind, Sem.run_pure, Result.andThen_ok, run_loadVar_at w g 0 ty cs _ (row_cells hr) hu rfl hi]
    exact hK _ _ h
/-- A struct is stored whole. -/
theorem wpList_store_v {ops : Array Oper} {rest : List Oper} {o : Oper} {a : Act} {w : World} {Q : Exit → Act → World → Prop} (hgd : o.guard = none) (ty : TypeId) (x v : Operand) (ho : o.op = .store ty x v) (g : Nat) (hx : a.eval x = .pointer (some ⟨g, 0, none⟩))
    (cs : List Value) (hv : a.eval v = .agg cs.toArray) (hi : (P.info? ty).map (·.size) = some cs.length) (h1 : ∀ u ∈ cs, u.oneCell' = true) (t : TypeId) (old : List Value) (hr : VRow w g t old) (hl : old.length = cs.length)
    (h : ∀ W, Hid (VRow W g t cs) → Hid (∀ k, k ≠ g → W.heap[k]? = w.heap[k]?) → Hid (Below g w W) → wpList P ops Q rest (a.put o.dst undef) W) : wpList P ops Q (o :: rest) a w :=
  wpList_store_row hgd ty x v ho g 0 hx cs (by rw [hv]; rfl) hi old cs t hr (by omega) h1 (by simp [hl]) (h _ (Lib.hid (hr.set cs)) (Lib.hid fun k hk => setRow_other w g k _ hk) (Lib.hid (setRow_below (Below.refl _ _) (Nat.le_refl _) _)))
/-- One cell of a struct is stored. -/
theorem wpList_store_c {ops : Array Oper} {rest : List Oper} {o : Oper} {a : Act} {w : World} {Q : Exit → Act → World → Prop} (hgd : o.guard = none) (ty : TypeId) (x v : Operand) (ho : o.op = .store ty x v) (g j : Nat) (hx : a.eval x = .pointer (some ⟨g, j, none⟩))
    (u : Value) (hv : (a.eval v).cells = [u].toArray) (hu1 : u.oneCell' = true) (hi : (P.info? ty).map (·.size) = some 1) (t : TypeId) (cs : List Value) (hr : VRow w g t cs) (hj : j < cs.length)
    (h : ∀ W, Hid (VRow W g t (cs.set j u)) → Hid (∀ k, k ≠ g → W.heap[k]? = w.heap[k]?) → Hid (Below g w W) → wpList P ops Q rest (a.put o.dst undef) W) : wpList P ops Q (o :: rest) a w := by
  refine wpList_store_row hgd ty x v ho g j hx [u] hv (by rw [hi]; rfl) cs (cs.set j u) t hr (by simp; omega) (one_one _ hu1) ?_ (h _ (Lib.hid (hr.set _)) (Lib.hid fun k hk => setRow_other w g k _ hk) (Lib.hid (setRow_below (Below.refl _ _) (Nat.le_refl _) _)))
  rw [List.set_eq_take_append_cons_drop, if_pos hj]
  simp
theorem wp_store_v {o : Oper} {a : Act} {w : World} {K : Act → World → Prop} {Q : Exit → Act → World → Prop} (ty : TypeId) (x v : Operand) (ho : o.op = .store ty x v) (g : Nat) (hx : a.eval x = .pointer (some ⟨g, 0, none⟩))
    (cs : List Value) (hv : a.eval v = .agg cs.toArray) (hi : (P.info? ty).map (·.size) = some cs.length) (h1 : ∀ u ∈ cs, u.oneCell' = true) (t : TypeId) (old : List Value) (hr : VRow w g t old) (hl : old.length = cs.length)
    (h : ∀ W, Hid (VRow W g t cs) → Hid (∀ k, k ≠ g → W.heap[k]? = w.heap[k]?) → Hid (Below g w W) → K (a.put o.dst undef) W) : o.wp P a w K Q :=
  wp_store_row rfl ty x v ho g 0 hx cs (by rw [hv]; rfl) hi old cs t hr (by omega) h1 (by simp [hl]) (h _ (Lib.hid (hr.set cs)) (Lib.hid fun k hk => setRow_other w g k _ hk) (Lib.hid (setRow_below (Below.refl _ _) (Nat.le_refl _) _)))
theorem run_loadVar_v (w : World) (g : Nat) (ty : TypeId) (fs : Array Field) (hu : P.underlying ty = some (.struct fs)) (t : TypeId) (cs : List Value) (hr : VRow w g t cs) (hi : (P.info? ty).map (·.size) = some cs.length) :
    (loadVar ty ⟨g, 0, none⟩).run P w = .ok (.agg cs.toArray) w :=
  run_loadVar_at w g 0 ty cs _ (row_cells hr) hu rfl hi
theorem run_load_v {a : Act} (w : World) (ty : TypeId) (x : Operand) (g : Nat) (hx : a.eval x = .pointer (some ⟨g, 0, none⟩)) (fs : Array Field) (hu : P.underlying ty = some (.struct fs)) (t : TypeId) (cs : List Value) (hr : VRow w g t cs) (hi : (P.info? ty).map (·.size) = some cs.length)
    (dst : Option Tmp) (type : TypeId) (pos : String) (after : Array Edge) (guard : Option (Nat × Bool)) : (execOp a.eval ⟨dst, .load ty x, type, pos, after, guard⟩).run P w = .ok (.value (.agg cs.toArray)) w :=
  run_load_at w ty x g 0 hx cs _ (row_cells hr) hu rfl hi dst type pos after guard
end
theorem results_c {fn : Func} {t : Tmp} {ty : TypeId} (h : fn.results = #[.cell t ty]) (tmps : Array Value) (P : Program) (w : World) (a : Addr) (v : Value) (hp : tmps.getD t undef = .pointer (some a)) (hl : (loadVar ty a).run P w = .ok v w) : (results fn tmps).run P w = .ok v w := by
  rw [Array.getD_eq_getD_getElem?] at hp
  simp [results, h, hp, asAddr, hl]
theorem results_ct {fn : Func} {t u : Tmp} {ty : TypeId} (h : fn.results = #[.cell t ty, .tmp u]) (tmps : Array Value) (P : Program) (w : World) (a : Addr) (v x : Value) (hp : tmps.getD t undef = .pointer (some a)) (hl : (loadVar ty a).run P w = .ok v w) (hx : tmps.getD u undef = x) : (results fn tmps).run P w = .ok (.tuple #[v, x]) w := by
  subst hx
  rw [Array.getD_eq_getD_getElem?] at hp
  simp [results, h, hp, asAddr, hl]
theorem results_tct {fn : Func} {s t u : Tmp} {ty : TypeId} (h : fn.results = #[.tmp s, .cell t ty, .tmp u]) (tmps : Array Value) (P : Program) (w : World) (a : Addr) (v x y : Value) (hp : tmps.getD t undef = .pointer (some a)) (hl : (loadVar ty a).run P w = .ok v w) (hx : tmps.getD s undef = x) (hy : tmps.getD u undef = y) : (results fn tmps).run P w = .ok (.tuple #[x, v, y]) w := by
  subst hx
  subst hy
  rw [Array.getD_eq_getD_getElem?] at hp
  simp [results, h, hp, asAddr, hl]
/-! ### one operation of a region, without opening the frame -/
/-- A call of a named function, whose contract names its value. -/
theorem wp_call_ret {P : Program} {o : Oper} {a : Act} {w : World} {K : Act → World → Prop} {Q : Exit → Act → World → Prop} (f : FuncId) (xs : List Operand) (ats : Array TypeId)
    (ho : o.op = .call { callee := .value (.func f), args := xs.toArray, argTypes := ats }) (vs : List Value) (hv : xs.map a.eval = vs) (hc : (callFunc f vs.toArray).run P w = .ok (.enter f vs.toArray) w) (val : Value)
    (h : Calls P f vs.toArray w fun e w' => e = .returned val ∧ Below w.heap.size w w') (hk : ∀ w', Below w.heap.size w w' → K (a.put o.dst val) w') : o.wp P a w K Q := by
  unfold Oper.wp execOp
  simp only [ho, resolve, invoke, List.map_toArray, hv]
  have he : a.eval (.func f) = .func (.func f) #[] #[] := rfl
  simp [he, Deferred.ofValue, hc]
  rw [Oper.upon_enter]
  refine h.mono ?_
  rintro e w' ⟨rfl, hR⟩
  exact hk w' hR
/-- Whatever runs to a value. -/
theorem wp_of_run {P : Program} {o : Oper} {a : Act} {w w' : World} {K : Act → World → Prop} {Q : Exit → Act → World → Prop} (v : Value) (hr : (execOp a.eval o).run P w = .ok (.value v) w') (h : K (a.put o.dst v) w') : o.wp P a w K Q := by
  unfold Oper.wp
  rw [hr]
  exact h
/-! ### rows that grow -/
theorem gb_below {w w' : World} {r : Option Nat} (h : Below w.heap.size w w') : w.grownBy w' r := ⟨h.os, h.tape, h.output, h.size, fun k hk _ => h.block k hk⟩
theorem gb_alloc (w : World) (r : Option Nat) (o : Obj) : w.grownBy (w.alloc o) r := gb_below ((Below.refl _ _).alloc (Nat.le_refl _) _)
theorem own_base {w : World} {B B' : Nat} {e : TypeId} {s : Nat} {v : Value} {n : Nat} {xs : List Value} (h : w.ownsRow B e s v n xs) (hB : B' ≤ B) : w.ownsRow B' e s v n xs := by
  refine ⟨h.1, ?_⟩
  rcases h.2 with h2 | ⟨g, cap, cur, hv, hg, r⟩
  · exact .inl h2
  · exact .inr ⟨g, cap, cur, hv, by omega, r⟩
theorem own_ne {w w' : World} {B : Nat} {e : TypeId} {s : Nat} {v : Value} {n : Nat} {xs : List Value} {r : Option Nat} (h : w.ownsRow B e s v n xs) (hg : w.grownBy w' r) (hr : ∀ k, v.ownBlock = some k → r ≠ some k) : w'.ownsRow B e s v n xs := by
  refine ⟨h.1, ?_⟩
  rcases h.2 with h2 | ⟨g, cap, cur, hv, hb, hrow, rest⟩
  · exact .inl h2
  · exact .inr ⟨g, cap, cur, hv, hb, (hg.block g (Array.getElem?_eq_some_iff.1 hrow).1 (fun e => hr g (by rw [hv]; rfl) e.symm)).trans hrow, rest⟩
theorem own_succ {W : World} {base : Nat} {e : TypeId} {size : Nat} {v : Value} {k : Nat} {xs : List Value} (h : W.ownsRow base e size v (k + 1) xs) : ∃ g cap, v = .slice (some ⟨g, 0, none⟩) (k + 1) cap := by
  rcases h.2 with ⟨_, h0⟩ | ⟨g, cap, _, hv, _⟩
  · omega
  · exact ⟨g, cap, hv⟩
theorem below_gb {B : Nat} {w W W' : World} {r : Option Nat} (h : Below B w W) (hg : W.grownBy W' r) (hB : B ≤ W.heap.size) (hr : ∀ k, r = some k → B ≤ k) : Below B w W' :=
  ⟨hg.os.trans h.os, hg.tape.trans h.tape, hg.output.trans h.output, Nat.le_trans h.size hg.size, fun k hk => (hg.block k (by omega) (fun e => by have := hr k e.symm; omega)).trans (h.block k hk)⟩
theorem new_one (X : World) (k : Nat) (v : Value) (t : TypeId) (hk : X.heap.size = k) : ∀ j u, [v][j]? = some u → (X.alloc (.cells #[v] t)).cell? ((⟨k, 0, none⟩ : Addr).add j) = some u := by
  subst hk
  exact fun j u hj => new_cells X [v] t j u hj
theorem addr_add (g off j : Nat) : (⟨g, off, none⟩ : Addr).add j = ⟨g, off + j, none⟩ := by unfold Addr.add; split <;> simp_all
theorem name_one {Q : World → Prop} {w : World} {o : Obj} (F : ∀ X : World, X.heap[w.heap.size]? = some o → Below w.heap.size w X → w.heap.size + 1 ≤ X.heap.size → Q X) : Q (w.alloc o) := F _ (alloc_at _ _) ((Below.refl _ _).alloc (Nat.le_refl _) _) (by simp)
theorem name_two {Q : World → Prop} {w : World} {o o2 : Obj} (F : ∀ X : World, X.heap[w.heap.size]? = some o → X.heap[w.heap.size + 1]? = some o2 → Below w.heap.size w X → Q X) : Q ((w.alloc o).alloc o2) := F _ (two_at0 _ _ _) (two_at _ _ _) (two_below _ _ _)
theorem info_parts {P : Program} {t : TypeId} {z : Value} {s b : Nat} (h : (P.info? t).map (fun i => (i.zero, i.size, i.bytes)) = some (some z, s, b)) : ∃ i, P.info? t = some i ∧ i.zero = some z ∧ i.size = s ∧ i.bytes = b := by
  obtain ⟨i, h1, h2⟩ := Option.map_eq_some_iff.1 h
  simp only [Prod.mk.injEq] at h2
  exact ⟨i, h1, h2.1, h2.2.1, h2.2.2⟩
end Go.Proofs.Ytimlhckihkjifaa
