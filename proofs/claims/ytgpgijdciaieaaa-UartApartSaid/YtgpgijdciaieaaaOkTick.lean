/-
  The program's Tick by its contract. Made by wip/genuartok.py.
-/
import Derived.Test.YtgpgijdciaieaaaOkArrive
namespace Go.Proofs.Ytgpgijdciaieaaa
open Go.RowKit
set_option linter.unusedVariables false
structure Tk (w X : World) (ga gs gi gq : Nat) (n : Int) (bs : List Nat) (m : Int) (cs : List Nat) (l : Bool) (c k : Nat) (x : Nat) (ib qb : Bool) : Prop where
  u : URow X ga 26 n bs m cs l c k
  s : VRow X gs 5 [.int .u8 (x : Int)]
  i : VRow X gi 4 [.bool ib]
  q : VRow X gq 4 [.bool qb]
  b : Below w.heap.size w X
  la : w.heap.size ≤ ga
  ls : ga < gs
  li : gs < gi
  lq : gi < gq
section
variable {w X X' : World} {ga gs gi gq : Nat} {n : Int} {bs : List Nat} {m : Int} {cs : List Nat} {l : Bool} {c k : Nat} {x : Nat} {ib qb : Bool} {n' : Int} {bs' : List Nat} {m' : Int} {cs' : List Nat} {l' : Bool} {c' k' : Nat} {x' : Nat} {ib' qb' : Bool}
theorem VRow.other {t : TypeId} {g r : Nat} {vs : List Value} (h : VRow X g t vs) (ho : ∀ j, j ≠ r → X'.heap[j]? = X.heap[j]?) (hr : g ≠ r) : VRow X' g t vs := (ho g hr).trans h
theorem Tk.under (h : Tk w X ga gs gi gq n bs m cs l c k x ib qb) (hb : Below X.heap.size X X') : Tk w X' ga gs gi gq n bs m cs l c k x ib qb :=
  ⟨h.u.below hb h.u.lt, h.s.below hb h.s.lt, h.i.below hb h.i.lt, h.q.below hb h.q.lt, h.b.trans (hb.mono h.b.size), h.la, h.ls, h.li, h.lq⟩
theorem Tk.setA (h : Tk w X ga gs gi gq n bs m cs l c k x ib qb) (hn : URow X' ga 26 n' bs' m' cs' l' c' k') (ho : ∀ j, j ≠ ga → X'.heap[j]? = X.heap[j]?) (hb : Below ga X X') : Tk w X' ga gs gi gq n' bs' m' cs' l' c' k' x ib qb :=
  have := h.la; have := h.ls; have := h.li; have := h.lq
  ⟨hn, h.s.other ho (by omega), h.i.other ho (by omega), h.q.other ho (by omega), h.b.trans (hb.mono h.la), h.la, h.ls, h.li, h.lq⟩
theorem Tk.setS (h : Tk w X ga gs gi gq n bs m cs l c k x ib qb) (hn : VRow X' gs 5 [.int .u8 (x' : Int)]) (ho : ∀ j, j ≠ gs → X'.heap[j]? = X.heap[j]?) (hb : Below gs X X') : Tk w X' ga gs gi gq n bs m cs l c k x' ib qb :=
  have := h.la; have := h.ls; have := h.li; have := h.lq
  ⟨h.u.other ho (by omega), hn, h.i.other ho (by omega), h.q.other ho (by omega), h.b.trans (hb.mono (by omega)), h.la, h.ls, h.li, h.lq⟩
theorem Tk.setI (h : Tk w X ga gs gi gq n bs m cs l c k x ib qb) (hn : VRow X' gi 4 [.bool ib']) (ho : ∀ j, j ≠ gi → X'.heap[j]? = X.heap[j]?) (hb : Below gi X X') : Tk w X' ga gs gi gq n bs m cs l c k x ib' qb :=
  have := h.la; have := h.ls; have := h.li; have := h.lq
  ⟨h.u.other ho (by omega), h.s.other ho (by omega), hn, h.q.other ho (by omega), h.b.trans (hb.mono (by omega)), h.la, h.ls, h.li, h.lq⟩
theorem Tk.setQ (h : Tk w X ga gs gi gq n bs m cs l c k x ib qb) (hn : VRow X' gq 4 [.bool qb']) (ho : ∀ j, j ≠ gq → X'.heap[j]? = X.heap[j]?) (hb : Below gq X X') : Tk w X' ga gs gi gq n bs m cs l c k x ib qb' :=
  have := h.la; have := h.ls; have := h.li; have := h.lq
  ⟨h.u.other ho (by omega), h.s.other ho (by omega), h.i.other ho (by omega), hn, h.b.trans (hb.mono (by omega)), h.la, h.ls, h.li, h.lq⟩
end
set_option maxRecDepth 100000 in
theorem and_two_bit (c : Nat) (h : c < 256) : bits .and .u8 (c : Int) 2 = if decide (c / 2 % 2 = 1) = true then 2 else 0 := by
  rw [show (2 : Int) = ((2 : Nat) : Int) from rfl, u8_and_nat c 2 h (by decide)]
  have h2 : ∀ c : Fin 256, (((c.val &&& 2 : Nat)) : Int) = if decide (c.val / 2 % 2 = 1) = true then ((2 : Nat) : Int) else 0 := by decide
  exact h2 ⟨c, h⟩
theorem alloc_keep {X : World} {o o' : Obj} {j : Nat} (h : X.heap[j]? = some o) : (X.alloc o').heap[j]? = some o := by
  have hl : j < X.heap.size := by
    rcases Nat.lt_or_ge j X.heap.size with h1 | h1
    · exact h1
    · rw [Array.getElem?_eq_none h1] at h; cases h
  exact (((Below.refl X.heap.size X).alloc (Nat.le_refl _) o').block j hl).trans h
theorem name_five {Q : World → Prop} {w : World} {o1 o2 o3 o4 o5 : Obj} (F : ∀ X : World, X.heap[w.heap.size]? = some o1 → X.heap[w.heap.size + 1]? = some o2 → X.heap[w.heap.size + 1 + 1]? = some o3 → X.heap[w.heap.size + 1 + 1 + 1]? = some o4 → X.heap[w.heap.size + 1 + 1 + 1 + 1]? = some o5 → Below w.heap.size w X → Q X) : Q (((((w.alloc o1).alloc o2).alloc o3).alloc o4).alloc o5) := by
  refine F _ ?_ ?_ ?_ ?_ ?_ ?_
  · exact alloc_keep (alloc_keep (alloc_keep (alloc_keep (alloc_at _ _))))
  · have h := alloc_at (w.alloc o1) o2
    rw [World.size_alloc] at h
    exact alloc_keep (alloc_keep (alloc_keep h))
  · have h := alloc_at ((w.alloc o1).alloc o2) o3
    rw [World.size_alloc, World.size_alloc] at h
    exact alloc_keep (alloc_keep h)
  · have h := alloc_at (((w.alloc o1).alloc o2).alloc o3) o4
    rw [World.size_alloc, World.size_alloc, World.size_alloc] at h
    exact alloc_keep h
  · have h := alloc_at ((((w.alloc o1).alloc o2).alloc o3).alloc o4) o5
    rw [World.size_alloc, World.size_alloc, World.size_alloc, World.size_alloc] at h
    exact h
  · exact (((((Below.refl _ _).alloc (Nat.le_refl _) _).alloc (by simp) _).alloc (by simp; omega) _).alloc (by simp; omega) _).alloc (by simp; omega) _
section
variable {P : Program}
theorem run_loadVar_one (w : World) (a : Addr) (ty : TypeId) (d : TypeDesc) (v : Value) (hu : P.underlying ty = some d) (hd : (match d with | .struct _ | .array _ _ => true | _ => false) = false) (hc : w.cell? a = some v) : (loadVar ty a).run P w = .ok v w := by
  have hagg : (isAgg ty).run P w = .ok false w := by
    unfold isAgg
    rw [Sem.run_bind, run_underlying hu w]
    cases d <;> simp_all
  simp [loadVar, Sem.run_bind, hagg, hc]
theorem results_cccc {fn : Func} {t1 t2 t3 t4 : Tmp} {y1 y2 y3 y4 : TypeId} (h : fn.results = #[.cell t1 y1, .cell t2 y2, .cell t3 y3, .cell t4 y4]) (tmps : Array Value) (w : World) (a1 a2 a3 a4 : Addr) (v1 v2 v3 v4 : Value)
    (h1 : tmps.getD t1 undef = .pointer (some a1)) (h2 : tmps.getD t2 undef = .pointer (some a2)) (h3 : tmps.getD t3 undef = .pointer (some a3)) (h4 : tmps.getD t4 undef = .pointer (some a4))
    (l1 : (loadVar y1 a1).run P w = .ok v1 w) (l2 : (loadVar y2 a2).run P w = .ok v2 w) (l3 : (loadVar y3 a3).run P w = .ok v3 w) (l4 : (loadVar y4 a4).run P w = .ok v4 w) : (results fn tmps).run P w = .ok (.tuple #[v1, v2, v3, v4]) w := by
  rw [Array.getD_eq_getD_getElem?] at h1 h2 h3 h4
  simp [results, h, h1, h2, h3, h4, asAddr, l1, l2, l3, l4]
end
theorem wp_store_one {P : Program} {o : Oper} {a : Act} {w : World} {K : Act → World → Prop} {Q : Exit → Act → World → Prop} (ty : TypeId) (x v : Operand) (ho : o.op = .store ty x v) (g : Nat) (hx : a.eval x = .pointer (some ⟨g, 0, none⟩))
    (u : Value) (hv : (a.eval v).cells = [u].toArray) (hu1 : u.oneCell' = true) (hi : (P.info? ty).map (·.size) = some 1) (t : TypeId) (old : Value) (hr : VRow w g t [old])
    (h : ∀ W, Hid (VRow W g t [u]) → Hid (∀ k, k ≠ g → W.heap[k]? = w.heap[k]?) → Hid (Below g w W) → K (a.put o.dst undef) W) : o.wp P a w K Q :=
  wp_store_row rfl ty x v ho g 0 hx [u] hv (by rw [hi]; rfl) [old] [u] t hr (by simp) (one_one _ hu1) rfl (h _ (Lib.hid (hr.set [u])) (Lib.hid fun k hk => setRow_other w g k _ hk) (Lib.hid (setRow_below (Below.refl _ _) (Nat.le_refl _) _)))
theorem uBool : Try.prog.underlying 4 = some .bool := by kernel_rfl
theorem uU8 : Try.prog.underlying 5 = some (.int .u8) := by kernel_rfl
set_option maxRecDepth 100000 in
theorem tickNo_any {w X : World} {ga gs gi gq : Nat} {N M : Int} {p q : List Nat} {l : Bool} {c k : Nat} {x0 : Nat} {ib qb : Bool} (hT : Tk w X ga gs gi gq N p M q l c k x0 ib qb) (hk : k + 1 < 4) : Calls Try.prog 28 #[.pointer (some ⟨ga, 0, none⟩), .pointer (some ⟨gs, 0, none⟩), .pointer (some ⟨gi, 0, none⟩), .pointer (some ⟨gq, 0, none⟩)] X fun e w' => e = .returned (.tuple #[]) ∧ Tk w w' ga gs gi gq N p M q l c (k + 1) x0 ib qb := by
  have d2 : ((k + 1 : Nat) : Int) < 4 := by omega
  have T0 := Lib.hid hT
  clear hT
  have ck := T0.out.u.c20
  go_enter Try.func28, Try.ntmps28
  go_wp2_with (first
      | ((with_reducible show wpList _ _ _ (⟨none, .store 5 (.tmp 7) (.tmp 6), _, _, _, _⟩ :: _) _ _); refine wpList_store_j rfl 5 _ _ rfl ga 20 (by exact rfl) (.int .u8 ((k + 1 : Nat) : Int)) (by exact rfl) rfl (by kernel_rfl) 26 T0.out.u (by decide) (uc_set_k T0.out.u.hb T0.out.u.hc) T0.out.u.hb T0.out.u.hc ?_; intro WT1 HN HO HB
         have T1 := Lib.hid (T0.out.setA HN.out HO.out HB.out)
         have d20 := T1.out.u.c20
         clear HN HO HB T0))
  (try simp only [Exit.inBlock, Exit.then])
  refine bodyPost_ret (results_none rfl _ _ _) rfl ?_
  exact ⟨rfl, T1.out⟩
set_option maxRecDepth 100000 in
theorem tickMore_any {w X : World} {ga gs gi gq : Nat} {N M : Int} {p q : List Nat} {l : Bool} {c k : Nat} {x0 : Nat} {ib qb : Bool} (hT : Tk w X ga gs gi gq N p M q l c k x0 ib qb) (x : Nat) (M' : Int) (q' : List Nat) (b : Bool) (hq' : q'.length = 8)
    (hP : ∀ W : World, Calls Try.prog 29 #[qv M q] W fun e w' => e = .returned (.tuple #[.int .u8 x, qv M' q', .bool b]) ∧ Below W.heap.size W w') (hk : k = 3) (hM : M' ≠ 0) : Calls Try.prog 28 #[.pointer (some ⟨ga, 0, none⟩), .pointer (some ⟨gs, 0, none⟩), .pointer (some ⟨gi, 0, none⟩), .pointer (some ⟨gq, 0, none⟩)] X fun e w' => e = .returned (.tuple #[]) ∧ Tk w w' ga gs gi gq N p M' q' l c 0 x b false := by
  have HP := Lib.hid hP
  clear hP
  subst hk
  have T0 := Lib.hid hT
  clear hT
  have ck := T0.out.u.c20
  go_enter Try.func28, Try.ntmps28
  go_wp2_with (first
      | ((with_reducible show wpList _ _ _ (⟨none, .store 4 (.tmp 3) (.tmp 29), _, _, _, _⟩ :: _) _ _); refine wpList_store_c rfl 4 _ _ rfl gq 0 (by exact rfl) (.bool false) (by exact rfl) rfl (by kernel_rfl) 4 _ T6.out.q (show 0 < 1 by decide) ?_; intro WT7 HN HO HB
         have T7 := Lib.hid (T6.out.setQ HN.out HO.out HB.out)
         clear HN HO HB T6)
      | ((with_reducible show wpList _ _ _ (⟨none, .store 4 (.tmp 2) (.tmp 18), _, _, _, _⟩ :: _) _ _); refine wpList_store_c rfl 4 _ _ rfl gi 0 (by exact rfl) (.bool b) (by exact rfl) rfl (by kernel_rfl) 4 _ T5.out.i (show 0 < 1 by decide) ?_; intro WT6 HN HO HB
         have T6 := Lib.hid (T5.out.setI HN.out HO.out HB.out)
         have d9 := T6.out.u.n9
         have d19 := T6.out.u.c19
         clear HN HO HB T5)
      | ((with_reducible show wpList _ _ _ (⟨none, .store 24 (.tmp 19) (.tmp 17), _, _, _, _⟩ :: _) _ _); refine wpList_store_tx rfl 24 _ _ rfl ga (by exact rfl) (by exact rfl) (by assumption) (by kernel_rfl) 26 T4.out.u ?_; intro WT5 HN HO HB
         have T5 := Lib.hid (T4.out.setA HN.out HO.out HB.out)
         have d9 := T5.out.u.n9
         clear HN HO HB T4)
      | ((with_reducible show wpList _ _ _ (⟨none, .store 5 (.tmp 1) (.tmp 16), _, _, _, _⟩ :: _) _ _); refine wpList_store_c rfl 5 _ _ rfl gs 0 (by exact rfl) (.int .u8 (x : Int)) (by exact rfl) rfl (by kernel_rfl) 5 _ T3.out.s (show 0 < 1 by decide) ?_; intro WT4 HN HO HB
         have T4 := Lib.hid (T3.out.setS HN.out HO.out HB.out)
         clear HN HO HB T3)
      | (go_at_call 29; refine (HP.out _).mono ?_; rintro e WT3 ⟨rfl, hB⟩
         have T3 := Lib.hid (T2.out.under hB)
         clear hB T2)
      | ((with_reducible show wpList _ _ _ (⟨some 14, .load 24 (.tmp 13), _, _, _, _⟩ :: _) _ _); refine wpList_load_q9 rfl 24 _ rfl ga 9 (by exact rfl) _ Try.underlying24 (by kernel_rfl) T2.out.u.tx T2.out.u.hc ?_)
      | ((with_reducible show wpList _ _ _ (⟨none, .store 5 (.tmp 11) _, _, _, _, _⟩ :: _) _ _); refine wpList_store_j rfl 5 _ _ rfl ga 20 (by exact rfl) (.int .u8 ((0 : Nat) : Int)) (by exact rfl) rfl (by kernel_rfl) 26 T1.out.u (by decide) (uc_set_k T1.out.u.hb T1.out.u.hc) T1.out.u.hb T1.out.u.hc ?_; intro WT2 HN HO HB
         have T2 := Lib.hid (T1.out.setA HN.out HO.out HB.out)
         clear d20
         clear HN HO HB T1)
      | ((with_reducible show wpList _ _ _ (⟨none, .store 5 (.tmp 7) (.tmp 6), _, _, _, _⟩ :: _) _ _); refine wpList_store_j rfl 5 _ _ rfl ga 20 (by exact rfl) (.int .u8 ((4 : Nat) : Int)) (by exact rfl) rfl (by kernel_rfl) 26 T0.out.u (by decide) (uc_set_k T0.out.u.hb T0.out.u.hc) T0.out.u.hb T0.out.u.hc ?_; intro WT1 HN HO HB
         have T1 := Lib.hid (T0.out.setA HN.out HO.out HB.out)
         have d20 := T1.out.u.c20
         clear HN HO HB T0))
  go_end0
  exact ⟨rfl, T7.out⟩
set_option maxRecDepth 100000 in
theorem tickLastN_any {w X : World} {ga gs gi gq : Nat} {N M : Int} {p q : List Nat} {l : Bool} {c k : Nat} {x0 : Nat} {ib qb : Bool} (hT : Tk w X ga gs gi gq N p M q l c k x0 ib qb) (x : Nat) (M' : Int) (q' : List Nat) (b : Bool) (hq' : q'.length = 8)
    (hP : ∀ W : World, Calls Try.prog 29 #[qv M q] W fun e w' => e = .returned (.tuple #[.int .u8 x, qv M' q', .bool b]) ∧ Below W.heap.size W w') (hk : k = 3) (hM : M' = 0) (hb : bits .and .u8 (c : Int) 2 = 0) : Calls Try.prog 28 #[.pointer (some ⟨ga, 0, none⟩), .pointer (some ⟨gs, 0, none⟩), .pointer (some ⟨gi, 0, none⟩), .pointer (some ⟨gq, 0, none⟩)] X fun e w' => e = .returned (.tuple #[]) ∧ Tk w w' ga gs gi gq N p 0 q' l c 0 x b false := by
  have HP := Lib.hid hP
  clear hP
  subst hk
  subst hM
  have T0 := Lib.hid hT
  clear hT
  have ck := T0.out.u.c20
  go_enter Try.func28, Try.ntmps28
  go_wp2_with (first
      | ((with_reducible show wpList _ _ _ (⟨none, .store 4 (.tmp 3) (.tmp 29), _, _, _, _⟩ :: _) _ _); refine wpList_store_c rfl 4 _ _ rfl gq 0 (by exact rfl) (.bool false) (by exact rfl) rfl (by kernel_rfl) 4 _ T6.out.q (show 0 < 1 by decide) ?_; intro WT7 HN HO HB
         have T7 := Lib.hid (T6.out.setQ HN.out HO.out HB.out)
         clear HN HO HB T6)
      | ((with_reducible show wpList _ _ _ (⟨none, .store 4 (.tmp 2) (.tmp 18), _, _, _, _⟩ :: _) _ _); refine wpList_store_c rfl 4 _ _ rfl gi 0 (by exact rfl) (.bool b) (by exact rfl) rfl (by kernel_rfl) 4 _ T5.out.i (show 0 < 1 by decide) ?_; intro WT6 HN HO HB
         have T6 := Lib.hid (T5.out.setI HN.out HO.out HB.out)
         have d9 := T6.out.u.n9
         have d19 := T6.out.u.c19
         clear HN HO HB T5)
      | ((with_reducible show wpList _ _ _ (⟨none, .store 24 (.tmp 19) (.tmp 17), _, _, _, _⟩ :: _) _ _); refine wpList_store_tx rfl 24 _ _ rfl ga (by exact rfl) (by exact rfl) (by assumption) (by kernel_rfl) 26 T4.out.u ?_; intro WT5 HN HO HB
         have T5 := Lib.hid (T4.out.setA HN.out HO.out HB.out)
         have d9 := T5.out.u.n9
         clear HN HO HB T4)
      | ((with_reducible show wpList _ _ _ (⟨none, .store 5 (.tmp 1) (.tmp 16), _, _, _, _⟩ :: _) _ _); refine wpList_store_c rfl 5 _ _ rfl gs 0 (by exact rfl) (.int .u8 (x : Int)) (by exact rfl) rfl (by kernel_rfl) 5 _ T3.out.s (show 0 < 1 by decide) ?_; intro WT4 HN HO HB
         have T4 := Lib.hid (T3.out.setS HN.out HO.out HB.out)
         clear HN HO HB T3)
      | (go_at_call 29; refine (HP.out _).mono ?_; rintro e WT3 ⟨rfl, hB⟩
         have T3 := Lib.hid (T2.out.under hB)
         clear hB T2)
      | ((with_reducible show wpList _ _ _ (⟨some 14, .load 24 (.tmp 13), _, _, _, _⟩ :: _) _ _); refine wpList_load_q9 rfl 24 _ rfl ga 9 (by exact rfl) _ Try.underlying24 (by kernel_rfl) T2.out.u.tx T2.out.u.hc ?_)
      | ((with_reducible show wpList _ _ _ (⟨none, .store 5 (.tmp 11) _, _, _, _, _⟩ :: _) _ _); refine wpList_store_j rfl 5 _ _ rfl ga 20 (by exact rfl) (.int .u8 ((0 : Nat) : Int)) (by exact rfl) rfl (by kernel_rfl) 26 T1.out.u (by decide) (uc_set_k T1.out.u.hb T1.out.u.hc) T1.out.u.hb T1.out.u.hc ?_; intro WT2 HN HO HB
         have T2 := Lib.hid (T1.out.setA HN.out HO.out HB.out)
         clear d20
         clear HN HO HB T1)
      | ((with_reducible show wpList _ _ _ (⟨none, .store 5 (.tmp 7) (.tmp 6), _, _, _, _⟩ :: _) _ _); refine wpList_store_j rfl 5 _ _ rfl ga 20 (by exact rfl) (.int .u8 ((4 : Nat) : Int)) (by exact rfl) rfl (by kernel_rfl) 26 T0.out.u (by decide) (uc_set_k T0.out.u.hb T0.out.u.hc) T0.out.u.hb T0.out.u.hc ?_; intro WT1 HN HO HB
         have T1 := Lib.hid (T0.out.setA HN.out HO.out HB.out)
         have d20 := T1.out.u.c20
         clear HN HO HB T0))
  go_end0
  exact ⟨rfl, T7.out⟩
set_option maxRecDepth 100000 in
theorem tickLastY_any {w X : World} {ga gs gi gq : Nat} {N M : Int} {p q : List Nat} {l : Bool} {c k : Nat} {x0 : Nat} {ib qb : Bool} (hT : Tk w X ga gs gi gq N p M q l c k x0 ib qb) (x : Nat) (M' : Int) (q' : List Nat) (b : Bool) (hq' : q'.length = 8)
    (hP : ∀ W : World, Calls Try.prog 29 #[qv M q] W fun e w' => e = .returned (.tuple #[.int .u8 x, qv M' q', .bool b]) ∧ Below W.heap.size W w') (hk : k = 3) (hM : M' = 0) (hb : bits .and .u8 (c : Int) 2 = 2) : Calls Try.prog 28 #[.pointer (some ⟨ga, 0, none⟩), .pointer (some ⟨gs, 0, none⟩), .pointer (some ⟨gi, 0, none⟩), .pointer (some ⟨gq, 0, none⟩)] X fun e w' => e = .returned (.tuple #[]) ∧ Tk w w' ga gs gi gq N p 0 q' l c 0 x b true := by
  have HP := Lib.hid hP
  clear hP
  subst hk
  subst hM
  have T0 := Lib.hid hT
  clear hT
  have ck := T0.out.u.c20
  go_enter Try.func28, Try.ntmps28
  go_wp2_with (first
      | ((with_reducible show wpList _ _ _ (⟨none, .store 4 (.tmp 3) (.tmp 29), _, _, _, _⟩ :: _) _ _); refine wpList_store_c rfl 4 _ _ rfl gq 0 (by exact rfl) (.bool true) (by exact rfl) rfl (by kernel_rfl) 4 _ T6.out.q (show 0 < 1 by decide) ?_; intro WT7 HN HO HB
         have T7 := Lib.hid (T6.out.setQ HN.out HO.out HB.out)
         clear HN HO HB T6)
      | ((with_reducible show wpList _ _ _ (⟨none, .store 4 (.tmp 2) (.tmp 18), _, _, _, _⟩ :: _) _ _); refine wpList_store_c rfl 4 _ _ rfl gi 0 (by exact rfl) (.bool b) (by exact rfl) rfl (by kernel_rfl) 4 _ T5.out.i (show 0 < 1 by decide) ?_; intro WT6 HN HO HB
         have T6 := Lib.hid (T5.out.setI HN.out HO.out HB.out)
         have d9 := T6.out.u.n9
         have d19 := T6.out.u.c19
         clear HN HO HB T5)
      | ((with_reducible show wpList _ _ _ (⟨none, .store 24 (.tmp 19) (.tmp 17), _, _, _, _⟩ :: _) _ _); refine wpList_store_tx rfl 24 _ _ rfl ga (by exact rfl) (by exact rfl) (by assumption) (by kernel_rfl) 26 T4.out.u ?_; intro WT5 HN HO HB
         have T5 := Lib.hid (T4.out.setA HN.out HO.out HB.out)
         have d9 := T5.out.u.n9
         clear HN HO HB T4)
      | ((with_reducible show wpList _ _ _ (⟨none, .store 5 (.tmp 1) (.tmp 16), _, _, _, _⟩ :: _) _ _); refine wpList_store_c rfl 5 _ _ rfl gs 0 (by exact rfl) (.int .u8 (x : Int)) (by exact rfl) rfl (by kernel_rfl) 5 _ T3.out.s (show 0 < 1 by decide) ?_; intro WT4 HN HO HB
         have T4 := Lib.hid (T3.out.setS HN.out HO.out HB.out)
         clear HN HO HB T3)
      | (go_at_call 29; refine (HP.out _).mono ?_; rintro e WT3 ⟨rfl, hB⟩
         have T3 := Lib.hid (T2.out.under hB)
         clear hB T2)
      | ((with_reducible show wpList _ _ _ (⟨some 14, .load 24 (.tmp 13), _, _, _, _⟩ :: _) _ _); refine wpList_load_q9 rfl 24 _ rfl ga 9 (by exact rfl) _ Try.underlying24 (by kernel_rfl) T2.out.u.tx T2.out.u.hc ?_)
      | ((with_reducible show wpList _ _ _ (⟨none, .store 5 (.tmp 11) _, _, _, _, _⟩ :: _) _ _); refine wpList_store_j rfl 5 _ _ rfl ga 20 (by exact rfl) (.int .u8 ((0 : Nat) : Int)) (by exact rfl) rfl (by kernel_rfl) 26 T1.out.u (by decide) (uc_set_k T1.out.u.hb T1.out.u.hc) T1.out.u.hb T1.out.u.hc ?_; intro WT2 HN HO HB
         have T2 := Lib.hid (T1.out.setA HN.out HO.out HB.out)
         clear d20
         clear HN HO HB T1)
      | ((with_reducible show wpList _ _ _ (⟨none, .store 5 (.tmp 7) (.tmp 6), _, _, _, _⟩ :: _) _ _); refine wpList_store_j rfl 5 _ _ rfl ga 20 (by exact rfl) (.int .u8 ((4 : Nat) : Int)) (by exact rfl) rfl (by kernel_rfl) 26 T0.out.u (by decide) (uc_set_k T0.out.u.hb T0.out.u.hc) T0.out.u.hb T0.out.u.hc ?_; intro WT1 HN HO HB
         have T1 := Lib.hid (T0.out.setA HN.out HO.out HB.out)
         have d20 := T1.out.u.c20
         clear HN HO HB T0))
  go_end0
  exact ⟨rfl, T7.out⟩
set_option maxHeartbeats 1000000 in
set_option maxRecDepth 100000 in
theorem tickU_any : TickC 15 := by
  intro n bs m cs l c k w h
  have C1 := Lib.hid (fun W => mendU_any n bs m cs l c k W h)
  have hRl := cutL_le n bs h.hb
  have hTl := cutL_le m cs h.hc
  have hlR : ∀ x ∈ cutL n bs, x < 256 := cutL_lt h.lb
  have hlT : ∀ x ∈ cutL m cs, x < 256 := cutL_lt h.lc
  have hc8 := h.c8
  generalize cutL n bs = R at *
  generalize cutL m cs = T at *
  have hk4 := kM_lt T k
  have hk0 : T = [] → kM T k = 0 := fun h => by rw [h, kM_nil]
  generalize hkk : kM T k = k2 at *
  clear hkk
  obtain ⟨N, p, hN, hp, hp8, hN2, hE1⟩ := ofV_parts R hRl
  obtain ⟨M, q, hM, hq, hq8, hM2, hE2⟩ := ofV_parts T hTl
  have HC1 : Hid (∀ W : World, Calls Try.prog 9 #[uv n bs m cs l c k] W fun x w' => x = .returned (uv N p M q l c k2) ∧ Below W.heap.size W w') := Lib.hid (fun W => by
    have h1 := C1.out W
    unfold uq at h1
    rw [hN, hp, hM, hq] at h1
    exact h1)
  have HM2 := Lib.hid hM2
  have HN2 := Lib.hid hN2
  have HIN := Lib.hid (mended_in (c := c) hRl hTl hN hp hM hq hlR hlT hc8 hk4)
  clear C1
  have HC2 : Hid (∀ W : World, Calls Try.prog 29 #[qv M q] W fun x w' => x = .returned (popV T) ∧ Below W.heap.size W w') := Lib.hid (fun W => by
    have h1 := pop_any M q W hq8 HIN.out.1.m0 HIN.out.1.m1
    rw [HIN.out.2.2] at h1
    exact h1)
  have HUR : Hid (∀ (T' : List Nat) (l' : Bool) (c' k' : Nat), uq R T' l' c' k' = uv N p ((min T'.length 8 : Nat) : Int) (pad T') l' c' k') := Lib.hid (fun T' l' c' k' => by unfold uq; rw [hN, hp])
  have HU : Hid (∀ k', uq R T l c k' = uv N p M q l c k') := Lib.hid (fun k' => by rw [HUR.out, hM, hq])
  clear hN hp hE1 hN2 hlR hlT hRl hM hq hE2 hM2
  have hb := h.hb
  have hc := h.hc
  clear h
  unfold uv
  go_enter Try.func15, Try.ntmps15
  go_upto_region 1 with (fail)
  refine name_five (Q := fun X => Code.wp _ _ _ _ X) ?_
  intro W0 hq1 hq2 hq3 hq4 hq5 hB0
  have RG : Hid (URow W0 w.heap.size 26 n bs m cs l c k) := Lib.hid ⟨hq1, hb, hc⟩
  have T0 : Hid (Tk w W0 (w.heap.size + 1) (w.heap.size + 1 + 1) (w.heap.size + 1 + 1 + 1) (w.heap.size + 1 + 1 + 1 + 1) 0 Z8 0 Z8 false 0 0 0 false false) := Lib.hid ⟨⟨hq2, rfl, rfl⟩, hq3, hq4, hq5, hB0, by omega, by omega, by omega, by omega⟩
  clear hq1 hq2 hq3 hq4 hq5 hB0
  obtain ⟨g, hg⟩ : ∃ g, w.heap.size = g := ⟨_, rfl⟩
  obtain ⟨ga, hga⟩ : ∃ g, w.heap.size + 1 = g := ⟨_, rfl⟩
  obtain ⟨gs, hgs⟩ : ∃ g, w.heap.size + 1 + 1 = g := ⟨_, rfl⟩
  obtain ⟨gi, hgi⟩ : ∃ g, w.heap.size + 1 + 1 + 1 = g := ⟨_, rfl⟩
  obtain ⟨gq, hgq⟩ : ∃ g, w.heap.size + 1 + 1 + 1 + 1 = g := ⟨_, rfl⟩
  rw [hgq, hgi, hgs, hga] at T0 ⊢
  rw [hg] at RG ⊢
  clear hgq hgi hgs hga hg
  go_upto_region 3 with (first
      | ((with_reducible show wpList _ _ _ (⟨none, .store 26 (.tmp 2) (.tmp 8), _, _, _, _⟩ :: _) _ _); refine wpList_store_u rfl 26 _ _ rfl ga (by exact rfl) (by exact rfl) (by assumption) (by assumption) (by kernel_rfl) 26 T1.out.u ?_; intro WT2 HN HO HB
         have T2 := Lib.hid (T1.out.setA HN.out HO.out HB.out)
         have b9 := T2.out.u.n9
         clear HN HO HB RG T1)
      | (go_at_call 9; refine (HC1.out _).mono ?_; rintro e WT1 ⟨rfl, hB⟩
         have T1 := Lib.hid (T0.out.under hB)
         clear hB T0)
      | ((with_reducible show wpList _ _ _ (⟨some 7, .load 26 (.tmp 1), _, _, _, _⟩ :: _) _ _); refine wpList_load_u (by rfl) 26 _ rfl g (by exact rfl) _ Try.underlying26 (by kernel_rfl) 26 RG.out ?_))
  cases T with
  | nil =>
    have HE : Hid (uq R (tickT [] k2) l c (tickK [] k2) = uv N p M q l c 0) := Lib.hid (HU.out 0)
    have HE2 : Hid (tickB [] k2 = 0 ∧ sendsU [] k2 = false ∧ tickQ [] c k2 = false) := Lib.hid ⟨rfl, rfl, rfl⟩
    have hk20 : k2 = 0 := hk0 rfl
    have d1 : M = 0 := by simpa using HM2.out
    subst hk20
    subst d1
    clear hTl
    go_upto_region 5 with fail
    refine wp_region_noPanic ?_
    refine wp_region_held_drew (S := fun X => Tk w X ga gs gi gq N p 0 q l c 0 0 false false) (by kernel_rfl) (T2.out.under (Below.refl _ _).drew) (fun hHeld => ?_)
    refine' take_ 0 rfl (by kernel_rfl) (by kernel_rfl) (by kernel_rfl) (fun _ _ _ h => h) (by rfl) (fun wS hSw => run_load_u wS 26 _ ga rfl _ Try.underlying26 (by kernel_rfl) 26 hSw.u _ _ _ _ _) hHeld ?_
    try simp only [Act.put, List.setIfInBounds_toArray, List.set_cons_zero, List.set_cons_succ]
    refine' take_ 1 rfl (by kernel_rfl) (by kernel_rfl) (by kernel_rfl) (fun _ _ _ h => h) (by rfl) (fun wS hSw => ?_) hHeld ?_
    rotate_left
    focus (have s0 := hSw.s.cell 0 _ rfl; clear hSw; go_simp; (try with_reducible rfl); done)
    try simp only [Act.put, List.setIfInBounds_toArray, List.set_cons_zero, List.set_cons_succ]
    refine' take_ 2 rfl (by kernel_rfl) (by kernel_rfl) (by kernel_rfl) (fun _ _ _ h => h) (by rfl) (fun wS hSw => ?_) hHeld ?_
    rotate_left
    focus (have s0 := hSw.i.cell 0 _ rfl; clear hSw; go_simp; (try with_reducible rfl); done)
    try simp only [Act.put, List.setIfInBounds_toArray, List.set_cons_zero, List.set_cons_succ]
    refine' take_ 3 rfl (by kernel_rfl) (by kernel_rfl) (by kernel_rfl) (fun _ _ _ h => h) (by rfl) (fun wS hSw => ?_) hHeld ?_
    rotate_left
    focus (have s0 := hSw.q.cell 0 _ rfl; clear hSw; go_simp; (try with_reducible rfl); done)
    try simp only [Act.put, List.setIfInBounds_toArray, List.set_cons_zero, List.set_cons_succ]
    refine only_ 4 rfl (by kernel_rfl) (by rfl) (fun K hK => ?_)
    refine wp_store_u 26 _ _ rfl ga rfl rfl hHeld.u.hb hHeld.u.hc (by kernel_rfl) 26 hHeld.u ?_
    intro WZ4 HN HO HB
    refine hK.out _ _ (hHeld.setA HN.out HO.out HB.out) (fun hHeld2 => ?_)
    clear hK K hHeld HN HO HB
    have hHeld := hHeld2
    clear hHeld2
    try simp only [Act.put]
    refine only_ 5 rfl (by kernel_rfl) (by rfl) (fun K hK => ?_)
    refine wp_store_one 5 _ _ rfl gs rfl _ rfl rfl (by kernel_rfl) 5 _ hHeld.s ?_
    intro WZ5 HN HO HB
    refine hK.out _ _ (hHeld.setS HN.out HO.out HB.out) (fun hHeld2 => ?_)
    clear hK K hHeld HN HO HB
    have hHeld := hHeld2
    clear hHeld2
    try simp only [Act.put]
    refine only_ 6 rfl (by kernel_rfl) (by rfl) (fun K hK => ?_)
    refine wp_store_one 4 _ _ rfl gi rfl _ rfl rfl (by kernel_rfl) 4 _ hHeld.i ?_
    intro WZ6 HN HO HB
    refine hK.out _ _ (hHeld.setI HN.out HO.out HB.out) (fun hHeld2 => ?_)
    clear hK K hHeld HN HO HB
    have hHeld := hHeld2
    clear hHeld2
    try simp only [Act.put]
    refine only_ 7 rfl (by kernel_rfl) (by rfl) (fun K hK => ?_)
    refine wp_store_one 4 _ _ rfl gq rfl _ rfl rfl (by kernel_rfl) 4 _ hHeld.q ?_
    intro WZ7 HN HO HB
    refine hK.out _ _ (hHeld.setQ HN.out HO.out HB.out) (fun hHeld2 => ?_)
    clear hK K hHeld HN HO HB
    have hHeld := hHeld2
    clear hHeld2
    try simp only [Act.put]
    refine wpAnyH_done (by kernel_rfl) ?_ _
    refine NoPanic.normal ?_
    go_wp2
    exact bodyPost_ret (v := .tuple #[uv N p 0 q l c 0, .int .u8 ((0 : Nat)), .bool false, .bool false]) (results_cccc Try.results15 _ _ _ _ _ _ _ _ _ _ rfl rfl rfl rfl (run_loadVar_u _ ga 26 _ Try.underlying26 (by kernel_rfl) 26 hHeld.u) (run_loadVar_one _ _ _ _ _ uU8 rfl (hHeld.s.cell 0 _ rfl)) (run_loadVar_one _ _ _ _ _ uBool rfl (hHeld.i.cell 0 _ rfl)) (run_loadVar_one _ _ _ _ _ uBool rfl (hHeld.q.cell 0 _ rfl))) rfl ⟨by first | (rw [HE.out, HE2.out.1, HE2.out.2.1, HE2.out.2.2]; done) | (rw [HE.out, HE2.out.1, HE2.out.2.1, HE2.out.2.2]; rfl), hHeld.b⟩
  | cons x ts =>
    have d1 : 0 < M := by have := HM2.out; simp at this; omega
    by_cases h3 : k2 = 3
    · subst h3
      have hts : ts.length ≤ 8 := by simp at hTl; omega
      obtain ⟨N', p', hN', hp', hp8', hN2', hE'⟩ := ofV_parts ts hts
      have HE : Hid (uq R (tickT (x :: ts) 3) l c (tickK (x :: ts) 3) = uv N p N' p' l c 0) := Lib.hid (by rw [show tickT (x :: ts) 3 = ts from rfl, show tickK (x :: ts) 3 = 0 from rfl, HUR.out, hN', hp'])
      have HNN := Lib.hid hN2'
      rw [show popV (x :: ts) = .tuple #[.int .u8 (x : Int), ofV ts, .bool true] from rfl, hE'] at HC2
      clear hN' hp' hE' hN2' hts hTl
      cases ts with
      | nil =>
        have d3 : N' = 0 := by simpa using HNN.out
        subst d3
        have hbit := and_two_bit c hc8
        obtain ⟨b2, hb2⟩ : ∃ b2, decide (c / 2 % 2 = 1) = b2 := ⟨_, rfl⟩
        rw [hb2] at hbit
        have HE2 : Hid (tickB [x] 3 = x ∧ sendsU [x] 3 = true ∧ tickQ [x] c 3 = b2) := Lib.hid ⟨rfl, rfl, by rw [← hb2]; rfl⟩
        have HBIT := Lib.hid hbit
        clear hb2 hbit
        cases b2
        · replace HBIT : Hid (bits .and .u8 (c : Int) 2 = 0) := HBIT
          go_upto_region 5 with (first
      | (go_at_call 28; refine (tickLastN_any T2.out x 0 p' true hp8' HC2.out rfl rfl HBIT.out).mono ?_; rintro e WT3 ⟨rfl, hTT⟩
         have T3 := Lib.hid hTT
         clear hTT b9 T2))
          refine wp_region_noPanic ?_
          refine wp_region_held_drew (S := fun X => Tk w X ga gs gi gq N p 0 p' l c 0 x true false) (by kernel_rfl) (T3.out.under (Below.refl _ _).drew) (fun hHeld => ?_)
          refine' take_ 0 rfl (by kernel_rfl) (by kernel_rfl) (by kernel_rfl) (fun _ _ _ h => h) (by rfl) (fun wS hSw => run_load_u wS 26 _ ga rfl _ Try.underlying26 (by kernel_rfl) 26 hSw.u _ _ _ _ _) hHeld ?_
          try simp only [Act.put, List.setIfInBounds_toArray, List.set_cons_zero, List.set_cons_succ]
          refine' take_ 1 rfl (by kernel_rfl) (by kernel_rfl) (by kernel_rfl) (fun _ _ _ h => h) (by rfl) (fun wS hSw => ?_) hHeld ?_
          rotate_left
          focus (have s0 := hSw.s.cell 0 _ rfl; clear hSw; go_simp; (try with_reducible rfl); done)
          try simp only [Act.put, List.setIfInBounds_toArray, List.set_cons_zero, List.set_cons_succ]
          refine' take_ 2 rfl (by kernel_rfl) (by kernel_rfl) (by kernel_rfl) (fun _ _ _ h => h) (by rfl) (fun wS hSw => ?_) hHeld ?_
          rotate_left
          focus (have s0 := hSw.i.cell 0 _ rfl; clear hSw; go_simp; (try with_reducible rfl); done)
          try simp only [Act.put, List.setIfInBounds_toArray, List.set_cons_zero, List.set_cons_succ]
          refine' take_ 3 rfl (by kernel_rfl) (by kernel_rfl) (by kernel_rfl) (fun _ _ _ h => h) (by rfl) (fun wS hSw => ?_) hHeld ?_
          rotate_left
          focus (have s0 := hSw.q.cell 0 _ rfl; clear hSw; go_simp; (try with_reducible rfl); done)
          try simp only [Act.put, List.setIfInBounds_toArray, List.set_cons_zero, List.set_cons_succ]
          refine only_ 4 rfl (by kernel_rfl) (by rfl) (fun K hK => ?_)
          refine wp_store_u 26 _ _ rfl ga rfl rfl hHeld.u.hb hHeld.u.hc (by kernel_rfl) 26 hHeld.u ?_
          intro WZ4 HN HO HB
          refine hK.out _ _ (hHeld.setA HN.out HO.out HB.out) (fun hHeld2 => ?_)
          clear hK K hHeld HN HO HB
          have hHeld := hHeld2
          clear hHeld2
          try simp only [Act.put]
          refine only_ 5 rfl (by kernel_rfl) (by rfl) (fun K hK => ?_)
          refine wp_store_one 5 _ _ rfl gs rfl _ rfl rfl (by kernel_rfl) 5 _ hHeld.s ?_
          intro WZ5 HN HO HB
          refine hK.out _ _ (hHeld.setS HN.out HO.out HB.out) (fun hHeld2 => ?_)
          clear hK K hHeld HN HO HB
          have hHeld := hHeld2
          clear hHeld2
          try simp only [Act.put]
          refine only_ 6 rfl (by kernel_rfl) (by rfl) (fun K hK => ?_)
          refine wp_store_one 4 _ _ rfl gi rfl _ rfl rfl (by kernel_rfl) 4 _ hHeld.i ?_
          intro WZ6 HN HO HB
          refine hK.out _ _ (hHeld.setI HN.out HO.out HB.out) (fun hHeld2 => ?_)
          clear hK K hHeld HN HO HB
          have hHeld := hHeld2
          clear hHeld2
          try simp only [Act.put]
          refine only_ 7 rfl (by kernel_rfl) (by rfl) (fun K hK => ?_)
          refine wp_store_one 4 _ _ rfl gq rfl _ rfl rfl (by kernel_rfl) 4 _ hHeld.q ?_
          intro WZ7 HN HO HB
          refine hK.out _ _ (hHeld.setQ HN.out HO.out HB.out) (fun hHeld2 => ?_)
          clear hK K hHeld HN HO HB
          have hHeld := hHeld2
          clear hHeld2
          try simp only [Act.put]
          refine wpAnyH_done (by kernel_rfl) ?_ _
          refine NoPanic.normal ?_
          go_wp2
          exact bodyPost_ret (v := .tuple #[uv N p 0 p' l c 0, .int .u8 ((x : Nat)), .bool true, .bool false]) (results_cccc Try.results15 _ _ _ _ _ _ _ _ _ _ rfl rfl rfl rfl (run_loadVar_u _ ga 26 _ Try.underlying26 (by kernel_rfl) 26 hHeld.u) (run_loadVar_one _ _ _ _ _ uU8 rfl (hHeld.s.cell 0 _ rfl)) (run_loadVar_one _ _ _ _ _ uBool rfl (hHeld.i.cell 0 _ rfl)) (run_loadVar_one _ _ _ _ _ uBool rfl (hHeld.q.cell 0 _ rfl))) rfl ⟨by first | (rw [HE.out, HE2.out.1, HE2.out.2.1, HE2.out.2.2]; done) | (rw [HE.out, HE2.out.1, HE2.out.2.1, HE2.out.2.2]; rfl), hHeld.b⟩
        · replace HBIT : Hid (bits .and .u8 (c : Int) 2 = 2) := HBIT
          go_upto_region 5 with (first
      | (go_at_call 28; refine (tickLastY_any T2.out x 0 p' true hp8' HC2.out rfl rfl HBIT.out).mono ?_; rintro e WT3 ⟨rfl, hTT⟩
         have T3 := Lib.hid hTT
         clear hTT b9 T2))
          refine wp_region_noPanic ?_
          refine wp_region_held_drew (S := fun X => Tk w X ga gs gi gq N p 0 p' l c 0 x true true) (by kernel_rfl) (T3.out.under (Below.refl _ _).drew) (fun hHeld => ?_)
          refine' take_ 0 rfl (by kernel_rfl) (by kernel_rfl) (by kernel_rfl) (fun _ _ _ h => h) (by rfl) (fun wS hSw => run_load_u wS 26 _ ga rfl _ Try.underlying26 (by kernel_rfl) 26 hSw.u _ _ _ _ _) hHeld ?_
          try simp only [Act.put, List.setIfInBounds_toArray, List.set_cons_zero, List.set_cons_succ]
          refine' take_ 1 rfl (by kernel_rfl) (by kernel_rfl) (by kernel_rfl) (fun _ _ _ h => h) (by rfl) (fun wS hSw => ?_) hHeld ?_
          rotate_left
          focus (have s0 := hSw.s.cell 0 _ rfl; clear hSw; go_simp; (try with_reducible rfl); done)
          try simp only [Act.put, List.setIfInBounds_toArray, List.set_cons_zero, List.set_cons_succ]
          refine' take_ 2 rfl (by kernel_rfl) (by kernel_rfl) (by kernel_rfl) (fun _ _ _ h => h) (by rfl) (fun wS hSw => ?_) hHeld ?_
          rotate_left
          focus (have s0 := hSw.i.cell 0 _ rfl; clear hSw; go_simp; (try with_reducible rfl); done)
          try simp only [Act.put, List.setIfInBounds_toArray, List.set_cons_zero, List.set_cons_succ]
          refine' take_ 3 rfl (by kernel_rfl) (by kernel_rfl) (by kernel_rfl) (fun _ _ _ h => h) (by rfl) (fun wS hSw => ?_) hHeld ?_
          rotate_left
          focus (have s0 := hSw.q.cell 0 _ rfl; clear hSw; go_simp; (try with_reducible rfl); done)
          try simp only [Act.put, List.setIfInBounds_toArray, List.set_cons_zero, List.set_cons_succ]
          refine only_ 4 rfl (by kernel_rfl) (by rfl) (fun K hK => ?_)
          refine wp_store_u 26 _ _ rfl ga rfl rfl hHeld.u.hb hHeld.u.hc (by kernel_rfl) 26 hHeld.u ?_
          intro WZ4 HN HO HB
          refine hK.out _ _ (hHeld.setA HN.out HO.out HB.out) (fun hHeld2 => ?_)
          clear hK K hHeld HN HO HB
          have hHeld := hHeld2
          clear hHeld2
          try simp only [Act.put]
          refine only_ 5 rfl (by kernel_rfl) (by rfl) (fun K hK => ?_)
          refine wp_store_one 5 _ _ rfl gs rfl _ rfl rfl (by kernel_rfl) 5 _ hHeld.s ?_
          intro WZ5 HN HO HB
          refine hK.out _ _ (hHeld.setS HN.out HO.out HB.out) (fun hHeld2 => ?_)
          clear hK K hHeld HN HO HB
          have hHeld := hHeld2
          clear hHeld2
          try simp only [Act.put]
          refine only_ 6 rfl (by kernel_rfl) (by rfl) (fun K hK => ?_)
          refine wp_store_one 4 _ _ rfl gi rfl _ rfl rfl (by kernel_rfl) 4 _ hHeld.i ?_
          intro WZ6 HN HO HB
          refine hK.out _ _ (hHeld.setI HN.out HO.out HB.out) (fun hHeld2 => ?_)
          clear hK K hHeld HN HO HB
          have hHeld := hHeld2
          clear hHeld2
          try simp only [Act.put]
          refine only_ 7 rfl (by kernel_rfl) (by rfl) (fun K hK => ?_)
          refine wp_store_one 4 _ _ rfl gq rfl _ rfl rfl (by kernel_rfl) 4 _ hHeld.q ?_
          intro WZ7 HN HO HB
          refine hK.out _ _ (hHeld.setQ HN.out HO.out HB.out) (fun hHeld2 => ?_)
          clear hK K hHeld HN HO HB
          have hHeld := hHeld2
          clear hHeld2
          try simp only [Act.put]
          refine wpAnyH_done (by kernel_rfl) ?_ _
          refine NoPanic.normal ?_
          go_wp2
          exact bodyPost_ret (v := .tuple #[uv N p 0 p' l c 0, .int .u8 ((x : Nat)), .bool true, .bool true]) (results_cccc Try.results15 _ _ _ _ _ _ _ _ _ _ rfl rfl rfl rfl (run_loadVar_u _ ga 26 _ Try.underlying26 (by kernel_rfl) 26 hHeld.u) (run_loadVar_one _ _ _ _ _ uU8 rfl (hHeld.s.cell 0 _ rfl)) (run_loadVar_one _ _ _ _ _ uBool rfl (hHeld.i.cell 0 _ rfl)) (run_loadVar_one _ _ _ _ _ uBool rfl (hHeld.q.cell 0 _ rfl))) rfl ⟨by first | (rw [HE.out, HE2.out.1, HE2.out.2.1, HE2.out.2.2]; done) | (rw [HE.out, HE2.out.1, HE2.out.2.1, HE2.out.2.2]; rfl), hHeld.b⟩
      | cons y us =>
        have HNe : Hid (N' ≠ 0) := Lib.hid (by rw [HNN.out]; simp; omega)
        have HE2 : Hid (tickB (x :: y :: us) 3 = x ∧ sendsU (x :: y :: us) 3 = true ∧ tickQ (x :: y :: us) c 3 = false) := Lib.hid ⟨rfl, rfl, rfl⟩
        go_upto_region 5 with (first
      | (go_at_call 28; refine (tickMore_any T2.out x N' p' true hp8' HC2.out rfl HNe.out).mono ?_; rintro e WT3 ⟨rfl, hTT⟩
         have T3 := Lib.hid hTT
         clear hTT b9 T2))
        refine wp_region_noPanic ?_
        refine wp_region_held_drew (S := fun X => Tk w X ga gs gi gq N p N' p' l c 0 x true false) (by kernel_rfl) (T3.out.under (Below.refl _ _).drew) (fun hHeld => ?_)
        refine' take_ 0 rfl (by kernel_rfl) (by kernel_rfl) (by kernel_rfl) (fun _ _ _ h => h) (by rfl) (fun wS hSw => run_load_u wS 26 _ ga rfl _ Try.underlying26 (by kernel_rfl) 26 hSw.u _ _ _ _ _) hHeld ?_
        try simp only [Act.put, List.setIfInBounds_toArray, List.set_cons_zero, List.set_cons_succ]
        refine' take_ 1 rfl (by kernel_rfl) (by kernel_rfl) (by kernel_rfl) (fun _ _ _ h => h) (by rfl) (fun wS hSw => ?_) hHeld ?_
        rotate_left
        focus (have s0 := hSw.s.cell 0 _ rfl; clear hSw; go_simp; (try with_reducible rfl); done)
        try simp only [Act.put, List.setIfInBounds_toArray, List.set_cons_zero, List.set_cons_succ]
        refine' take_ 2 rfl (by kernel_rfl) (by kernel_rfl) (by kernel_rfl) (fun _ _ _ h => h) (by rfl) (fun wS hSw => ?_) hHeld ?_
        rotate_left
        focus (have s0 := hSw.i.cell 0 _ rfl; clear hSw; go_simp; (try with_reducible rfl); done)
        try simp only [Act.put, List.setIfInBounds_toArray, List.set_cons_zero, List.set_cons_succ]
        refine' take_ 3 rfl (by kernel_rfl) (by kernel_rfl) (by kernel_rfl) (fun _ _ _ h => h) (by rfl) (fun wS hSw => ?_) hHeld ?_
        rotate_left
        focus (have s0 := hSw.q.cell 0 _ rfl; clear hSw; go_simp; (try with_reducible rfl); done)
        try simp only [Act.put, List.setIfInBounds_toArray, List.set_cons_zero, List.set_cons_succ]
        refine only_ 4 rfl (by kernel_rfl) (by rfl) (fun K hK => ?_)
        refine wp_store_u 26 _ _ rfl ga rfl rfl hHeld.u.hb hHeld.u.hc (by kernel_rfl) 26 hHeld.u ?_
        intro WZ4 HN HO HB
        refine hK.out _ _ (hHeld.setA HN.out HO.out HB.out) (fun hHeld2 => ?_)
        clear hK K hHeld HN HO HB
        have hHeld := hHeld2
        clear hHeld2
        try simp only [Act.put]
        refine only_ 5 rfl (by kernel_rfl) (by rfl) (fun K hK => ?_)
        refine wp_store_one 5 _ _ rfl gs rfl _ rfl rfl (by kernel_rfl) 5 _ hHeld.s ?_
        intro WZ5 HN HO HB
        refine hK.out _ _ (hHeld.setS HN.out HO.out HB.out) (fun hHeld2 => ?_)
        clear hK K hHeld HN HO HB
        have hHeld := hHeld2
        clear hHeld2
        try simp only [Act.put]
        refine only_ 6 rfl (by kernel_rfl) (by rfl) (fun K hK => ?_)
        refine wp_store_one 4 _ _ rfl gi rfl _ rfl rfl (by kernel_rfl) 4 _ hHeld.i ?_
        intro WZ6 HN HO HB
        refine hK.out _ _ (hHeld.setI HN.out HO.out HB.out) (fun hHeld2 => ?_)
        clear hK K hHeld HN HO HB
        have hHeld := hHeld2
        clear hHeld2
        try simp only [Act.put]
        refine only_ 7 rfl (by kernel_rfl) (by rfl) (fun K hK => ?_)
        refine wp_store_one 4 _ _ rfl gq rfl _ rfl rfl (by kernel_rfl) 4 _ hHeld.q ?_
        intro WZ7 HN HO HB
        refine hK.out _ _ (hHeld.setQ HN.out HO.out HB.out) (fun hHeld2 => ?_)
        clear hK K hHeld HN HO HB
        have hHeld := hHeld2
        clear hHeld2
        try simp only [Act.put]
        refine wpAnyH_done (by kernel_rfl) ?_ _
        refine NoPanic.normal ?_
        go_wp2
        exact bodyPost_ret (v := .tuple #[uv N p N' p' l c 0, .int .u8 ((x : Nat)), .bool true, .bool false]) (results_cccc Try.results15 _ _ _ _ _ _ _ _ _ _ rfl rfl rfl rfl (run_loadVar_u _ ga 26 _ Try.underlying26 (by kernel_rfl) 26 hHeld.u) (run_loadVar_one _ _ _ _ _ uU8 rfl (hHeld.s.cell 0 _ rfl)) (run_loadVar_one _ _ _ _ _ uBool rfl (hHeld.i.cell 0 _ rfl)) (run_loadVar_one _ _ _ _ _ uBool rfl (hHeld.q.cell 0 _ rfl))) rfl ⟨by first | (rw [HE.out, HE2.out.1, HE2.out.2.1, HE2.out.2.2]; done) | (rw [HE.out, HE2.out.1, HE2.out.2.1, HE2.out.2.2]; rfl), hHeld.b⟩
    · have hs : sendsU (x :: ts) k2 = false := by simp [sendsU, h3]
      have HE : Hid (uq R (tickT (x :: ts) k2) l c (tickK (x :: ts) k2) = uv N p M q l c (k2 + 1)) := Lib.hid (by rw [show tickT (x :: ts) k2 = x :: ts from if_neg (by rw [hs]; decide), show tickK (x :: ts) k2 = k2 + 1 from (if_neg (by simp)).trans (if_neg h3), HU.out])
      have HE2 : Hid (tickB (x :: ts) k2 = 0 ∧ sendsU (x :: ts) k2 = false ∧ tickQ (x :: ts) c k2 = false) := Lib.hid ⟨if_neg (by rw [hs]; decide), hs, by unfold tickQ; rw [hs]; rfl⟩
      have HK : Hid (k2 + 1 < 4) := Lib.hid (by omega)
      clear hTl hs h3
      go_upto_region 5 with (first
      | (go_at_call 28; refine (tickNo_any T2.out HK.out).mono ?_; rintro e WT3 ⟨rfl, hTT⟩
         have T3 := Lib.hid hTT
         clear hTT b9 T2))
      refine wp_region_noPanic ?_
      refine wp_region_held_drew (S := fun X => Tk w X ga gs gi gq N p M q l c (k2 + 1) 0 false false) (by kernel_rfl) (T3.out.under (Below.refl _ _).drew) (fun hHeld => ?_)
      refine' take_ 0 rfl (by kernel_rfl) (by kernel_rfl) (by kernel_rfl) (fun _ _ _ h => h) (by rfl) (fun wS hSw => run_load_u wS 26 _ ga rfl _ Try.underlying26 (by kernel_rfl) 26 hSw.u _ _ _ _ _) hHeld ?_
      try simp only [Act.put, List.setIfInBounds_toArray, List.set_cons_zero, List.set_cons_succ]
      refine' take_ 1 rfl (by kernel_rfl) (by kernel_rfl) (by kernel_rfl) (fun _ _ _ h => h) (by rfl) (fun wS hSw => ?_) hHeld ?_
      rotate_left
      focus (have s0 := hSw.s.cell 0 _ rfl; clear hSw; go_simp; (try with_reducible rfl); done)
      try simp only [Act.put, List.setIfInBounds_toArray, List.set_cons_zero, List.set_cons_succ]
      refine' take_ 2 rfl (by kernel_rfl) (by kernel_rfl) (by kernel_rfl) (fun _ _ _ h => h) (by rfl) (fun wS hSw => ?_) hHeld ?_
      rotate_left
      focus (have s0 := hSw.i.cell 0 _ rfl; clear hSw; go_simp; (try with_reducible rfl); done)
      try simp only [Act.put, List.setIfInBounds_toArray, List.set_cons_zero, List.set_cons_succ]
      refine' take_ 3 rfl (by kernel_rfl) (by kernel_rfl) (by kernel_rfl) (fun _ _ _ h => h) (by rfl) (fun wS hSw => ?_) hHeld ?_
      rotate_left
      focus (have s0 := hSw.q.cell 0 _ rfl; clear hSw; go_simp; (try with_reducible rfl); done)
      try simp only [Act.put, List.setIfInBounds_toArray, List.set_cons_zero, List.set_cons_succ]
      refine only_ 4 rfl (by kernel_rfl) (by rfl) (fun K hK => ?_)
      refine wp_store_u 26 _ _ rfl ga rfl rfl hHeld.u.hb hHeld.u.hc (by kernel_rfl) 26 hHeld.u ?_
      intro WZ4 HN HO HB
      refine hK.out _ _ (hHeld.setA HN.out HO.out HB.out) (fun hHeld2 => ?_)
      clear hK K hHeld HN HO HB
      have hHeld := hHeld2
      clear hHeld2
      try simp only [Act.put]
      refine only_ 5 rfl (by kernel_rfl) (by rfl) (fun K hK => ?_)
      refine wp_store_one 5 _ _ rfl gs rfl _ rfl rfl (by kernel_rfl) 5 _ hHeld.s ?_
      intro WZ5 HN HO HB
      refine hK.out _ _ (hHeld.setS HN.out HO.out HB.out) (fun hHeld2 => ?_)
      clear hK K hHeld HN HO HB
      have hHeld := hHeld2
      clear hHeld2
      try simp only [Act.put]
      refine only_ 6 rfl (by kernel_rfl) (by rfl) (fun K hK => ?_)
      refine wp_store_one 4 _ _ rfl gi rfl _ rfl rfl (by kernel_rfl) 4 _ hHeld.i ?_
      intro WZ6 HN HO HB
      refine hK.out _ _ (hHeld.setI HN.out HO.out HB.out) (fun hHeld2 => ?_)
      clear hK K hHeld HN HO HB
      have hHeld := hHeld2
      clear hHeld2
      try simp only [Act.put]
      refine only_ 7 rfl (by kernel_rfl) (by rfl) (fun K hK => ?_)
      refine wp_store_one 4 _ _ rfl gq rfl _ rfl rfl (by kernel_rfl) 4 _ hHeld.q ?_
      intro WZ7 HN HO HB
      refine hK.out _ _ (hHeld.setQ HN.out HO.out HB.out) (fun hHeld2 => ?_)
      clear hK K hHeld HN HO HB
      have hHeld := hHeld2
      clear hHeld2
      try simp only [Act.put]
      refine wpAnyH_done (by kernel_rfl) ?_ _
      refine NoPanic.normal ?_
      go_wp2
      exact bodyPost_ret (v := .tuple #[uv N p M q l c (k2 + 1), .int .u8 ((0 : Nat)), .bool false, .bool false]) (results_cccc Try.results15 _ _ _ _ _ _ _ _ _ _ rfl rfl rfl rfl (run_loadVar_u _ ga 26 _ Try.underlying26 (by kernel_rfl) 26 hHeld.u) (run_loadVar_one _ _ _ _ _ uU8 rfl (hHeld.s.cell 0 _ rfl)) (run_loadVar_one _ _ _ _ _ uBool rfl (hHeld.i.cell 0 _ rfl)) (run_loadVar_one _ _ _ _ _ uBool rfl (hHeld.q.cell 0 _ rfl))) rfl ⟨by first | (rw [HE.out, HE2.out.1, HE2.out.2.1, HE2.out.2.2]; done) | (rw [HE.out, HE2.out.1, HE2.out.2.1, HE2.out.2.2]; rfl), hHeld.b⟩
end Go.Proofs.Ytgpgijdciaieaaa
