/-
  Uarts as they lie in memory: twenty-one cells; loads and stores of the whole, of each queue, of each cell. And what is said of uarts in plain words.
-/
import Derived.Test.YtgpgijdciaieaaaRpop
namespace Go.Proofs.Ytgpgijdciaieaaa
open Go.RowKit
set_option linter.unusedVariables false
/-- Its cells. -/
def uc (n : Int) (bs : List Nat) (m : Int) (cs : List Nat) (l : Bool) (c k : Nat) : List Value := (.int .i64 n :: bvals bs) ++ ((.int .i64 m :: bvals cs) ++ [.bool l, .int .u8 (c : Int), .int .u8 (k : Int)])
def uv (n : Int) (bs : List Nat) (m : Int) (cs : List Nat) (l : Bool) (c k : Nat) : Value := .agg (uc n bs m cs l c k).toArray
theorem bv8 {bs : List Nat} (h : bs.length = 8) : (bvals bs).length = 8 := by rw [bvals_length, h]
theorem uc_length {n : Int} {bs : List Nat} {m : Int} {cs : List Nat} {l : Bool} {c k : Nat} (hb : bs.length = 8) (hc : cs.length = 8) : (uc n bs m cs l c k).length = 21 := by simp [uc, bv8 hb, bv8 hc]
theorem uc_one (n : Int) (bs : List Nat) (m : Int) (cs : List Nat) (l : Bool) (c k : Nat) : ∀ u ∈ uc n bs m cs l c k, u.oneCell' = true := by
  intro u hu
  simp only [uc, List.mem_append, List.mem_cons, List.not_mem_nil, or_false] at hu
  rcases hu with (rfl | hu) | (rfl | hu) | rfl | rfl | rfl
  · rfl
  · exact bvals_one _ u hu
  · rfl
  · exact bvals_one _ u hu
  · rfl
  · rfl
  · rfl
theorem qc_one (n : Int) (bs : List Nat) : ∀ u ∈ (.int .i64 n :: bvals bs : List Value), u.oneCell' = true := by
  intro u hu
  rcases List.mem_cons.1 hu with rfl | hu
  · rfl
  · exact bvals_one _ u hu
/-- Block g holds a uart. -/
structure URow (w : World) (g : Nat) (t : TypeId) (n : Int) (bs : List Nat) (m : Int) (cs : List Nat) (l : Bool) (c k : Nat) : Prop where
  v : VRow w g t (uc n bs m cs l c k)
  hb : bs.length = 8
  hc : cs.length = 8
section
variable {w w' : World} {g : Nat} {t : TypeId} {n : Int} {bs : List Nat} {m : Int} {cs : List Nat} {l : Bool} {c k : Nat}
theorem URow.below {B : Nat} (h : URow w g t n bs m cs l c k) (hb : Below B w w') (hg : g < B) : URow w' g t n bs m cs l c k := ⟨h.v.below hb hg, h.hb, h.hc⟩
theorem URow.lt (h : URow w g t n bs m cs l c k) : g < w.heap.size := h.v.lt
theorem URow.other (h : URow w g t n bs m cs l c k) {r : Nat} (ho : ∀ j, j ≠ r → w'.heap[j]? = w.heap[j]?) (hr : g ≠ r) : URow w' g t n bs m cs l c k := ⟨(ho g hr).trans h.v, h.hb, h.hc⟩
theorem URow.n0 (h : URow w g t n bs m cs l c k) : w.cell? ⟨g, 0, none⟩ = some (.int .i64 n) := h.v.cell 0 _ rfl
theorem uc_m (hb : bs.length = 8) : (uc n bs m cs l c k)[9]? = some (.int .i64 m) := by
  unfold uc
  rw [List.getElem?_append_right (by simp [bv8 hb])]
  simp [bv8 hb]
theorem uc_tail (hb : bs.length = 8) (hc : cs.length = 8) (j : Nat) : (uc n bs m cs l c k)[18 + j]? = [.bool l, .int .u8 (c : Int), .int .u8 (k : Int)][j]? := by
  unfold uc
  rw [List.getElem?_append_right (by simp [bv8 hb]; omega), List.getElem?_append_right (by simp [bv8 hb, bv8 hc]; omega)]
  congr 1
  simp [bv8 hb, bv8 hc]
  omega
theorem URow.n9 (h : URow w g t n bs m cs l c k) : w.cell? ⟨g, 9, none⟩ = some (.int .i64 m) := h.v.cell 9 _ (uc_m h.hb)
theorem URow.c18 (h : URow w g t n bs m cs l c k) : w.cell? ⟨g, 18, none⟩ = some (.bool l) := h.v.cell 18 _ (uc_tail h.hb h.hc 0)
theorem URow.c19 (h : URow w g t n bs m cs l c k) : w.cell? ⟨g, 19, none⟩ = some (.int .u8 (c : Int)) := h.v.cell 19 _ (uc_tail h.hb h.hc 1)
theorem URow.c20 (h : URow w g t n bs m cs l c k) : w.cell? ⟨g, 20, none⟩ = some (.int .u8 (k : Int)) := h.v.cell 20 _ (uc_tail h.hb h.hc 2)
theorem URow.b1 (h : URow w g t n bs m cs l c k) (j x : Nat) (hx : bs[j]? = some x) : w.cell? ⟨g, 1 + j, none⟩ = some (.int .u8 (x : Int)) := by
  refine h.v.cell (1 + j) _ ?_
  have hj : j < 8 := by
    have := (List.getElem?_eq_some_iff.1 hx).1
    rw [h.hb] at this
    exact this
  unfold uc
  rw [List.getElem?_append_left (by simp [bv8 h.hb]; omega), Nat.add_comm 1 j]
  simp [bvals, hx]
theorem URow.rx (h : URow w g t n bs m cs l c k) : CellsAt w g 0 (.int .i64 n :: bvals bs) := fun j v hj => by
  rw [Nat.zero_add]
  refine h.v.cell j v ?_
  unfold uc
  rw [List.getElem?_append_left ((List.getElem?_eq_some_iff.1 hj).1)]
  exact hj
theorem URow.tx (h : URow w g t n bs m cs l c k) : CellsAt w g 9 (.int .i64 m :: bvals cs) := fun j v hj => by
  refine h.v.cell (9 + j) v ?_
  unfold uc
  rw [List.getElem?_append_right (by simp [bv8 h.hb]), List.getElem?_append_left (by have := (List.getElem?_eq_some_iff.1 hj).1; simp [bv8 h.hb] at this ⊢; omega), ← hj]
  congr 1
  simp [bv8 h.hb]
theorem URow.al (w : World) (hb : bs.length = 8) (hc : cs.length = 8) (t : TypeId) : URow (w.alloc (.cells (uc n bs m cs l c k).toArray t)) w.heap.size t n bs m cs l c k := ⟨alloc_at w _, hb, hc⟩
end
abbrev Z8 : List Nat := [0, 0, 0, 0, 0, 0, 0, 0]
/-! ### loads -/
section
variable {P : Program} {w : World} {g : Nat} {t : TypeId} {n : Int} {bs : List Nat} {m : Int} {cs : List Nat} {l : Bool} {c k : Nat}
theorem run_loadVar_u (w : World) (g : Nat) (ty : TypeId) (fs : Array Field) (hu : P.underlying ty = some (.struct fs)) (hi : (P.info? ty).map (·.size) = some 21) (t : TypeId) (hr : URow w g t n bs m cs l c k) :
    (loadVar ty ⟨g, 0, none⟩).run P w = .ok (uv n bs m cs l c k) w :=
  run_loadVar_v w g ty fs hu t _ hr.v (by rw [hi, uc_length hr.hb hr.hc])
theorem run_load_u {a : Act} (w : World) (ty : TypeId) (x : Operand) (g : Nat) (hx : a.eval x = .pointer (some ⟨g, 0, none⟩)) (fs : Array Field) (hu : P.underlying ty = some (.struct fs)) (hi : (P.info? ty).map (·.size) = some 21) (t : TypeId) (hr : URow w g t n bs m cs l c k)
    (dst : Option Tmp) (type : TypeId) (pos : String) (after : Array Edge) (guard : Option (Nat × Bool)) : (execOp a.eval ⟨dst, .load ty x, type, pos, after, guard⟩).run P w = .ok (.value (uv n bs m cs l c k)) w :=
  run_load_v w ty x g hx fs hu t _ hr.v (by rw [hi, uc_length hr.hb hr.hc]) dst type pos after guard
theorem wpList_load_u {ops : Array Oper} {rest : List Oper} {o : Oper} {a : Act} {Q : Exit → Act → World → Prop} (hw : Region.wanted o (yielded ops a.tmps) = true) (ty : TypeId) (x : Operand) (ho : o.op = .load ty x) (g : Nat) (hx : a.eval x = .pointer (some ⟨g, 0, none⟩))
    (fs : Array Field) (hu : P.underlying ty = some (.struct fs)) (hi : (P.info? ty).map (·.size) = some 21) (t : TypeId) (hr : URow w g t n bs m cs l c k)
    (h : wpList P ops Q rest (a.put o.dst (uv n bs m cs l c k)) w) : wpList P ops Q (o :: rest) a w :=
  wpList_load_v hw ty x ho g hx fs hu t _ hr.v (by rw [hi, uc_length hr.hb hr.hc]) h
/-- One of the queues is loaded. -/
theorem run_load_q9 {a : Act} (w : World) (ty : TypeId) (x : Operand) (g off : Nat) (hx : a.eval x = .pointer (some ⟨g, off, none⟩)) (fs : Array Field) (hu : P.underlying ty = some (.struct fs)) (hi : (P.info? ty).map (·.size) = some 9) (hr : CellsAt w g off (.int .i64 n :: bvals bs)) (hb : bs.length = 8)
    (dst : Option Tmp) (type : TypeId) (pos : String) (after : Array Edge) (guard : Option (Nat × Bool)) : (execOp a.eval ⟨dst, .load ty x, type, pos, after, guard⟩).run P w = .ok (.value (qv n bs)) w :=
  run_load_at w ty x g off hx _ _ hr hu rfl (by rw [hi]; simp [bv8 hb]) dst type pos after guard
theorem wpList_load_q9 {ops : Array Oper} {rest : List Oper} {o : Oper} {a : Act} {Q : Exit → Act → World → Prop} (hgd : o.guard = none) (ty : TypeId) (x : Operand) (ho : o.op = .load ty x) (g off : Nat) (hx : a.eval x = .pointer (some ⟨g, off, none⟩))
    (fs : Array Field) (hu : P.underlying ty = some (.struct fs)) (hi : (P.info? ty).map (·.size) = some 9) (hr : CellsAt w g off (.int .i64 n :: bvals bs)) (hb : bs.length = 8)
    (h : wpList P ops Q rest (a.put o.dst (qv n bs)) w) : wpList P ops Q (o :: rest) a w :=
  wpList_load_at hgd ty x ho g off hx _ _ hr hu rfl (by rw [hi]; simp [bv8 hb]) h
end
/-! ### stores -/
section
variable {P : Program} {w : World} {g : Nat} {t : TypeId} {n : Int} {bs : List Nat} {m : Int} {cs : List Nat} {l : Bool} {c k : Nat} {n' : Int} {bs' : List Nat} {m' : Int} {cs' : List Nat} {l' : Bool} {c' k' : Nat}
theorem URow.set (h : URow w g t n bs m cs l c k) (n' : Int) (bs' : List Nat) (m' : Int) (cs' : List Nat) (l' : Bool) (c' k' : Nat) (hb : bs'.length = 8) (hc : cs'.length = 8) : URow (w.setRow g (uc n' bs' m' cs' l' c' k').toArray) g t n' bs' m' cs' l' c' k' := ⟨h.v.set _, hb, hc⟩
theorem wpList_store_u {ops : Array Oper} {rest : List Oper} {o : Oper} {a : Act} {Q : Exit → Act → World → Prop} (hgd : o.guard = none) (ty : TypeId) (x v : Operand) (ho : o.op = .store ty x v) (g : Nat) (hx : a.eval x = .pointer (some ⟨g, 0, none⟩))
    (hv : a.eval v = uv n' bs' m' cs' l' c' k') (hb : bs'.length = 8) (hc : cs'.length = 8) (hi : (P.info? ty).map (·.size) = some 21) (t : TypeId) (hr : URow w g t n bs m cs l c k)
    (h : ∀ W, Hid (URow W g t n' bs' m' cs' l' c' k') → Hid (∀ k, k ≠ g → W.heap[k]? = w.heap[k]?) → Hid (Below g w W) → wpList P ops Q rest (a.put o.dst undef) W) : wpList P ops Q (o :: rest) a w :=
  wpList_store_v hgd ty x v ho g hx _ hv (by rw [hi, uc_length hb hc]) (uc_one _ _ _ _ _ _ _) t _ hr.v (by rw [uc_length hr.hb hr.hc, uc_length hb hc]) (fun W HN HO HB => h W (Lib.hid ⟨HN.out, hb, hc⟩) HO HB)
theorem wp_store_u {o : Oper} {a : Act} {K : Act → World → Prop} {Q : Exit → Act → World → Prop} (ty : TypeId) (x v : Operand) (ho : o.op = .store ty x v) (g : Nat) (hx : a.eval x = .pointer (some ⟨g, 0, none⟩))
    (hv : a.eval v = uv n' bs' m' cs' l' c' k') (hb : bs'.length = 8) (hc : cs'.length = 8) (hi : (P.info? ty).map (·.size) = some 21) (t : TypeId) (hr : URow w g t n bs m cs l c k)
    (h : ∀ W, Hid (URow W g t n' bs' m' cs' l' c' k') → Hid (∀ k, k ≠ g → W.heap[k]? = w.heap[k]?) → Hid (Below g w W) → K (a.put o.dst undef) W) : o.wp P a w K Q :=
  wp_store_v ty x v ho g hx _ hv (by rw [hi, uc_length hb hc]) (uc_one _ _ _ _ _ _ _) t _ hr.v (by rw [uc_length hr.hb hr.hc, uc_length hb hc]) (fun W HN HO HB => h W (Lib.hid ⟨HN.out, hb, hc⟩) HO HB)
theorem uc_rx (hb : bs.length = 8) (hb' : bs'.length = 8) : (uc n bs m cs l c k).take 0 ++ (.int .i64 n' :: bvals bs') ++ (uc n bs m cs l c k).drop (0 + (.int .i64 n' :: bvals bs' : List Value).length) = uc n' bs' m cs l c k := by
  unfold uc
  rw [List.take_zero, List.nil_append, Nat.zero_add, List.drop_left' (by simp [bv8 hb, bv8 hb'])]
theorem uc_tx (hb : bs.length = 8) (hc : cs.length = 8) (hc' : cs'.length = 8) : (uc n bs m cs l c k).take 9 ++ (.int .i64 m' :: bvals cs') ++ (uc n bs m cs l c k).drop (9 + (.int .i64 m' :: bvals cs' : List Value).length) = uc n bs m' cs' l c k := by
  unfold uc
  rw [List.take_left' (by simp [bv8 hb]), ← List.append_assoc (.int .i64 n :: bvals bs) (.int .i64 m :: bvals cs), List.drop_left' (by simp [bv8 hb, bv8 hc, bv8 hc']), List.append_assoc]
theorem uc_set_l (hb : bs.length = 8) (hc : cs.length = 8) : (uc n bs m cs l c k).set 18 (.bool l') = uc n bs m cs l' c k := by
  unfold uc
  rw [List.set_append_right _ _ (by simp [bv8 hb]), List.set_append_right _ _ (by simp [bv8 hb, bv8 hc])]
  simp [bv8 hb, bv8 hc]
theorem uc_set_c (hb : bs.length = 8) (hc : cs.length = 8) : (uc n bs m cs l c k).set 19 (.int .u8 (c' : Int)) = uc n bs m cs l c' k := by
  unfold uc
  rw [List.set_append_right _ _ (by simp [bv8 hb]), List.set_append_right _ _ (by simp [bv8 hb, bv8 hc])]
  simp [bv8 hb, bv8 hc]
theorem uc_set_k (hb : bs.length = 8) (hc : cs.length = 8) : (uc n bs m cs l c k).set 20 (.int .u8 (k' : Int)) = uc n bs m cs l c k' := by
  unfold uc
  rw [List.set_append_right _ _ (by simp [bv8 hb]), List.set_append_right _ _ (by simp [bv8 hb, bv8 hc])]
  simp [bv8 hb, bv8 hc]
theorem uc_set_n : (uc n bs m cs l c k).set 0 (.int .i64 n') = uc n' bs m cs l c k := rfl
theorem uc_set_m (hb : bs.length = 8) : (uc n bs m cs l c k).set 9 (.int .i64 m') = uc n bs m' cs l c k := by
  unfold uc
  rw [List.set_append_right _ _ (by simp [bv8 hb])]
  simp [bv8 hb]
/-- The queue of what came is stored. -/
theorem wpList_store_rx {ops : Array Oper} {rest : List Oper} {o : Oper} {a : Act} {Q : Exit → Act → World → Prop} (hgd : o.guard = none) (ty : TypeId) (x v : Operand) (ho : o.op = .store ty x v) (g : Nat) (hx : a.eval x = .pointer (some ⟨g, 0, none⟩))
    (hv : a.eval v = qv n' bs') (hb' : bs'.length = 8) (hi : (P.info? ty).map (·.size) = some 9) (t : TypeId) (hr : URow w g t n bs m cs l c k)
    (h : ∀ W, Hid (URow W g t n' bs' m cs l c k) → Hid (∀ k, k ≠ g → W.heap[k]? = w.heap[k]?) → Hid (Below g w W) → wpList P ops Q rest (a.put o.dst undef) W) : wpList P ops Q (o :: rest) a w :=
  wpList_store_row hgd ty x v ho g 0 hx (.int .i64 n' :: bvals bs') (by rw [hv]; rfl) (by rw [hi]; simp [bv8 hb']) _ _ t hr.v (by rw [uc_length hr.hb hr.hc]; simp [bv8 hb']) (qc_one _ _) (uc_rx hr.hb hb') (h _ (Lib.hid (hr.set _ _ _ _ _ _ _ hb' hr.hc)) (Lib.hid fun k hk => setRow_other w g k _ hk) (Lib.hid (setRow_below (Below.refl _ _) (Nat.le_refl _) _)))
theorem wp_store_rx {o : Oper} {a : Act} {K : Act → World → Prop} {Q : Exit → Act → World → Prop} (ty : TypeId) (x v : Operand) (ho : o.op = .store ty x v) (g : Nat) (hx : a.eval x = .pointer (some ⟨g, 0, none⟩))
    (hv : a.eval v = qv n' bs') (hb' : bs'.length = 8) (hi : (P.info? ty).map (·.size) = some 9) (t : TypeId) (hr : URow w g t n bs m cs l c k)
    (h : ∀ W, Hid (URow W g t n' bs' m cs l c k) → Hid (∀ k, k ≠ g → W.heap[k]? = w.heap[k]?) → Hid (Below g w W) → K (a.put o.dst undef) W) : o.wp P a w K Q :=
  wp_store_row rfl ty x v ho g 0 hx (.int .i64 n' :: bvals bs') (by rw [hv]; rfl) (by rw [hi]; simp [bv8 hb']) _ _ t hr.v (by rw [uc_length hr.hb hr.hc]; simp [bv8 hb']) (qc_one _ _) (uc_rx hr.hb hb') (h _ (Lib.hid (hr.set _ _ _ _ _ _ _ hb' hr.hc)) (Lib.hid fun k hk => setRow_other w g k _ hk) (Lib.hid (setRow_below (Below.refl _ _) (Nat.le_refl _) _)))
/-- The queue of what is to be sent is stored. -/
theorem wpList_store_tx {ops : Array Oper} {rest : List Oper} {o : Oper} {a : Act} {Q : Exit → Act → World → Prop} (hgd : o.guard = none) (ty : TypeId) (x v : Operand) (ho : o.op = .store ty x v) (g : Nat) (hx : a.eval x = .pointer (some ⟨g, 9, none⟩))
    (hv : a.eval v = qv m' cs') (hc' : cs'.length = 8) (hi : (P.info? ty).map (·.size) = some 9) (t : TypeId) (hr : URow w g t n bs m cs l c k)
    (h : ∀ W, Hid (URow W g t n bs m' cs' l c k) → Hid (∀ k, k ≠ g → W.heap[k]? = w.heap[k]?) → Hid (Below g w W) → wpList P ops Q rest (a.put o.dst undef) W) : wpList P ops Q (o :: rest) a w :=
  wpList_store_row hgd ty x v ho g 9 hx (.int .i64 m' :: bvals cs') (by rw [hv]; rfl) (by rw [hi]; simp [bv8 hc']) _ _ t hr.v (by rw [uc_length hr.hb hr.hc]; simp [bv8 hc']) (qc_one _ _) (uc_tx hr.hb hr.hc hc') (h _ (Lib.hid (hr.set _ _ _ _ _ _ _ hr.hb hc')) (Lib.hid fun k hk => setRow_other w g k _ hk) (Lib.hid (setRow_below (Below.refl _ _) (Nat.le_refl _) _)))
theorem wp_store_tx {o : Oper} {a : Act} {K : Act → World → Prop} {Q : Exit → Act → World → Prop} (ty : TypeId) (x v : Operand) (ho : o.op = .store ty x v) (g : Nat) (hx : a.eval x = .pointer (some ⟨g, 9, none⟩))
    (hv : a.eval v = qv m' cs') (hc' : cs'.length = 8) (hi : (P.info? ty).map (·.size) = some 9) (t : TypeId) (hr : URow w g t n bs m cs l c k)
    (h : ∀ W, Hid (URow W g t n bs m' cs' l c k) → Hid (∀ k, k ≠ g → W.heap[k]? = w.heap[k]?) → Hid (Below g w W) → K (a.put o.dst undef) W) : o.wp P a w K Q :=
  wp_store_row rfl ty x v ho g 9 hx (.int .i64 m' :: bvals cs') (by rw [hv]; rfl) (by rw [hi]; simp [bv8 hc']) _ _ t hr.v (by rw [uc_length hr.hb hr.hc]; simp [bv8 hc']) (qc_one _ _) (uc_tx hr.hb hr.hc hc') (h _ (Lib.hid (hr.set _ _ _ _ _ _ _ hr.hb hc')) (Lib.hid fun k hk => setRow_other w g k _ hk) (Lib.hid (setRow_below (Below.refl _ _) (Nat.le_refl _) _)))
/-- One cell is stored. -/
theorem wpList_store_j {ops : Array Oper} {rest : List Oper} {o : Oper} {a : Act} {Q : Exit → Act → World → Prop} (hgd : o.guard = none) (ty : TypeId) (x v : Operand) (ho : o.op = .store ty x v) (g j : Nat) (hx : a.eval x = .pointer (some ⟨g, j, none⟩))
    (u : Value) (hv : (a.eval v).cells = [u].toArray) (hu1 : u.oneCell' = true) (hi : (P.info? ty).map (·.size) = some 1) (t : TypeId) (hr : URow w g t n bs m cs l c k) (hj : j < 21)
    (hs : (uc n bs m cs l c k).set j u = uc n' bs' m' cs' l' c' k') (hb' : bs'.length = 8) (hc' : cs'.length = 8)
    (h : ∀ W, Hid (URow W g t n' bs' m' cs' l' c' k') → Hid (∀ k, k ≠ g → W.heap[k]? = w.heap[k]?) → Hid (Below g w W) → wpList P ops Q rest (a.put o.dst undef) W) : wpList P ops Q (o :: rest) a w :=
  wpList_store_c hgd ty x v ho g j hx u hv hu1 hi t _ hr.v (by rw [uc_length hr.hb hr.hc]; exact hj) (fun W HN HO HB => h W (Lib.hid ⟨by have := HN.out; rw [hs] at this; exact this, hb', hc'⟩) HO HB)
end
end Go.Proofs.Ytgpgijdciaieaaa
