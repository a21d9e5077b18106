/-
  Ua: my texts of that device in one, in a namespace of its own. Made by wip/tools/merge.py.
-/
import Derived.Test.YtkodoldkfeopdaaGreatVRow
import Derived.Laws.CopyOwn
import Derived.Laws.StructEq
import Derived.ChangeKeysEq
import Derived.StillTactics
import Derived.Laws.BitsAllLaws
/- Q -/
namespace Go.Proofs.YtkodoldkfeopdaaGreat.Ua
open Go.RowKit
set_option linter.unusedVariables false
set_option maxRecDepth 100000

/-- A slice at A that holds the bytes l, all of it below block B. -/
structure RdB (w : World) (B : Nat) (A : Option Addr) (l : List Nat) : Prop where
  none_ : A = none → l = []
  low : ∀ a, A = some a → l ≠ [] → a.block < B
  cells : ∀ a, A = some a → ∀ (j x : Nat), l[j]? = some x → w.cell? (a.add j) = some (.int .u8 (x : Int))
def bvals (l : List Nat) : List Value := l.map fun x : Nat => .int .u8 (x : Int)
theorem bvals_length (l : List Nat) : (bvals l).length = l.length := by simp [bvals]
theorem bvals_at {l : List Nat} {j : Nat} {u : Value} (h : (bvals l)[j]? = some u) : ∃ x, l[j]? = some x ∧ u = .int .u8 (x : Int) := by
  simp only [bvals, List.getElem?_map, Option.map_eq_some_iff] at h
  obtain ⟨x, h1, h2⟩ := h
  exact ⟨x, h1, h2.symm⟩
theorem bvals_one (l : List Nat) : ∀ u ∈ bvals l, u.oneCell' = true := by
  intro u hu
  simp only [bvals, List.mem_map] at hu
  obtain ⟨x, _, rfl⟩ := hu
  rfl
theorem bvals_append (l m : List Nat) : bvals l ++ bvals m = bvals (l ++ m) := by simp [bvals]
theorem addr_add_block (a : Addr) (n : Nat) : (a.add n).block = a.block := by
  unfold Addr.add
  split <;> rfl
theorem RdB.nil_ (w : World) (B : Nat) : RdB w B none [] := ⟨fun _ => rfl, (fun _ h => by cases h), (fun _ h => by cases h)⟩
theorem RdB.some_nil (w : World) (B : Nat) (a : Addr) : RdB w B (some a) [] := ⟨fun h => (by cases h), (fun _ _ h => absurd rfl h), (fun _ _ j x hx => by simp at hx)⟩
theorem RdB.below {w w' : World} {B B' : Nat} {A : Option Addr} {l : List Nat} (h : RdB w B A l) (hb : Below B' w w') (hB : B ≤ B') : RdB w' B A l :=
  ⟨h.none_, h.low, fun a ha j x hx => (hb.cell (p := a.add j) (by rw [addr_add_block]; have := h.low a ha (fun e => by subst e; simp at hx); omega)).trans (h.cells a ha j x hx)⟩
theorem RdB.more {w : World} {B B' : Nat} {A : Option Addr} {l : List Nat} (h : RdB w B A l) (hB : B ≤ B') : RdB w B' A l :=
  ⟨h.none_, fun a ha hl => by have := h.low a ha hl; omega, h.cells⟩
/-- The slice value v is of the call's own memory, from block 'base' on, and holds the bytes l. -/
def Own (w : World) (base : Nat) (v : Value) (l : List Nat) : Prop := w.ownsRow base 5 1 v l.length (bvals l)
theorem Own.nil_ (w : World) (base : Nat) : Own w base (.slice none 0 0) [] := World.ownsRow_nil w base _ 1
theorem Own.alloc {w : World} {base : Nat} {v : Value} {l : List Nat} (h : Own w base v l) (o : Obj) : Own (w.alloc o) base v l := World.ownsRow.alloc h o
/-- What is owned is a slice; it reads as its bytes. -/
theorem Own.form {w : World} {base : Nat} {v : Value} {l : List Nat} (h : Own w base v l) : ∃ A cap, v = .slice A l.length cap ∧ l.length ≤ cap ∧ (A = none → cap = 0) ∧ cap ≤ maxLen ∧ RdB w w.heap.size A l ∧ (∀ a, A = some a → base ≤ a.block ∧ a.off = 0 ∧ a = ⟨a.block, 0, none⟩) := by
  rcases h.2 with ⟨rfl, h0⟩ | ⟨g, cap, cur, rfl, hg, hh, hn, hc, hs, ht⟩
  · have hl : l = [] := List.eq_nil_of_length_eq_zero h0
    subst hl
    exact ⟨none, 0, rfl, Nat.le_refl _, fun _ => rfl, Nat.zero_le _, RdB.nil_ w _, fun _ h => by cases h⟩
  · have hlt : g < w.heap.size := by
      rcases Nat.lt_or_ge g w.heap.size with h1 | h1
      · exact h1
      · rw [Array.getElem?_eq_none h1] at hh; cases hh
    refine ⟨some ⟨g, 0, none⟩, cap, rfl, hn, fun h => (by cases h), hc, ⟨fun h => (by cases h), fun a ha _ => ?_, fun a ha j x hx => ?_⟩, fun a ha => ?_⟩
    · cases ha; exact hlt
    · cases ha
      refine World.ownsRow.cells h (g := g) rfl j _ ?_
      simp only [bvals, List.getElem?_map, hx, Option.map_some]
    · cases ha; exact ⟨hg, rfl, rfl⟩
theorem Own.below {w w' : World} {base B : Nat} {v : Value} {l : List Nat} (h : Own w base v l) (hb : Below B w w') (hB : w.heap.size ≤ B) : Own w' base v l := by
  refine ⟨h.1, ?_⟩
  rcases h.2 with h2 | ⟨g, cap, cur, hv, hg, hh, r⟩
  · exact Or.inl h2
  · have hlt : g < w.heap.size := by
      rcases Nat.lt_or_ge g w.heap.size with h1 | h1
      · exact h1
      · rw [Array.getElem?_eq_none h1] at hh; cases hh
    exact Or.inr ⟨g, cap, cur, hv, hg, (hb.block g (by omega)).trans hh, r⟩
theorem Own.mono {w : World} {base base' : Nat} {v : Value} {l : List Nat} (h : Own w base v l) (hB : base' ≤ base) : Own w base' v l := by
  refine ⟨h.1, ?_⟩
  rcases h.2 with h2 | ⟨g, cap, cur, hv, hg, r⟩
  · exact Or.inl h2
  · exact Or.inr ⟨g, cap, cur, hv, by omega, r⟩
theorem u8info : (Tryz.prog.info? 5).map (fun i => (i.zero, i.size, i.bytes)) = some (some (.int .u8 0), 1, 1) := by kernel_rfl
theorem info_parts {P : Program} {t : TypeId} {z : Value} {s b : Nat} (h : (P.info? t).map (fun i => (i.zero, i.size, i.bytes)) = some (some z, s, b)) : ∃ i, P.info? t = some i ∧ i.zero = some z ∧ i.size = s ∧ i.bytes = b := by
  obtain ⟨i, h1, h2⟩ := Option.map_eq_some_iff.1 h
  simp only [Prod.mk.injEq] at h2
  exact ⟨i, h1, h2.1, h2.2.1, h2.2.2⟩

/-! ### queues -/
/-- A value of nine cells. -/
def qv (n : Int) (bs : List Nat) : Value := .agg (.int .i64 n :: bvals bs).toArray
abbrev q8 (n : Int) (b0 b1 b2 b3 b4 b5 b6 b7 : Nat) : Value := .agg #[.int .i64 n, .int .u8 (b0 : Int), .int .u8 (b1 : Int), .int .u8 (b2 : Int), .int .u8 (b3 : Int), .int .u8 (b4 : Int), .int .u8 (b5 : Int), .int .u8 (b6 : Int), .int .u8 (b7 : Int)]
theorem qv_eq (n : Int) (b0 b1 b2 b3 b4 b5 b6 b7 : Nat) : qv n [b0, b1, b2, b3, b4, b5, b6, b7] = q8 n b0 b1 b2 b3 b4 b5 b6 b7 := rfl
/-- The first eight bytes of l, and 0 behind. -/
def pad (l : List Nat) : List Nat := l.take 8 ++ List.replicate (8 - l.length) 0
theorem pad_length (l : List Nat) : (pad l).length = 8 := by simp [pad]; omega
theorem eight {bs : List Nat} (h : bs.length = 8) : ∃ b0 b1 b2 b3 b4 b5 b6 b7, bs = [b0, b1, b2, b3, b4, b5, b6, b7] := by
  match bs, h with
  | [b0, b1, b2, b3, b4, b5, b6, b7], _ => exact ⟨b0, b1, b2, b3, b4, b5, b6, b7, rfl⟩
/-- The queue of the first eight of l. -/
def ofV (l : List Nat) : Value := qv ((min l.length 8 : Nat) : Int) (pad l)
/-- The bytes that a value has. -/
def cutL (n : Int) (bs : List Nat) : List Nat := bs.take n.toNat
theorem cutL_le (n : Int) (bs : List Nat) (h : bs.length = 8) : (cutL n bs).length ≤ 8 := by simp [cutL]; omega
theorem cutL_length (n : Int) (bs : List Nat) (h : bs.length = 8) : ((cutL n bs).length : Int) = max 0 (min n 8) := by
  simp only [cutL, List.length_take, h]
  omega
theorem pad_lt {l : List Nat} (h : ∀ x ∈ l, x < 256) : ∀ x ∈ pad l, x < 256 := by
  intro x hx
  rcases List.mem_append.1 hx with hx | hx
  · exact h x (List.mem_of_mem_take hx)
  · have := (List.mem_replicate.1 hx).2
    omega
theorem cutL_lt {n : Int} {l : List Nat} (h : ∀ x ∈ l, x < 256) : ∀ x ∈ cutL n l, x < 256 := fun x hx => h x (List.mem_of_mem_take hx)
theorem pad_le {l : List Nat} (h : l.length ≤ 8) : pad l = l ++ List.replicate (8 - l.length) 0 := by rw [pad, List.take_of_length_le h]
theorem cutL_ofV (l : List Nat) : cutL ((min l.length 8 : Nat) : Int) (pad l) = l.take 8 := by
  rw [cutL, Int.toNat_natCast, pad]
  rw [List.take_append_of_le_length (by rw [List.length_take]; omega)]
  rw [List.take_take]
  by_cases h : l.length ≤ 8
  · rw [List.take_of_length_le (by omega), List.take_of_length_le (by omega)]
  · rw [show min (min l.length 8) 8 = 8 by omega]
theorem ofV_take (l : List Nat) : ofV (l.take 8) = ofV l := by
  have h1 : pad (l.take 8) = pad l := by
    unfold pad
    rw [List.take_take, List.length_take, Nat.min_self, show 8 - min 8 l.length = 8 - l.length by omega]
  rw [ofV, ofV, h1, List.length_take, show min (min 8 l.length) 8 = min l.length 8 by omega]
/-- Is a value the queue of its bytes, as it stands? -/
def rightB (n : Int) (bs : List Nat) : Bool := decide (n = ((min (cutL n bs).length 8 : Nat) : Int) ∧ bs = pad (cutL n bs))
theorem rightB_ofV (l : List Nat) : rightB ((min l.length 8 : Nat) : Int) (pad l) = true := by
  have h := cutL_ofV l
  unfold rightB
  rw [h]
  refine decide_eq_true ⟨?_, ?_⟩
  · rw [List.length_take]
    omega
  · unfold pad
    rw [List.take_take, List.length_take, Nat.min_self, show 8 - min 8 l.length = 8 - l.length by omega]
theorem splice_pad (l : List Nat) : splice (.int .i64 0 :: bvals (List.replicate 8 0)) 1 (bvals (l.take 8)) = .int .i64 0 :: bvals (pad l) := by
  have h : (bvals (l.take 8)).length = min 8 l.length := by simp [bvals]
  unfold splice
  rw [h, Nat.add_comm, List.drop_succ_cons]
  show .int .i64 0 :: (bvals (l.take 8) ++ _) = _
  congr 1
  rw [pad, ← bvals_append]
  congr 1
  simp only [bvals, List.map_replicate, List.drop_replicate]
  congr 1
  omega
/-- All that is wanted of a row of nine cells. -/
theorem nine {w : World} {g : Nat} {t : TypeId} {n : Int} {b0 b1 b2 b3 b4 b5 b6 b7 : Nat} (h : w.heap[g]? = some (.cells (.int .i64 n :: bvals [b0, b1, b2, b3, b4, b5, b6, b7]).toArray t (0, 0))) :
    w.cell? ⟨g, 0, none⟩ = some (.int .i64 n) ∧ w.cell? ⟨g, 1, none⟩ = some (.int .u8 b0) ∧ w.cell? ⟨g, 2, none⟩ = some (.int .u8 b1) ∧ w.cell? ⟨g, 3, none⟩ = some (.int .u8 b2) ∧ w.cell? ⟨g, 4, none⟩ = some (.int .u8 b3) ∧ w.cell? ⟨g, 5, none⟩ = some (.int .u8 b4) ∧ w.cell? ⟨g, 6, none⟩ = some (.int .u8 b5) ∧ w.cell? ⟨g, 7, none⟩ = some (.int .u8 b6) ∧ w.cell? ⟨g, 8, none⟩ = some (.int .u8 b7) :=
  ⟨row_at h 0 _ rfl, row_at h 1 _ rfl, row_at h 2 _ rfl, row_at h 3 _ rfl, row_at h 4 _ rfl, row_at h 5 _ rfl, row_at h 6 _ rfl, row_at h 7 _ rfl, row_at h 8 _ rfl⟩
def QRow (w : World) (g : Nat) (t : TypeId) (n : Int) (bs : List Nat) : Prop := w.heap[g]? = some (.cells (.int .i64 n :: bvals bs).toArray t (0, 0))
theorem QRow.below {w w' : World} {B g : Nat} {t : TypeId} {n : Int} {bs : List Nat} (h : QRow w g t n bs) (hb : Below B w w') (hg : g < B) : QRow w' g t n bs := (hb.block g hg).trans h
theorem QRow.lt {w : World} {g : Nat} {t : TypeId} {n : Int} {bs : List Nat} (h : QRow w g t n bs) : g < w.heap.size := by
  rcases Nat.lt_or_ge g w.heap.size with h1 | h1
  · exact h1
  · rw [QRow, Array.getElem?_eq_none h1] at h; cases h
theorem QRow.set {w : World} {g : Nat} {t : TypeId} {n : Int} {bs : List Nat} (h : QRow w g t n bs) (m : Int) (cs : List Nat) : QRow (w.setRow g (.int .i64 m :: bvals cs).toArray) g t m cs := setRow_heap w g _ _ t _ h
theorem QRow.al (w : World) (n : Int) (b0 b1 b2 b3 b4 b5 b6 b7 : Nat) (t : TypeId) : QRow (w.alloc (.cells #[.int .i64 n, .int .u8 (b0 : Int), .int .u8 (b1 : Int), .int .u8 (b2 : Int), .int .u8 (b3 : Int), .int .u8 (b4 : Int), .int .u8 (b5 : Int), .int .u8 (b6 : Int), .int .u8 (b7 : Int)] t)) w.heap.size t n [b0, b1, b2, b3, b4, b5, b6, b7] := alloc_at w _
/-- A whole queue is loaded. -/
theorem wpList_load_q {P : Program} {ops : Array Oper} {rest : List Oper} {o : Oper} {a : Act} {w : World} {Q : Exit → Act → World → Prop} (hgd : o.guard = none) (ty : TypeId) (x : Operand) (ho : o.op = .load ty x) (g : Nat) (hx : a.eval x = .pointer (some ⟨g, 0, none⟩))
    (fs : Array Field) (hu : P.underlying ty = some (.struct fs)) (hi : (P.info? ty).map (·.size) = some 9) (t : TypeId) (n : Int) (bs : List Nat) (hr : QRow w g t n bs) (hb : bs.length = 8)
    (h : wpList P ops Q rest (a.put o.dst (qv n bs)) w) : wpList P ops Q (o :: rest) a w :=
  wpList_load_at hgd ty x ho g 0 hx (.int .i64 n :: bvals bs) _ (row_cells hr) hu rfl (by rw [hi]; simp [bvals, hb]) h
/-- A whole queue is stored. -/
theorem wpList_store_q {P : Program} {ops : Array Oper} {rest : List Oper} {o : Oper} {a : Act} {w : World} {Q : Exit → Act → World → Prop} (hgd : o.guard = none) (ty : TypeId) (x v : Operand) (ho : o.op = .store ty x v) (g : Nat) (hx : a.eval x = .pointer (some ⟨g, 0, none⟩))
    (n : Int) (bs : List Nat) (hv : a.eval v = qv n bs) (hb : bs.length = 8) (hi : (P.info? ty).map (·.size) = some 9) (t : TypeId) (m : Int) (cs : List Nat) (hr : QRow w g t m cs) (hc : cs.length = 8)
    (h : ∀ W, Hid (QRow W g t n bs) → Hid (∀ k, k ≠ g → W.heap[k]? = w.heap[k]?) → Hid (Below g w W) → wpList P ops Q rest (a.put o.dst undef) W) : wpList P ops Q (o :: rest) a w := by
  refine wpList_store_row hgd ty x v ho g 0 hx (.int .i64 n :: bvals bs) (by rw [hv]; rfl) (by rw [hi]; simp [bvals, hb]) (.int .i64 m :: bvals cs) (.int .i64 n :: bvals bs) t hr (by simp [bvals, hb, hc]) (fun u hu => ?_) ?_ (h _ (Lib.hid (hr.set n bs)) (Lib.hid fun k hk => setRow_other w g k _ hk) (Lib.hid (setRow_below (Below.refl _ _) (Nat.le_refl _) _)))
  · rcases List.mem_cons.1 hu with rfl | hu
    · rfl
    · exact bvals_one bs u hu
  · simp [bvals, hb, hc]
theorem wp_store_q {P : Program} {o : Oper} {a : Act} {w : World} {K : Act → World → Prop} {Q : Exit → Act → World → Prop} (ty : TypeId) (x v : Operand) (ho : o.op = .store ty x v) (g : Nat) (hx : a.eval x = .pointer (some ⟨g, 0, none⟩))
    (n : Int) (bs : List Nat) (hv : a.eval v = qv n bs) (hb : bs.length = 8) (hi : (P.info? ty).map (·.size) = some 9) (t : TypeId) (m : Int) (cs : List Nat) (hr : QRow w g t m cs) (hc : cs.length = 8)
    (h : ∀ W, Hid (QRow W g t n bs) → Hid (∀ k, k ≠ g → W.heap[k]? = w.heap[k]?) → Hid (Below g w W) → K (a.put o.dst undef) W) : o.wp P a w K Q := by
  refine wp_store_row rfl ty x v ho g 0 hx (.int .i64 n :: bvals bs) (by rw [hv]; rfl) (by rw [hi]; simp [bvals, hb]) (.int .i64 m :: bvals cs) (.int .i64 n :: bvals bs) t hr (by simp [bvals, hb, hc]) (fun u hu => ?_) ?_ (h _ (Lib.hid (hr.set n bs)) (Lib.hid fun k hk => setRow_other w g k _ hk) (Lib.hid (setRow_below (Below.refl _ _) (Nat.le_refl _) _)))
  · rcases List.mem_cons.1 hu with rfl | hu
    · rfl
    · exact bvals_one bs u hu
  · simp [bvals, hb, hc]
/-- The number of a queue is stored. -/
theorem wpList_store_n {P : Program} {ops : Array Oper} {rest : List Oper} {o : Oper} {a : Act} {w : World} {Q : Exit → Act → World → Prop} (hgd : o.guard = none) (ty : TypeId) (x v : Operand) (ho : o.op = .store ty x v) (g : Nat) (hx : a.eval x = .pointer (some ⟨g, 0, none⟩))
    (n : Int) (hv : a.eval v = .int .i64 n) (hi : (P.info? ty).map (·.size) = some 1) (t : TypeId) (m : Int) (cs : List Nat) (hr : QRow w g t m cs)
    (h : ∀ W, Hid (QRow W g t n cs) → Hid (∀ k, k ≠ g → W.heap[k]? = w.heap[k]?) → Hid (Below g w W) → wpList P ops Q rest (a.put o.dst undef) W) : wpList P ops Q (o :: rest) a w :=
  wpList_store_row hgd ty x v ho g 0 hx [.int .i64 n] (by rw [hv]; rfl) (by rw [hi]; rfl) (.int .i64 m :: bvals cs) (.int .i64 n :: bvals cs) t hr (by simp) (one_one _ rfl) rfl (h _ (Lib.hid (hr.set n cs)) (Lib.hid fun k hk => setRow_other w g k _ hk) (Lib.hid (setRow_below (Below.refl _ _) (Nat.le_refl _) _)))
/-- One byte of a queue is stored. -/
theorem wpList_store_b {P : Program} {ops : Array Oper} {rest : List Oper} {o : Oper} {a : Act} {w : World} {Q : Exit → Act → World → Prop} (hgd : o.guard = none) (ty : TypeId) (x v : Operand) (ho : o.op = .store ty x v) (g j : Nat) (hx : a.eval x = .pointer (some ⟨g, 1 + j, none⟩))
    (b : Nat) (hv : a.eval v = .int .u8 b) (hi : (P.info? ty).map (·.size) = some 1) (t : TypeId) (m : Int) (cs : List Nat) (hr : QRow w g t m cs) (hj : j < cs.length)
    (h : ∀ W, Hid (QRow W g t m (cs.set j b)) → Hid (∀ k, k ≠ g → W.heap[k]? = w.heap[k]?) → Hid (Below g w W) → wpList P ops Q rest (a.put o.dst undef) W) : wpList P ops Q (o :: rest) a w := by
  refine wpList_store_row hgd ty x v ho g (1 + j) hx [.int .u8 b] (by rw [hv]; rfl) (by rw [hi]; rfl) (.int .i64 m :: bvals cs) (.int .i64 m :: bvals (cs.set j b)) t hr (by simp [bvals]; omega) (one_one _ rfl) ?_ (h _ (Lib.hid (hr.set m _)) (Lib.hid fun k hk => setRow_other w g k _ hk) (Lib.hid (setRow_below (Below.refl _ _) (Nat.le_refl _) _)))
  rw [Nat.add_comm 1 j]
  simp only [List.take_succ_cons, List.length_singleton, List.drop_succ_cons, List.cons_append, bvals, List.map_set]
  congr 1
  rw [List.set_eq_take_append_cons_drop]
  simp [hj]
theorem run_load_q {P : Program} {a : Act} (w : World) (ty : TypeId) (x : Operand) (g : Nat) (hx : a.eval x = .pointer (some ⟨g, 0, none⟩)) (fs : Array Field) (hu : P.underlying ty = some (.struct fs)) (hi : (P.info? ty).map (·.size) = some 9) (t : TypeId) (n : Int) (bs : List Nat) (hr : QRow w g t n bs) (hb : bs.length = 8)
    (dst : Option Tmp) (type : TypeId) (pos : String) (after : Array Edge) (guard : Option (Nat × Bool)) : (execOp a.eval ⟨dst, .load ty x, type, pos, after, guard⟩).run P w = .ok (.value (qv n bs)) w :=
  run_load_at w ty x g 0 hx (.int .i64 n :: bvals bs) _ (row_cells hr) hu rfl (by rw [hi]; simp [bvals, hb]) dst type pos after guard
/-- A result that lies in a cell, a queue. -/
theorem run_loadVar_q {P : Program} (w : World) (g : Nat) (ty : TypeId) (fs : Array Field) (hu : P.underlying ty = some (.struct fs)) (hi : (P.info? ty).map (·.size) = some 9) (t : TypeId) (n : Int) (bs : List Nat) (hr : QRow w g t n bs) (hb : bs.length = 8) :
    (loadVar ty ⟨g, 0, none⟩).run P w = .ok (qv n bs) w :=
  run_loadVar_at w g 0 ty (.int .i64 n :: bvals bs) _ (row_cells hr) hu rfl (by rw [hi]; simp [bvals, hb])
/-- Of a queue's cells, m bytes from byte i on, as a slice. -/
theorem rdb_q {w : World} {g : Nat} {t : TypeId} {n : Int} {bs : List Nat} (h : QRow w g t n bs) (i m : Nat) : RdB w w.heap.size (some ⟨g, 1 + i, none⟩) ((bs.drop i).take m) :=
  ⟨fun h => (by cases h), fun a ha _ => by cases ha; exact h.lt, fun a ha j x hx => by
    cases ha
    have hx' : bs[i + j]? = some x := by
      rw [List.getElem?_take] at hx
      split at hx
      · rwa [List.getElem?_drop] at hx
      · cases hx
    have e : (⟨g, 1 + i, none⟩ : Addr).add j = ⟨g, (i + j) + 1, none⟩ := by
      have : (⟨g, 1 + i, none⟩ : Addr).add j = ⟨g, 1 + i + j, none⟩ := by unfold Addr.add; split <;> simp_all
      rw [this]
      congr 1
      omega
    rw [e]
    exact row_at h (i + j + 1) _ (by simp [bvals, hx'])⟩
theorem run_slice_to (g k : Nat) (w : World) (hk : k ≤ 8) : (Instr.sliceAt 25 (.pointer (some ⟨g, 1, none⟩)) none (some (.int .i64 (k : Int))) none).run Tryz.prog w = .ok (.slice (some ⟨g, 1, none⟩) k 8) w := by
  have h : k = 0 ∨ k = 1 ∨ k = 2 ∨ k = 3 ∨ k = 4 ∨ k = 5 ∨ k = 6 ∨ k = 7 ∨ k = 8 := by omega
  rcases h with rfl | rfl | rfl | rfl | rfl | rfl | rfl | rfl | rfl <;> (show _ = _; kernel_rfl)
theorem run_slice_one (g k : Nat) (w : World) (hk : k < 8) : (Instr.sliceAt 25 (.pointer (some ⟨g, 1, none⟩)) (some (.int .i64 1)) (some (.int .i64 ((k : Int) + 1))) none).run Tryz.prog w = .ok (.slice (some ⟨g, 2, none⟩) k 7) w := by
  have h : k = 0 ∨ k = 1 ∨ k = 2 ∨ k = 3 ∨ k = 4 ∨ k = 5 ∨ k = 6 ∨ k = 7 := by omega
  rcases h with rfl | rfl | rfl | rfl | rfl | rfl | rfl | rfl <;> (show _ = _; kernel_rfl)
theorem run_index_arr (g k : Nat) (w : World) (hk : k < 8) : (Instr.indexAt 25 (.pointer (some ⟨g, 1, none⟩)) (.int .i64 (k : Int))).run Tryz.prog w = .ok (.pointer (some ⟨g, 1 + k, none⟩)) w := by
  have h : k = 0 ∨ k = 1 ∨ k = 2 ∨ k = 3 ∨ k = 4 ∨ k = 5 ∨ k = 6 ∨ k = 7 := by omega
  rcases h with rfl | rfl | rfl | rfl | rfl | rfl | rfl | rfl <;> (show _ = _; kernel_rfl)
/-- A queue that has room: with one byte more. -/
theorem pad_set (l : List Nat) (b : Nat) (h : l.length < 8) : (pad l).set l.length b = pad (l ++ [b]) := by
  rw [pad_le (by omega), pad_le (by simp; omega), List.set_append_right _ _ (Nat.le_refl _), Nat.sub_self, List.append_assoc]
  congr 1
  have : 8 - l.length = (8 - (l ++ [b]).length) + 1 := by simp; omega
  rw [this, List.replicate_succ, List.set_cons_zero]
  rfl
theorem ofV_le (l : List Nat) (h : l.length ≤ 8) : ofV l = qv (l.length : Nat) (pad l) := by rw [ofV, Nat.min_eq_left h]
theorem results_q {fn : Func} {t : Tmp} {ty : TypeId} (h : fn.results = #[.cell t ty]) (tmps : Array Value) (P : Program) (w : World) (a : Addr) (v : Value) (hp : tmps.getD t undef = .pointer (some a)) (hl : (loadVar ty a).run P w = .ok v w) : (results fn tmps).run P w = .ok v w := by
  rw [Array.getD_eq_getD_getElem?] at hp
  simp [results, h, hp, asAddr, hl]
theorem results_qb {fn : Func} {t u : Tmp} {ty : TypeId} (h : fn.results = #[.cell t ty, .tmp u]) (tmps : Array Value) (P : Program) (w : World) (a : Addr) (v x : Value) (hp : tmps.getD t undef = .pointer (some a)) (hl : (loadVar ty a).run P w = .ok v w) (hx : tmps.getD u undef = x) : (results fn tmps).run P w = .ok (.tuple #[v, x]) w := by
  subst hx
  rw [Array.getD_eq_getD_getElem?] at hp
  simp [results, h, hp, asAddr, hl]
theorem results_bqb {fn : Func} {s t u : Tmp} {ty : TypeId} (h : fn.results = #[.tmp s, .cell t ty, .tmp u]) (tmps : Array Value) (P : Program) (w : World) (a : Addr) (v x y : Value) (hp : tmps.getD t undef = .pointer (some a)) (hl : (loadVar ty a).run P w = .ok v w) (hx : tmps.getD s undef = x) (hy : tmps.getD u undef = y) : (results fn tmps).run P w = .ok (.tuple #[x, v, y]) w := by
  subst hx
  subst hy
  rw [Array.getD_eq_getD_getElem?] at hp
  simp [results, h, hp, asAddr, hl]
/-! ### are two values the same? -/
section
variable (w : World)
theorem run_part_i64 (cs : Array Value) (v : Value) (h : cs[0]? = some v) : (part 3 cs 0).run Tryz.prog w = .ok v w := by
  simp [part, isAgg, run_underlying Tryz.underlying3, h]
theorem run_part_u8 (cs : Array Value) (i : Nat) (v : Value) (h : cs[i]? = some v) : (part 5 cs i).run Tryz.prog w = .ok v w := by
  simp [part, isAgg, run_underlying Tryz.underlying5, h]
theorem run_items (d : Nat) (bs cs : List Nat) (ha : bs.length = 8) (hc : cs.length = 8) : ∀ is : List Nat, (∀ i ∈ is, i < 8) → (Op.eqItems (d + 1) 5 1 (bvals bs).toArray (bvals cs).toArray is).run Tryz.prog w = .ok (is.all fun i => bs[i]? == cs[i]?) w
  | [], _ => by simp [Op.eqItems]
  | i :: is, h => by
    have hi : i < 8 := h i (by simp)
    have e1 : bs[i]? = some bs[i] := List.getElem?_eq_getElem (by omega)
    have e2 : cs[i]? = some cs[i] := List.getElem?_eq_getElem (by omega)
    have p1 := run_part_u8 w (bvals bs).toArray i (.int .u8 (bs[i] : Nat)) (by simp [bvals, e1])
    have p2 := run_part_u8 w (bvals cs).toArray i (.int .u8 (cs[i] : Nat)) (by simp [bvals, e2])
    have ih := run_items d bs cs ha hc is (fun j hj => h j (by simp [hj]))
    simp only [Op.eqItems, Nat.mul_one, Sem.run_bind, p1, p2, run_equalIn_int w d 5 .u8 .u8 _ _ Tryz.underlying5, Result.andThen_ok, List.all_cons, e1, e2]
    by_cases hh : bs[i] = cs[i]
    · simp [hh, ih]
    · have hh' : ¬ ((bs[i] : Nat) : Int) = ((cs[i] : Nat) : Int) := by omega
      simp [hh, hh']
theorem all_same (bs cs : List Nat) (ha : bs.length = 8) (hc : cs.length = 8) : ((List.range 8).all fun i => bs[i]? == cs[i]?) = decide (bs = cs) := by
  rw [Bool.eq_iff_iff, List.all_eq_true, decide_eq_true_iff]
  constructor
  · intro h
    apply List.ext_getElem?
    intro i
    by_cases hi : i < 8
    · simpa using h i (by simpa using hi)
    · rw [List.getElem?_eq_none (by omega), List.getElem?_eq_none (by omega)]
  · intro h i _
    simp [h]
theorem run_part_arr (n : Int) (bs : List Nat) (h : bs.length = 8) : (part 25 (.int .i64 n :: bvals bs).toArray 1).run Tryz.prog w = .ok (.agg (bvals bs).toArray) w := by
  obtain ⟨b0, b1, b2, b3, b4, b5, b6, b7, rfl⟩ := eight h
  simp only [part, isAgg, Sem.run_bind, run_underlying Tryz.underlying25, Result.andThen_ok, Sem.run_pure, if_true]
  rfl
theorem run_eq_fields (t : TypeId) (ht : Tryz.prog.underlying t = Tryz.prog.underlying 27) (hp : Tryz.prog.stoodInHeld t = false) (n m : Int) (bs cs : List Nat) (hb : bs.length = 8) (hc : cs.length = 8) :
    (Op.equalIn 10000 t (qv n bs) (qv m cs)).run Tryz.prog w = .ok (decide (n = m ∧ bs = cs)) w := by
  have hf : Tryz.prog.fieldsOf t = #[⟨"Len", 3, 0, false, "", "", 0⟩, ⟨"Bytes", 25, 1, false, "", "", 8⟩] := by
    unfold Program.fieldsOf
    rw [ht]
    rfl
  obtain ⟨i0, hi0, -⟩ := info_parts u8info
  have hce : Tryz.prog.cellsOf 5 = 1 := by kernel_rfl
  have harr : ∀ w : World, (Op.equalIn 9999 25 (.agg (bvals bs).toArray) (.agg (bvals cs).toArray)).run Tryz.prog w = .ok (decide (bs = cs)) w := fun w => by
    rw [run_equalIn_array w 9998 _ _ Tryz.underlying25 hi0, hce, run_items w 9997 bs cs hb hc _ (fun i hi => by simpa using hi), all_same bs cs hb hc]
  rw [qv, qv, run_equalIn_struct w 9999 t _ _ (by rw [hf, ht]; rfl) hp, hf]
  have p1 := run_part_i64 w (.int .i64 n :: bvals bs).toArray (.int .i64 n) rfl
  have p2 := run_part_i64 w (.int .i64 m :: bvals cs).toArray (.int .i64 m) rfl
  have p3 := run_part_arr w n bs hb
  have p4 := run_part_arr w m cs hc
  simp only [Op.eqFields, ne_eq, Sem.run_bind, Sem.run_ite, p1, p2, p3, p4, run_equalIn_int w 9998 3 .i64 .i64 _ _ Tryz.underlying3, harr, Result.andThen_ok]
  by_cases h1 : n = m
  · by_cases h2 : bs = cs
    · simp [h1, h2]
    · simp [h1, h2]
  · simp [h1]
theorem run_eql_q (n m : Int) (bs cs : List Nat) (hb : bs.length = 8) (hc : cs.length = 8) : (binOp .eql 27 (qv n bs) (qv m cs)).run Tryz.prog w = .ok (.bool (decide (n = m ∧ bs = cs))) w := by
  have h := run_eq_fields w 27 rfl (by kernel_rfl) n m bs cs hb hc
  unfold qv at h ⊢
  rw [run_eql_struct, h]
  rfl
theorem run_neq_q (n m : Int) (bs cs : List Nat) (hb : bs.length = 8) (hc : cs.length = 8) : (binOp .neq 27 (qv n bs) (qv m cs)).run Tryz.prog w = .ok (.bool (!decide (n = m ∧ bs = cs))) w := by
  have h := run_eq_fields w 27 rfl (by kernel_rfl) n m bs cs hb hc
  unfold qv at h ⊢
  rw [run_neq_struct, h]
  rfl
theorem run_eql_r (n m : Int) (bs cs : List Nat) (hb : bs.length = 8) (hc : cs.length = 8) : (binOp .eql 39 (qv n bs) (qv m cs)).run Tryz.prog w = .ok (.bool (decide (n = m ∧ bs = cs))) w := by
  have h := run_eq_fields w 39 (by rw [Tryz.underlying39, Tryz.underlying27]) (by kernel_rfl) n m bs cs hb hc
  unfold qv at h ⊢
  rw [run_eql_struct, h]
  rfl
end
end Go.Proofs.YtkodoldkfeopdaaGreat.Ua
/- Made -/
namespace Go.Proofs.YtkodoldkfeopdaaGreat.Ua
open Go.RowKit
set_option linter.unusedVariables false
set_option maxRecDepth 100000
set_option maxRecDepth 100000 in
theorem made_any (A : Option Addr) (n c : Nat) (l : List Nat) (w : World) (hl : l.length = n) (hc : n ≤ c) (hA : RdB w w.heap.size A l) :
    Calls Tryz.prog 69 #[.slice A n c] w fun e w' => e = .returned (ofV l) ∧ Below w.heap.size w w' := by
  obtain ⟨x0, x1, x2, x3, x4, x5, x6, x7, hx⟩ := eight (pad_length l)
  have HS := Lib.hid (splice_pad l)
  have HX := Lib.hid hx
  have HA := Lib.hid hA
  have HL := Lib.hid hl
  have HC : Hid ((bvals (l.take 8)).length = Nat.min n 8) := Lib.hid (by simp only [bvals, List.length_map, List.length_take, hl]; exact Nat.min_comm 8 n)
  have HP : Hid (0 < (bvals (l.take 8)).length → ∃ ad, A = some ad ∧ ∀ (W : World), Below w.heap.size w W → ∀ j v, (bvals (l.take 8))[j]? = some v → W.cell? (ad.add j) = some v) := Lib.hid (by
    intro h
    cases A with
    | none => rw [hA.none_ rfl] at h; simp [bvals] at h
    | some ad =>
      refine ⟨ad, rfl, fun W hW j v hj => ?_⟩
      obtain ⟨x, hj, rfl⟩ := bvals_at hj
      clear h
      have hj' : l[j]? = some x := by
        rename_i hj2
        rw [List.getElem?_take] at hj2
        split at hj2
        · exact hj2
        · cases hj2
      exact (hA.below hW (Nat.le_refl _)).cells ad rfl j x hj')
  clear hl hA hx
  go_enter Tryz.func69, Tryz.ntmps69
  go_wp2_with (first
    | ((with_reducible refine wpList_copy_splice (o := ⟨some 7, _, _, _, _, _⟩) rfl (.tmp 5) (.tmp 6) 131 131 rfl 5 Tryz.underlying131 (by kernel_rfl) _ _ _ _ _ _ rfl rfl (w.heap.size + 1) 1 (.int .i64 0 :: bvals (List.replicate 8 0)) 27 (two_at _ _ _) (bvals (l.take 8)) HC.out (fun h0 => ⟨by go_simp, by obtain ⟨ad, h1, h2⟩ := HP.out h0; exact ⟨ad, h1, h2 _ (two_below _ _ _)⟩⟩) (by simp [bvals]; omega) (bvals_one _) (w.heap.size + 1) _ (Below.refl _ _) (Nat.le_refl _) ?_); intro w2 HG hB2
       obtain ⟨HR, HB3⟩ : QRow w2 w.heap.size 27 0 [0, 0, 0, 0, 0, 0, 0, 0] ∧ Below w.heap.size w w2 := ⟨(hB2.block _ (by omega)).trans (two_at0 _ _ _), (two_below _ _ _).trans (hB2.mono (by omega))⟩
       have HG2 : Hid (QRow w2 (w.heap.size + 1) 27 0 [x0, x1, x2, x3, x4, x5, x6, x7]) := Lib.hid (by
         have h := HG.out
         rw [HS.out, HX.out] at h
         exact h)
       clear HG hB2
       replace HR := Lib.hid HR
       replace HB3 := Lib.hid HB3)
    | ((with_reducible show wpList _ _ _ (⟨none, .store 3 (.tmp 8) (.tmp 7), _, _, _, _⟩ :: _) _ _); (refine wpList_store_row (o := ⟨none, .store 3 (.tmp 8) (.tmp 7), _, _, _, _⟩) rfl 3 _ _ rfl (w.heap.size + 1) 0 (by exact rfl) [.int .i64 (bvals (l.take 8)).length] (by exact rfl) (by kernel_rfl) (.int .i64 0 :: bvals [x0, x1, x2, x3, x4, x5, x6, x7]) (.int .i64 (bvals (l.take 8)).length :: bvals [x0, x1, x2, x3, x4, x5, x6, x7]) 27 HG2.out (by simp [bvals]) (one_one _ rfl) rfl ?_)
       obtain ⟨w3, hw3⟩ : ∃ W, W = World.setRow w2 (w.heap.size + 1) (Value.int .i64 (bvals (l.take 8)).length :: bvals [x0, x1, x2, x3, x4, x5, x6, x7]).toArray := ⟨_, rfl⟩
       rw [← hw3]
       have HG3 : Hid (QRow w3 (w.heap.size + 1) 27 (bvals (l.take 8)).length [x0, x1, x2, x3, x4, x5, x6, x7]) := Lib.hid (by rw [hw3]; exact HG2.out.set _ _)
       have HR3 : Hid (QRow w3 w.heap.size 27 0 [0, 0, 0, 0, 0, 0, 0, 0]) := Lib.hid (by rw [hw3]; exact (setRow_other w2 _ _ _ (by omega)).trans HR.out)
       have HB4 : Hid (Below w.heap.size w w3) := Lib.hid (by rw [hw3]; exact setRow_below HB3.out (by omega) _)
       clear HG2 HR HB3 hw3)
    | ((with_reducible show wpList _ _ _ (⟨some 9, .load 27 (.tmp 3), _, _, _, _⟩ :: _) _ _); (refine wpList_load_at (o := ⟨some 9, .load 27 (.tmp 3), _, _, _, _⟩) rfl 27 _ rfl (w.heap.size + 1) 0 (by exact rfl) _ _ (row_cells HG3.out) Tryz.underlying27 rfl (by kernel_rfl) ?_))
    | ((with_reducible show wpList _ _ _ (⟨none, .store 27 (.tmp 2) (.tmp 9), _, _, _, _⟩ :: _) _ _); (refine wpList_store_row (o := ⟨none, .store 27 (.tmp 2) (.tmp 9), _, _, _, _⟩) rfl 27 _ _ rfl w.heap.size 0 (by exact rfl) (.int .i64 (bvals (l.take 8)).length :: bvals [x0, x1, x2, x3, x4, x5, x6, x7]) (by exact rfl) (by kernel_rfl) (.int .i64 0 :: bvals [0, 0, 0, 0, 0, 0, 0, 0]) (.int .i64 (bvals (l.take 8)).length :: bvals [x0, x1, x2, x3, x4, x5, x6, x7]) 27 HR3.out (by simp [bvals]) (by simp [bvals, Value.oneCell']) rfl ?_)
       obtain ⟨w4, hw4⟩ : ∃ W, W = World.setRow w3 w.heap.size (Value.int .i64 (bvals (l.take 8)).length :: bvals [x0, x1, x2, x3, x4, x5, x6, x7]).toArray := ⟨_, rfl⟩
       rw [← hw4]
       have HN : QRow w4 w.heap.size 27 (bvals (l.take 8)).length [x0, x1, x2, x3, x4, x5, x6, x7] := by rw [hw4]; exact HR3.out.set _ _
       have HB5 : Hid (Below w.heap.size w w4) := Lib.hid (by rw [hw4]; exact setRow_below HB4.out (Nat.le_refl _) _)
       clear HG3 HR3 HB4 hw4
       obtain ⟨c0, c1, c2, c3, c4, c5, c6, c7, c8⟩ := nine HN))
  have hx := HX.out
  have hl : (bvals (l.take 8)).length = min l.length 8 := by simp only [bvals, List.length_map, List.length_take]; exact Nat.min_comm 8 _
  have hv : qv (bvals (l.take 8)).length [x0, x1, x2, x3, x4, x5, x6, x7] = ofV l := by rw [ofV, hx, hl]
  have hlv := run_loadVar_q (P := Tryz.prog) w4 w.heap.size 27 _ Tryz.underlying27 (by kernel_rfl) _ _ _ HN rfl
  rw [hv] at hlv
  exact bodyPost_ret (v := ofV l) (results_q Tryz.results69 _ _ _ _ _ rfl hlv) rfl ⟨rfl, HB5.out⟩
end Go.Proofs.YtkodoldkfeopdaaGreat.Ua
/- Mend -/
namespace Go.Proofs.YtkodoldkfeopdaaGreat.Ua
open Go.RowKit
set_option linter.unusedVariables false
set_option maxRecDepth 100000
set_option maxRecDepth 100000 in
theorem mend_any (n : Int) (bs : List Nat) (w : World) (hb : bs.length = 8) (hn : -9223372036854775808 ≤ n) (hn' : n ≤ 9223372036854775807) :
    Calls Tryz.prog 68 #[qv n bs] w fun e w' => e = .returned (ofV (cutL n bs)) ∧ Below w.heap.size w w' := by
  have HL := Lib.hid (cutL_length n bs hb)
  have HM : Hid (∀ (W : World) (m : Nat), QRow W w.heap.size 27 n bs → (m : Int) = max 0 (min n 8) → Calls Tryz.prog 69 #[.slice (some ⟨w.heap.size, 1, none⟩) m 8] W fun e w' => e = .returned (ofV (cutL n bs)) ∧ Below W.heap.size W w') := Lib.hid (by
    intro W m hW hm
    have h := rdb_q hW 0 m
    have e : (bs.drop 0).take m = cutL n bs := by
      rw [List.drop_zero, cutL]
      by_cases h8 : n ≤ 8
      · rw [show m = n.toNat by omega]
      · rw [List.take_of_length_le (by omega), List.take_of_length_le (by omega)]
    rw [e] at h
    exact made_any _ m 8 _ W (by have := HL.out; omega) (by omega) h)
  obtain ⟨b0, b1, b2, b3, b4, b5, b6, b7, rfl⟩ := eight hb
  rw [qv_eq]
  have C : n ≤ 0 ∨ 8 < n ∨ ∃ k : Nat, n = k ∧ 1 ≤ k ∧ k ≤ 8 := by
    rcases Int.lt_or_le n 1 with h | h
    · exact .inl (by omega)
    · rcases Int.lt_or_le 8 n with h2 | h2
      · exact .inr (.inl h2)
      · exact .inr (.inr ⟨n.toNat, by omega, by omega, by omega⟩)
  rcases C with h0 | h8 | ⟨k, rfl, hk1, hk8⟩
  · go_enter Tryz.func68, Tryz.ntmps68
    go_wp2_with (first
      | (go_at_call 69; refine (HM.out _ _ (two_at0 _ _ _) (by omega)).mono ?_; rintro e w1 ⟨rfl, hB⟩
         have HR : Hid (QRow w1 (w.heap.size + 1) 27 0 [0, 0, 0, 0, 0, 0, 0, 0]) := Lib.hid (QRow.below (two_at _ _ _) hB (by simp))
         have HB : Hid (Below w.heap.size w w1) := Lib.hid ((two_below _ _ _).trans (hB.mono (by simp; omega)))
         clear hB)
      | ((with_reducible show wpList _ _ _ (⟨none, .store 27 (.tmp 2) (.tmp 11), _, _, _, _⟩ :: _) _ _); refine wpList_store_q rfl 27 _ _ rfl (w.heap.size + 1) (by exact rfl) _ _ (by exact rfl) (pad_length _) (by kernel_rfl) 27 _ _ HR.out rfl ?_; intro w4 HN HO HB4))
    have hlv := run_loadVar_q (P := Tryz.prog) w4 (w.heap.size + 1) 27 _ Tryz.underlying27 (by kernel_rfl) _ _ _ HN.out (pad_length _)
    exact bodyPost_ret (v := ofV _) (results_q Tryz.results68 _ _ _ _ _ rfl hlv) rfl ⟨rfl, HB.out.trans (HB4.out.mono (by omega))⟩
  · go_enter Tryz.func68, Tryz.ntmps68
    go_wp2_with (first
      | (go_at_call 69; refine (HM.out _ _ (two_at0 _ _ _) (by omega)).mono ?_; rintro e w1 ⟨rfl, hB⟩
         have HR : Hid (QRow w1 (w.heap.size + 1) 27 0 [0, 0, 0, 0, 0, 0, 0, 0]) := Lib.hid (QRow.below (two_at _ _ _) hB (by simp))
         have HB : Hid (Below w.heap.size w w1) := Lib.hid ((two_below _ _ _).trans (hB.mono (by simp; omega)))
         clear hB)
      | ((with_reducible show wpList _ _ _ (⟨none, .store 27 (.tmp 2) (.tmp 11), _, _, _, _⟩ :: _) _ _); refine wpList_store_q rfl 27 _ _ rfl (w.heap.size + 1) (by exact rfl) _ _ (by exact rfl) (pad_length _) (by kernel_rfl) 27 _ _ HR.out rfl ?_; intro w4 HN HO HB4))
    have hlv := run_loadVar_q (P := Tryz.prog) w4 (w.heap.size + 1) 27 _ Tryz.underlying27 (by kernel_rfl) _ _ _ HN.out (pad_length _)
    exact bodyPost_ret (v := ofV _) (results_q Tryz.results68 _ _ _ _ _ rfl hlv) rfl ⟨rfl, HB.out.trans (HB4.out.mono (by omega))⟩
  · have HS := fun g w => run_slice_to g k w hk8
    go_enter Tryz.func68, Tryz.ntmps68
    go_wp2_with (first
      | (go_at_call 69; refine (HM.out _ _ (two_at0 _ _ _) (by omega)).mono ?_; rintro e w1 ⟨rfl, hB⟩
         have HR : Hid (QRow w1 (w.heap.size + 1) 27 0 [0, 0, 0, 0, 0, 0, 0, 0]) := Lib.hid (QRow.below (two_at _ _ _) hB (by simp))
         have HB : Hid (Below w.heap.size w w1) := Lib.hid ((two_below _ _ _).trans (hB.mono (by simp; omega)))
         clear hB)
      | ((with_reducible show wpList _ _ _ (⟨none, .store 27 (.tmp 2) (.tmp 11), _, _, _, _⟩ :: _) _ _); refine wpList_store_q rfl 27 _ _ rfl (w.heap.size + 1) (by exact rfl) _ _ (by exact rfl) (pad_length _) (by kernel_rfl) 27 _ _ HR.out rfl ?_; intro w4 HN HO HB4))
    have hlv := run_loadVar_q (P := Tryz.prog) w4 (w.heap.size + 1) 27 _ Tryz.underlying27 (by kernel_rfl) _ _ _ HN.out (pad_length _)
    exact bodyPost_ret (v := ofV _) (results_q Tryz.results68 _ _ _ _ _ rfl hlv) rfl ⟨rfl, HB.out.trans (HB4.out.mono (by omega))⟩
end Go.Proofs.YtkodoldkfeopdaaGreat.Ua
/- Right -/
namespace Go.Proofs.YtkodoldkfeopdaaGreat.Ua
open Go.RowKit
set_option linter.unusedVariables false
set_option maxRecDepth 100000
theorem rightB_eq (n : Int) (bs : List Nat) : decide (n = ((min (cutL n bs).length 8 : Nat) : Int) ∧ bs = pad (cutL n bs)) = rightB n bs := rfl
end Go.Proofs.YtkodoldkfeopdaaGreat.Ua
/- Push -/
namespace Go.Proofs.YtkodoldkfeopdaaGreat.Ua
open Go.RowKit
set_option linter.unusedVariables false
set_option maxRecDepth 100000
/-- What Push answers. -/
def pushV (l : List Nat) (b : Nat) : Value := if l.length = 8 then .tuple #[ofV l, .bool false] else .tuple #[ofV (l ++ [b]), .bool true]
theorem pushV_full {l : List Nat} {b : Nat} (h : l.length = 8) : pushV l b = .tuple #[ofV l, .bool false] := if_pos h
theorem pushV_room {l : List Nat} {b : Nat} (h : l.length < 8) : pushV l b = .tuple #[ofV (l ++ [b]), .bool true] := if_neg (by omega)
set_option maxRecDepth 100000 in
theorem push_any (n : Int) (bs : List Nat) (b : Nat) (w : World) (hb : bs.length = 8) (hn : -9223372036854775808 ≤ n) (hn' : n ≤ 9223372036854775807) :
    Calls Tryz.prog 54 #[qv n bs, .int .u8 b] w fun e w' => e = .returned (pushV (cutL n bs) b) ∧ Below w.heap.size w w' := by
  have hle := cutL_le n bs hb
  obtain ⟨L, hL⟩ : ∃ L, cutL n bs = L := ⟨_, rfl⟩
  rw [hL] at hle ⊢
  have HM : Hid (∀ W : World, Calls Tryz.prog 68 #[qv n bs] W fun e w' => e = .returned (qv (L.length : Nat) (pad L)) ∧ Below W.heap.size W w') := Lib.hid (fun W => by
    have h := mend_any n bs W hb hn hn'
    rw [hL, ofV_le L hle] at h
    exact h)
  clear hL
  obtain ⟨b0, b1, b2, b3, b4, b5, b6, b7, rfl⟩ := eight hb
  rw [qv_eq]
  obtain ⟨m, hm⟩ : ∃ m, L.length = m := ⟨_, rfl⟩
  obtain ⟨PL, hPL⟩ : ∃ PL, pad L = PL := ⟨_, rfl⟩
  have hP8 : Hid (PL.length = 8) := Lib.hid (by rw [← hPL]; exact pad_length L)
  rw [hm, hPL] at HM
  rcases Nat.lt_or_ge m 8 with h8 | h8
  · have hI := fun g w => run_index_arr g m w h8
    have hm8 : ¬ (m : Int) = 8 := by omega
    have hw : IntKind.i64.wrap ((m : Int) + 1) = (m : Int) + 1 := IntWalk.i64_in _ (by omega)
    go_enter Tryz.func54, Tryz.ntmps54
    go_wp2_with (first
      | (go_at_call 68; refine (HM.out _).mono ?_; rintro e w1 ⟨rfl, hB⟩
         have HQ1 : Hid (QRow w1 w.heap.size 27 n [b0, b1, b2, b3, b4, b5, b6, b7]) := Lib.hid (QRow.below (two_at0 _ _ _) hB (by simp; omega))
         have HR1 : Hid (QRow w1 (w.heap.size + 1) 27 0 [0, 0, 0, 0, 0, 0, 0, 0]) := Lib.hid (QRow.below (two_at _ _ _) hB (by simp))
         have HB1 : Hid (Below w.heap.size w w1) := Lib.hid ((two_below _ _ _).trans (hB.mono (by simp; omega)))
         clear hB)
      | ((with_reducible show wpList _ _ _ (⟨some 6, .load 27 (.tmp 2), _, _, _, _⟩ :: _) _ _); refine wpList_load_q rfl 27 _ rfl (w.heap.size) (by exact rfl) _ Tryz.underlying27 (by kernel_rfl) 27 _ _ (QRow.below (two_at0 _ _ _) (Below.refl (w.heap.size + 1) _) (by omega)) (rfl) ?_)
      | ((with_reducible show wpList _ _ _ (⟨none, .store 27 (.tmp 2) (.tmp 7), _, _, _, _⟩ :: _) _ _); refine wpList_store_q rfl 27 _ _ rfl (w.heap.size) (by exact rfl) _ _ (by exact rfl) (hP8.out) (by kernel_rfl) 27 _ _ (HQ1.out) (rfl) ?_; intro w2 HQ2 HO2 HB2
         have HR2 : Hid (QRow w2 (w.heap.size + 1) 27 0 [0, 0, 0, 0, 0, 0, 0, 0]) := Lib.hid ((HO2.out _ (by omega)).trans HR1.out)
         have HA2 : Hid (Below w.heap.size w w2) := Lib.hid (HB1.out.trans HB2.out)
         have q2 : w2.cell? ⟨w.heap.size, 0, none⟩ = some (.int .i64 m) := row_at HQ2.out 0 _ rfl
         clear HQ1 HR1 HB1 HO2 HB2)
      | ((with_reducible show wpList _ _ _ (⟨none, .store 5 (.tmp 16) (.tmp 14), _, _, _, _⟩ :: _) _ _); refine wpList_store_b rfl 5 _ _ rfl (w.heap.size) (m) (by exact rfl) (b) (by exact rfl) (by kernel_rfl) 27 _ _ (HQ2.out) (by have := hP8.out; omega) ?_; intro w3 HQ3 HO3 HB3
         have HR3 : Hid (QRow w3 (w.heap.size + 1) 27 0 [0, 0, 0, 0, 0, 0, 0, 0]) := Lib.hid ((HO3.out _ (by omega)).trans HR2.out)
         have HA3 : Hid (Below w.heap.size w w3) := Lib.hid (HA2.out.trans HB3.out)
         have q3 : w3.cell? ⟨w.heap.size, 0, none⟩ = some (.int .i64 m) := row_at HQ3.out 0 _ rfl
         clear HQ2 HR2 HA2 HO3 HB3)
      | ((with_reducible show wpList _ _ _ (⟨none, .store 3 (.tmp 20) (.tmp 19), _, _, _, _⟩ :: _) _ _); refine wpList_store_n rfl 3 _ _ rfl (w.heap.size) (by exact rfl) ((m : Int) + 1) (by exact rfl) (by kernel_rfl) 27 _ _ (HQ3.out) ?_; intro w4 HQ4 HO4 HB4
         have HR4 : Hid (QRow w4 (w.heap.size + 1) 27 0 [0, 0, 0, 0, 0, 0, 0, 0]) := Lib.hid ((HO4.out _ (by omega)).trans HR3.out)
         have HA4 : Hid (Below w.heap.size w w4) := Lib.hid (HA3.out.trans HB4.out)
         clear HQ3 HR3 HA3 HO4 HB4)
      | ((with_reducible show wpList _ _ _ (⟨some 21, .load 27 (.tmp 2), _, _, _, _⟩ :: _) _ _); refine wpList_load_q rfl 27 _ rfl (w.heap.size) (by exact rfl) _ Tryz.underlying27 (by kernel_rfl) 27 _ _ (HQ4.out) (by rw [List.length_set]; exact hP8.out) ?_)
      | ((with_reducible show wpList _ _ _ (⟨none, .store 27 (.tmp 4) (.tmp 21), _, _, _, _⟩ :: _) _ _); refine wpList_store_q rfl 27 _ _ rfl (w.heap.size + 1) (by exact rfl) _ _ (by exact rfl) (by rw [List.length_set]; exact hP8.out) (by kernel_rfl) 27 _ _ (HR4.out) (rfl) ?_; intro w5 HN HO5 HB5))
    have hlv := run_loadVar_q (P := Tryz.prog) w5 (w.heap.size + 1) 27 _ Tryz.underlying27 (by kernel_rfl) _ _ _ HN.out (by rw [List.length_set]; exact hP8.out)
    have hv : qv ((m : Int) + 1) (PL.set m b) = ofV (L ++ [b]) := by
      rw [ofV_le _ (by simp; omega), ← hPL, ← hm, pad_set L b (by omega)]
      congr 1
      simp
    rw [hv] at hlv
    rw [pushV_room (by omega)]
    exact bodyPost_ret (results_qb Tryz.results54 _ _ _ _ _ _ rfl hlv rfl) rfl ⟨rfl, HA4.out.trans (HB5.out.mono (by omega))⟩
  · obtain rfl : m = 8 := by omega
    go_enter Tryz.func54, Tryz.ntmps54
    go_wp2_with (first
      | (go_at_call 68; refine (HM.out _).mono ?_; rintro e w1 ⟨rfl, hB⟩
         have HQ1 : Hid (QRow w1 w.heap.size 27 n [b0, b1, b2, b3, b4, b5, b6, b7]) := Lib.hid (QRow.below (two_at0 _ _ _) hB (by simp; omega))
         have HR1 : Hid (QRow w1 (w.heap.size + 1) 27 0 [0, 0, 0, 0, 0, 0, 0, 0]) := Lib.hid (QRow.below (two_at _ _ _) hB (by simp))
         have HB1 : Hid (Below w.heap.size w w1) := Lib.hid ((two_below _ _ _).trans (hB.mono (by simp; omega)))
         clear hB)
      | ((with_reducible show wpList _ _ _ (⟨some 6, .load 27 (.tmp 2), _, _, _, _⟩ :: _) _ _); refine wpList_load_q rfl 27 _ rfl (w.heap.size) (by exact rfl) _ Tryz.underlying27 (by kernel_rfl) 27 _ _ (QRow.below (two_at0 _ _ _) (Below.refl (w.heap.size + 1) _) (by omega)) (rfl) ?_)
      | ((with_reducible show wpList _ _ _ (⟨none, .store 27 (.tmp 2) (.tmp 7), _, _, _, _⟩ :: _) _ _); refine wpList_store_q rfl 27 _ _ rfl (w.heap.size) (by exact rfl) _ _ (by exact rfl) (hP8.out) (by kernel_rfl) 27 _ _ (HQ1.out) (rfl) ?_; intro w2 HQ2 HO2 HB2
         have HR2 : Hid (QRow w2 (w.heap.size + 1) 27 0 [0, 0, 0, 0, 0, 0, 0, 0]) := Lib.hid ((HO2.out _ (by omega)).trans HR1.out)
         have HA2 : Hid (Below w.heap.size w w2) := Lib.hid (HB1.out.trans HB2.out)
         have q2 : w2.cell? ⟨w.heap.size, 0, none⟩ = some (.int .i64 8) := row_at HQ2.out 0 _ rfl
         clear HQ1 HR1 HB1 HO2 HB2)
      | ((with_reducible show wpList _ _ _ (⟨some 11, .load 27 (.tmp 2), _, _, _, _⟩ :: _) _ _); refine wpList_load_q rfl 27 _ rfl (w.heap.size) (by exact rfl) _ Tryz.underlying27 (by kernel_rfl) 27 _ _ (HQ2.out) (hP8.out) ?_)
      | ((with_reducible show wpList _ _ _ (⟨none, .store 27 (.tmp 4) (.tmp 11), _, _, _, _⟩ :: _) _ _); refine wpList_store_q rfl 27 _ _ rfl (w.heap.size + 1) (by exact rfl) _ _ (by exact rfl) (hP8.out) (by kernel_rfl) 27 _ _ (HR2.out) (rfl) ?_; intro w3 HN HO3 HB3))
    have hlv := run_loadVar_q (P := Tryz.prog) w3 (w.heap.size + 1) 27 _ Tryz.underlying27 (by kernel_rfl) _ _ _ HN.out hP8.out
    have hv : qv (8 : Int) PL = ofV L := by rw [ofV_le L hle, hm, hPL]; rfl
    rw [hv] at hlv
    rw [pushV_full hm]
    exact bodyPost_ret (results_qb Tryz.results54 _ _ _ _ _ _ rfl hlv rfl) rfl ⟨rfl, HA2.out.trans (HB3.out.mono (by omega))⟩
end Go.Proofs.YtkodoldkfeopdaaGreat.Ua
/- Pop -/
namespace Go.Proofs.YtkodoldkfeopdaaGreat.Ua
open Go.RowKit
set_option linter.unusedVariables false
set_option maxRecDepth 100000
/-- What Pop answers. -/
def popV : List Nat → Value
  | [] => .tuple #[.int .u8 0, ofV [], .bool false]
  | x :: r => .tuple #[.int .u8 x, ofV r, .bool true]
theorem pad_tail (x : Nat) (r : List Nat) (h : r.length ≤ 7) : ((pad (x :: r)).drop 1).take r.length = r := by
  rw [pad_le (by simp; omega)]
  simp
set_option maxRecDepth 100000 in
theorem pop_any (n : Int) (bs : List Nat) (w : World) (hb : bs.length = 8) (hn : -9223372036854775808 ≤ n) (hn' : n ≤ 9223372036854775807) :
    Calls Tryz.prog 58 #[qv n bs] w fun e w' => e = .returned (popV (cutL n bs)) ∧ Below w.heap.size w w' := by
  have hle := cutL_le n bs hb
  obtain ⟨L, hL⟩ : ∃ L, cutL n bs = L := ⟨_, rfl⟩
  rw [hL] at hle ⊢
  have HM : Hid (∀ W : World, Calls Tryz.prog 68 #[qv n bs] W fun e w' => e = .returned (qv (L.length : Nat) (pad L)) ∧ Below W.heap.size W w') := Lib.hid (fun W => by
    have h := mend_any n bs W hb hn hn'
    rw [hL, ofV_le L hle] at h
    exact h)
  clear hL
  obtain ⟨b0, b1, b2, b3, b4, b5, b6, b7, rfl⟩ := eight hb
  rw [qv_eq]
  obtain ⟨PL, hPL⟩ : ∃ PL, pad L = PL := ⟨_, rfl⟩
  have hP8 : Hid (PL.length = 8) := Lib.hid (by rw [← hPL]; exact pad_length L)
  rw [hPL] at HM
  rcases L with _ | ⟨x, r⟩
  · go_enter Tryz.func58, Tryz.ntmps58
    go_wp2_with (first
      | (go_at_call 68; refine (HM.out _).mono ?_; rintro e w1 ⟨rfl, hB⟩
         have HQ1 : Hid (QRow w1 w.heap.size 27 n [b0, b1, b2, b3, b4, b5, b6, b7]) := Lib.hid (QRow.below (two_at0 _ _ _) hB (by simp; omega))
         have HR1 : Hid (QRow w1 (w.heap.size + 1) 27 0 [0, 0, 0, 0, 0, 0, 0, 0]) := Lib.hid (QRow.below (two_at _ _ _) hB (by simp))
         have HB1 : Hid (Below w.heap.size w w1) := Lib.hid ((two_below _ _ _).trans (hB.mono (by simp; omega)))
         clear hB)
      | ((with_reducible show wpList _ _ _ (⟨some 5, .load 27 (.tmp 1), _, _, _, _⟩ :: _) _ _); refine wpList_load_q rfl 27 _ rfl (w.heap.size) (by exact rfl) _ Tryz.underlying27 (by kernel_rfl) 27 _ _ (QRow.below (two_at0 _ _ _) (Below.refl (w.heap.size + 1) _) (by omega)) (rfl) ?_)
      | ((with_reducible show wpList _ _ _ (⟨none, .store 27 (.tmp 1) (.tmp 6), _, _, _, _⟩ :: _) _ _); refine wpList_store_q rfl 27 _ _ rfl (w.heap.size) (by exact rfl) _ _ (by exact rfl) (hP8.out) (by kernel_rfl) 27 _ _ (HQ1.out) (rfl) ?_; intro w2 HQ2 HO2 HB2
         have HR2 : Hid (QRow w2 (w.heap.size + 1) 27 0 [0, 0, 0, 0, 0, 0, 0, 0]) := Lib.hid ((HO2.out _ (by omega)).trans HR1.out)
         have HA2 : Hid (Below w.heap.size w w2) := Lib.hid (HB1.out.trans HB2.out)
         have q2 : w2.cell? ⟨w.heap.size, 0, none⟩ = some (.int .i64 (0)) := row_at HQ2.out 0 _ rfl
         clear HQ1 HR1 HB1 HO2 HB2))
    refine wp_region_noPanic ?_
    refine wp_region_held_drew (S := fun X => QRow X w.heap.size 27 0 PL) (by kernel_rfl) (HQ2.out) (fun hHeld => ?_)
    refine' take_ 0 rfl (by kernel_rfl) (by kernel_rfl) (by kernel_rfl) (fun _ _ _ h => h) (by rfl) (fun wS hSw => run_load_q wS 27 _ _ rfl _ Tryz.underlying27 (by kernel_rfl) _ _ _ (hSw) hP8.out _ _ _ _ _) hHeld ?_
    try simp only [Act.put, List.setIfInBounds_toArray, List.set_cons_zero, List.set_cons_succ]
    refine' take_ 1 rfl (by kernel_rfl) (by kernel_rfl) (by kernel_rfl) (fun _ _ _ h => h) (by rfl) (fun wS hSw => ?_) hHeld ?_
    rotate_left
    focus (go_simp; (try with_reducible rfl); done)
    try simp only [Act.put, List.setIfInBounds_toArray, List.set_cons_zero, List.set_cons_succ]
    refine only_ 2 rfl (by kernel_rfl) (by rfl) (fun K hK => ?_)
    refine wp_store_q 27 _ _ rfl (w.heap.size + 1) rfl _ _ rfl hP8.out (by kernel_rfl) 27 _ _ (show QRow _ _ _ 0 [0, 0, 0, 0, 0, 0, 0, 0] from HR2.out) rfl ?_
    intro w3 HN HO3 HB3
    refine hK.out _ _ ((HO3.out _ (by omega)).trans HQ2.out) (fun hHeld2 => ?_)
    clear hK K hHeld
    have hHeld := hHeld2
    clear hHeld2
    try simp only [Act.put]
    refine' take_ 3 rfl (by kernel_rfl) (by kernel_rfl) (by kernel_rfl) (fun _ _ _ h => h) (by rfl) (fun wS hSw => ?_) hHeld ?_
    rotate_left
    focus (go_simp; (try with_reducible rfl); done)
    try simp only [Act.put, List.setIfInBounds_toArray, List.set_cons_zero, List.set_cons_succ]
    refine wpAnyH_done (by kernel_rfl) ?_ _
    refine NoPanic.normal ?_
    go_wp2
    have hlv := run_loadVar_q (P := Tryz.prog) w3 (w.heap.size + 1) 27 _ Tryz.underlying27 (by kernel_rfl) _ _ _ HN.out hP8.out
    have hv : qv 0 PL = ofV [] := by rw [ofV_le _ hle, hPL]; rfl
    rw [hv] at hlv
    exact bodyPost_ret (results_bqb Tryz.results58 _ _ _ _ _ _ _ rfl hlv rfl rfl) rfl ⟨rfl, HA2.out.trans ((Below.refl _ w2).drew.trans (HB3.out.mono (by omega)))⟩
  · have hr : r.length ≤ 7 := by simp at hle; omega
    have HT : Hid ((PL.drop 1).take r.length = r) := Lib.hid (by rw [← hPL]; exact pad_tail x r hr)
    have hx : ∃ p1 p2 p3 p4 p5 p6 p7, PL = [x, p1, p2, p3, p4, p5, p6, p7] := by
      obtain ⟨p0, p1, p2, p3, p4, p5, p6, p7, h⟩ := eight hP8.out
      have h2 : pad (x :: r) = x :: (pad (x :: r)).drop 1 := by
        rw [pad_le (by simp; omega)]
        simp
      rw [hPL, h] at h2
      injection h2 with h3 _
      subst h3
      exact ⟨p1, p2, p3, p4, p5, p6, p7, h⟩
    have HM2 : Hid (∀ W : World, QRow W w.heap.size 27 ((r.length : Int) + 1) PL → Calls Tryz.prog 69 #[.slice (some ⟨w.heap.size, 2, none⟩) r.length 7] W fun e w' => e = .returned (ofV r) ∧ Below W.heap.size W w') := Lib.hid (fun W hW => by
      have h := rdb_q hW 1 r.length
      rw [HT.out] at h
      exact made_any _ _ _ r W rfl hr h)
    have hS := fun g w => run_slice_one g r.length w (by omega)
    have hne : ¬ ((r.length : Int) + 1 = 0) := by omega
    obtain ⟨p1, p2, p3, p4, p5, p6, p7, rfl⟩ := hx
    have hcast : ((x :: r).length : Int) = (r.length : Int) + 1 := by simp
    rw [hcast] at HM
    clear hcast hPL HT
    obtain ⟨k, hk⟩ : ∃ k, r.length = k := ⟨_, rfl⟩
    rw [hk] at hS HM HM2 hne
    go_enter Tryz.func58, Tryz.ntmps58
    go_wp2_with (first
      | (go_at_call 68; refine (HM.out _).mono ?_; rintro e w1 ⟨rfl, hB⟩
         have HQ1 : Hid (QRow w1 w.heap.size 27 n [b0, b1, b2, b3, b4, b5, b6, b7]) := Lib.hid (QRow.below (two_at0 _ _ _) hB (by simp; omega))
         have HR1 : Hid (QRow w1 (w.heap.size + 1) 27 0 [0, 0, 0, 0, 0, 0, 0, 0]) := Lib.hid (QRow.below (two_at _ _ _) hB (by simp))
         have HB1 : Hid (Below w.heap.size w w1) := Lib.hid ((two_below _ _ _).trans (hB.mono (by simp; omega)))
         clear hB)
      | ((with_reducible show wpList _ _ _ (⟨some 5, .load 27 (.tmp 1), _, _, _, _⟩ :: _) _ _); refine wpList_load_q rfl 27 _ rfl (w.heap.size) (by exact rfl) _ Tryz.underlying27 (by kernel_rfl) 27 _ _ (QRow.below (two_at0 _ _ _) (Below.refl (w.heap.size + 1) _) (by omega)) (rfl) ?_)
      | ((with_reducible show wpList _ _ _ (⟨none, .store 27 (.tmp 1) (.tmp 6), _, _, _, _⟩ :: _) _ _); refine wpList_store_q rfl 27 _ _ rfl (w.heap.size) (by exact rfl) _ _ (by exact rfl) (hP8.out) (by kernel_rfl) 27 _ _ (HQ1.out) (rfl) ?_; intro w2 HQ2 HO2 HB2
         have HR2 : Hid (QRow w2 (w.heap.size + 1) 27 0 [0, 0, 0, 0, 0, 0, 0, 0]) := Lib.hid ((HO2.out _ (by omega)).trans HR1.out)
         have HA2 : Hid (Below w.heap.size w w2) := Lib.hid (HB1.out.trans HB2.out)
         have q2 : w2.cell? ⟨w.heap.size, 0, none⟩ = some (.int .i64 ((k : Int) + 1)) := row_at HQ2.out 0 _ rfl
         clear HQ1 HR1 HB1 HO2 HB2))
    refine wp_region_noPanic ?_
    refine wp_region_held_drew (S := fun X => QRow X w.heap.size 27 ((k : Int) + 1) [x, p1, p2, p3, p4, p5, p6, p7]) (by kernel_rfl) (HQ2.out) (fun hHeld => ?_)
    refine' take_ 0 rfl (by kernel_rfl) (by kernel_rfl) (by kernel_rfl) (fun _ _ _ h => h) (by rfl) (fun wS hSw => ?_) hHeld ?_
    rotate_left
    focus (go_simp; (try with_reducible rfl); done)
    try simp only [Act.put, List.setIfInBounds_toArray, List.set_cons_zero, List.set_cons_succ]
    refine' take_ 1 rfl (by kernel_rfl) (by kernel_rfl) (by kernel_rfl) (fun _ _ _ h => h) (by rfl) (fun wS hSw => ?_) hHeld ?_
    rotate_left
    focus (go_simp; (try with_reducible rfl); done)
    try simp only [Act.put, List.setIfInBounds_toArray, List.set_cons_zero, List.set_cons_succ]
    refine' take_ 2 rfl (by kernel_rfl) (by kernel_rfl) (by kernel_rfl) (fun _ _ _ h => h) (by rfl) (fun wS hSw => ?_) hHeld ?_
    rotate_left
    focus (have s0 := row_at hSw 0 _ rfl; have s1 := row_at hSw 1 _ rfl; go_simp; (try with_reducible rfl); done)
    try simp only [Act.put, List.setIfInBounds_toArray, List.set_cons_zero, List.set_cons_succ]
    refine' take_ 3 rfl (by kernel_rfl) (by kernel_rfl) (by kernel_rfl) (fun _ _ _ h => h) (by rfl) (fun wS hSw => ?_) hHeld ?_
    rotate_left
    focus (go_simp; (try with_reducible rfl); done)
    try simp only [Act.put, List.setIfInBounds_toArray, List.set_cons_zero, List.set_cons_succ]
    refine' take_ 4 rfl (by kernel_rfl) (by kernel_rfl) (by kernel_rfl) (fun _ _ _ h => h) (by rfl) (fun wS hSw => ?_) hHeld ?_
    rotate_left
    focus (go_simp; (try with_reducible rfl); done)
    try simp only [Act.put, List.setIfInBounds_toArray, List.set_cons_zero, List.set_cons_succ]
    refine' take_ 5 rfl (by kernel_rfl) (by kernel_rfl) (by kernel_rfl) (fun _ _ _ h => h) (by rfl) (fun wS hSw => ?_) hHeld ?_
    rotate_left
    focus (have s0 := row_at hSw 0 _ rfl; have s1 := row_at hSw 1 _ rfl; go_simp; (try with_reducible rfl); done)
    try simp only [Act.put, List.setIfInBounds_toArray, List.set_cons_zero, List.set_cons_succ]
    refine' take_ 6 rfl (by kernel_rfl) (by kernel_rfl) (by kernel_rfl) (fun _ _ _ h => h) (by rfl) (fun wS hSw => ?_) hHeld ?_
    rotate_left
    focus (go_simp; (try with_reducible rfl); done)
    try simp only [Act.put, List.setIfInBounds_toArray, List.set_cons_zero, List.set_cons_succ]
    refine only_ 7 rfl (by kernel_rfl) (by rfl) (fun K hK => ?_)
    go_simp
    refine (HM2.out _ hHeld).mono ?_
    rintro e w1 ⟨rfl, hB⟩
    have HR3 : Hid (QRow w1 (w.heap.size + 1) 27 0 [0, 0, 0, 0, 0, 0, 0, 0]) := Lib.hid (QRow.below (w := w2.drew) HR2.out hB HR2.out.lt)
    have HA3 : Hid (Below w.heap.size w w1) := Lib.hid (HA2.out.drew.trans (hB.mono HA2.out.size))
    have hH1 : QRow w1 w.heap.size 27 ((k : Int) + 1) [x, p1, p2, p3, p4, p5, p6, p7] := QRow.below (w := w2.drew) HQ2.out hB HQ2.out.lt
    clear hB
    go_simp
    refine hK.out _ _ (hH1) (fun hHeld2 => ?_)
    clear hK K hHeld
    have hHeld := hHeld2
    clear hHeld2
    try simp only [Act.put, List.setIfInBounds_toArray, List.set_cons_zero, List.set_cons_succ]
    refine' take_ 8 rfl (by kernel_rfl) (by kernel_rfl) (by kernel_rfl) (fun _ _ _ h => h) (by rfl) (fun wS hSw => ?_) hHeld ?_
    rotate_left
    focus (go_simp; (try with_reducible rfl); done)
    try simp only [Act.put, List.setIfInBounds_toArray, List.set_cons_zero, List.set_cons_succ]
    refine only_ 9 rfl (by kernel_rfl) (by rfl) (fun K hK => ?_)
    refine wp_store_q 27 _ _ rfl (w.heap.size + 1) rfl _ _ rfl (pad_length _) (by kernel_rfl) 27 _ _ (show QRow _ _ _ 0 [0, 0, 0, 0, 0, 0, 0, 0] from HR3.out) rfl ?_
    intro w3 HN HO3 HB3
    refine hK.out _ _ ((HO3.out _ (by omega)).trans hHeld) (fun hHeld2 => ?_)
    clear hK K hHeld
    have hHeld := hHeld2
    clear hHeld2
    try simp only [Act.put]
    refine' take_ 10 rfl (by kernel_rfl) (by kernel_rfl) (by kernel_rfl) (fun _ _ _ h => h) (by rfl) (fun wS hSw => ?_) hHeld ?_
    rotate_left
    focus (go_simp; (try with_reducible rfl); done)
    try simp only [Act.put, List.setIfInBounds_toArray, List.set_cons_zero, List.set_cons_succ]
    refine wpAnyH_done (by kernel_rfl) ?_ _
    refine NoPanic.normal ?_
    go_wp2
    have hlv := run_loadVar_q (P := Tryz.prog) w3 (w.heap.size + 1) 27 _ Tryz.underlying27 (by kernel_rfl) _ _ _ HN.out (pad_length _)
    exact bodyPost_ret (results_bqb Tryz.results58 _ _ _ _ _ _ _ rfl hlv rfl rfl) rfl ⟨rfl, HA3.out.trans (HB3.out.mono (by omega))⟩
end Go.Proofs.YtkodoldkfeopdaaGreat.Ua
/- Grow -/
namespace Go.Proofs.YtkodoldkfeopdaaGreat.Ua
open Go.RowKit
set_option linter.unusedVariables false
set_option maxRecDepth 100000
theorem bvals_take_succ (bs : List Nat) (k x : Nat) (h : bs[k]? = some x) : bvals (bs.take (k + 1)) = bvals (bs.take k) ++ [.int .u8 (x : Int)] := by
  rw [List.take_add_one, h, ← bvals_append]
  rfl
theorem q_at {w : World} {g : Nat} {t : TypeId} {n : Int} {bs : List Nat} (h : QRow w g t n bs) (k x : Nat) (hx : bs[k]? = some x) : w.cell? ⟨g, 1 + k, none⟩ = some (.int .u8 (x : Int)) := by
  rw [Nat.add_comm]
  exact row_at h (k + 1) _ (by simp [bvals, hx])
set_option maxRecDepth 100000 in
theorem rAll_any (n : Int) (bs : List Nat) (w : World) (hb : bs.length = 8) (hn : -9223372036854775808 ≤ n) (hn' : n ≤ 9223372036854775807) :
    Calls Tryz.prog 65 #[qv n bs] w fun e w' => ∃ v, e = .returned v ∧ Own w' (w.heap.size + 1) v (cutL n bs) ∧ Below w.heap.size w w' := by
  have hlen := cutL_length n bs hb
  have hle := cutL_le n bs hb
  obtain ⟨N, hN⟩ : ∃ N, (cutL n bs).length = N := ⟨_, rfl⟩
  rw [hN] at hlen hle
  have HC : Hid (cutL n bs = bs.take N) := Lib.hid (by rw [cutL]; by_cases h : n ≤ 8; (· rw [show n.toNat = N by omega]); (· rw [List.take_of_length_le (by omega), List.take_of_length_le (by omega)]))
  obtain ⟨i0, hi0, hz0, hz1, hz2⟩ := info_parts u8info
  have H9 := Lib.hid hz0
  have H10 := Lib.hid hz1
  have H11 := Lib.hid hz2
  have H12 := Lib.hid hi0
  clear hz0 hz1 hz2 hi0 hN
  obtain ⟨b0, b1, b2, b3, b4, b5, b6, b7, hbs⟩ := eight hb
  have HQ0 : Hid (∀ W, Below (w.heap.size + 1) (w.alloc (.cells #[.int .i64 n, .int .u8 (b0 : Int), .int .u8 (b1 : Int), .int .u8 (b2 : Int), .int .u8 (b3 : Int), .int .u8 (b4 : Int), .int .u8 (b5 : Int), .int .u8 (b6 : Int), .int .u8 (b7 : Int)] 39)) W → QRow W w.heap.size 39 n bs) := Lib.hid (fun W hW => by subst hbs; exact (QRow.al w n b0 b1 b2 b3 b4 b5 b6 b7 39).below hW (by omega))
  have hq : qv n bs = q8 n b0 b1 b2 b3 b4 b5 b6 b7 := by rw [hbs]; rfl
  have HB8 := Lib.hid hb
  rw [hq]
  clear hbs hb hq
  go_enter Tryz.func65, Tryz.ntmps65
  go_wp2_with fail
  go_loopw [3, 4] (fun v iv wr => ∃ k : Nat, k ≤ N ∧ iv = .int .i64 k ∧ wr.ownsRow (w.heap.size + 1) 5 1 v k (bvals (bs.take k)) ∧ Below (w.heap.size + 1) (w.alloc (.cells #[.int .i64 n, .int .u8 (b0 : Int), .int .u8 (b1 : Int), .int .u8 (b2 : Int), .int .u8 (b3 : Int), .int .u8 (b4 : Int), .int .u8 (b5 : Int), .int .u8 (b6 : Int), .int .u8 (b7 : Int)] 39)) wr) (fun _ iv _ => N - (intOf iv).toNat)
  case atStart => exact ⟨0, by omega, rfl, World.ownsRow_nil _ _ _ _, Below.refl _ _⟩
  case round =>
    obtain ⟨k, hk, rfl, hown, hbr⟩ := hrel
    have HBR := Lib.hid hbr
    have hz : w.heap.size + 1 ≤ wr.heap.size := Nat.le_trans (by simp) hbr.size
    have hQ := HQ0.out _ hbr
    have hcn : wr.cell? ⟨w.heap.size, 0, none⟩ = some (.int .i64 n) := row_at hQ 0 _ rfl
    obtain ⟨A, c, rfl⟩ := own_form hown
    by_cases hlt : k < N
    · obtain ⟨x, hx⟩ : ∃ x, bs[k]? = some x := ⟨_, List.getElem?_eq_getElem (by have := HB8.out; omega)⟩
      have hcx := q_at hQ k x hx
      have HX := Lib.hid hx
      have hI := fun g w => run_index_arr g k w (by omega)
      have d1 : (k : Int) < 8 := by omega
      have d2 : (k : Int) < n := by omega
      have HO := Lib.hid hown
      clear hown hbr hQ hx
      go_wp2_with (at_builtin; go_must (refine wpList_append_blk _ rfl (.tmp 15) (.tmp 20) 131 rfl (w.heap.size + 1) 5 i0 (.int .u8 0) 1 1 Tryz.underlying131 H12.out H9.out H10.out H11.out rfl (by decide) (.slice A k c) k (bvals (bs.take k)) rfl (own_ne HO.out (gb_alloc _ none _) (by simp)) ⟨_, 0, none⟩ 1 1 [.int .u8 (x : Int)] rfl rfl (new_one _ _ _ _ rfl) (by simp [Value.oneCell']) (by simp only [maxLen]; omega) (by omega) (by first | (simp; done) | (simp; omega)) ?_; intro v3 w3 hown3 hg3 hb3; obtain ⟨g3, cap3, rfl⟩ := own_succ hown3; have O3 := Lib.hid hown3; have G3 := Lib.hid hg3; clear hown3 hg3 hb3))
      go_roundw
      case rel => exact ⟨k + 1, by omega, by go_num, by rw [bvals_take_succ bs k x HX.out]; exact O3.out, below_gb (HBR.out.alloc (by omega) _) G3.out (by simp; omega) (fun b hb => (HO.out.lt b hb).1)⟩
      case measure =>
        simp [intOf]
        omega
    · obtain rfl : k = N := by omega
      have HO := Lib.hid hown
      clear hown hbr hQ
      have hfin : Own wr (w.heap.size + 1) (.slice A k c) (bs.take k) := by
        have h1 := HO.out
        unfold Own
        rw [List.length_take, Nat.min_eq_left (by have := HB8.out; omega)]
        exact h1
      have hfb : Below w.heap.size w wr := ((Below.refl _ _).alloc (Nat.le_refl _) _).trans (HBR.out.mono (by omega))
      by_cases d : k < 8
      · have d1 : (k : Int) < 8 := by omega
        have d2 : ¬ (k : Int) < n := by omega
        go_wp2_with fail
        go_ret
        exact ⟨_, rfl, by rw [HC.out]; exact hfin, hfb⟩
      · have d1 : ¬ (k : Int) < 8 := by omega
        go_wp2_with fail
        go_ret
        exact ⟨_, rfl, by rw [HC.out]; exact hfin, hfb⟩
end Go.Proofs.YtkodoldkfeopdaaGreat.Ua
/- Rof -/
namespace Go.Proofs.YtkodoldkfeopdaaGreat.Ua
open Go.RowKit
set_option linter.unusedVariables false
set_option maxRecDepth 100000
theorem pad_take (l : List Nat) (N : Nat) (h : N = min l.length 8) : pad (l.take N) = pad l := by
  subst h
  by_cases h8 : l.length ≤ 8
  · rw [List.take_of_length_le (by omega)]
  · rw [show min l.length 8 = 8 by omega]
    unfold pad
    rw [List.take_take, List.length_take, Nat.min_self, show 8 - min 8 l.length = 8 - l.length by omega]
theorem pad_next (l : List Nat) (k x : Nat) (hx : l[k]? = some x) (hk : k < 8) : (pad (l.take k)).set k x = pad (l.take (k + 1)) := by
  have hkl := (List.getElem?_eq_some_iff.1 hx).1
  have h1 : (l.take k).length = k := by rw [List.length_take]; omega
  have h2 := pad_set (l.take k) x (by omega)
  rw [h1] at h2
  rw [h2, List.take_add_one, hx]
  rfl
set_option maxRecDepth 100000 in
theorem rOf_any (A : Option Addr) (n c : Nat) (l : List Nat) (w : World) (hl : l.length = n) (hc : n ≤ c) (hA : RdB w w.heap.size A l) :
    Calls Tryz.prog 66 #[.slice A n c] w fun e w' => e = .returned (ofV l) ∧ Below w.heap.size w w' := by
  obtain ⟨N, hN⟩ : ∃ N, min l.length 8 = N := ⟨_, rfl⟩
  have HPN := Lib.hid (pad_take l N hN.symm)
  go_enter Tryz.func66, Tryz.ntmps66
  go_wp2_with fail
  go_loopw [4] (fun iv wr => ∃ k : Nat, k ≤ N ∧ iv = .int .i64 k ∧ QRow wr (w.heap.size + 1) 39 k (pad (l.take k)) ∧ QRow wr w.heap.size 39 0 [0, 0, 0, 0, 0, 0, 0, 0] ∧ Below w.heap.size w wr) (fun iv _ => N - (intOf iv).toNat)
  case atStart => exact ⟨0, by omega, rfl, two_at _ _ _, two_at0 _ _ _, two_below _ _ _⟩
  case round =>
    obtain ⟨k, hk, rfl, hq, hr, hbr⟩ := hrel
    have HBR := Lib.hid hbr
    have HQ := Lib.hid hq
    have HR := Lib.hid hr
    have cn : wr.cell? ⟨w.heap.size + 1, 0, none⟩ = some (.int .i64 k) := row_at hq 0 _ rfl
    clear hbr hq hr
    by_cases hlt : k < N
    · obtain ⟨x, hx⟩ : ∃ x, l[k]? = some x := ⟨_, List.getElem?_eq_getElem (by omega)⟩
      obtain ⟨a, rfl⟩ : ∃ a, A = some a := by
        cases A with
        | none => rw [hA.none_ rfl] at hx; simp at hx
        | some a => exact ⟨a, rfl⟩
      have hcx := (hA.below HBR.out (Nat.le_refl _)).cells a rfl k x hx
      have HX := Lib.hid hx
      have hI := fun g w => run_index_arr g k w (by omega)
      have d1 : (k : Int) < 8 := by omega
      have d2 : (k : Int) < n := by omega
      have hw : IntKind.i64.wrap ((k : Int) + 1) = (k : Int) + 1 := IntWalk.i64_in _ (by omega)
      have HPL : Hid ((pad (l.take k)).length = 8) := Lib.hid (pad_length _)
      have HPX : Hid ((pad (l.take k)).set k x = pad (l.take (k + 1))) := Lib.hid (pad_next l k x hx (by omega))
      clear hx
      go_wp2_with (first
      | ((with_reducible show wpList _ _ _ (⟨none, .store 5 (.tmp 21) (.tmp 19), _, _, _, _⟩ :: _) _ _); refine wpList_store_b rfl 5 _ _ rfl (w.heap.size + 1) (k) (by exact rfl) (x) (by exact rfl) (by kernel_rfl) 39 _ _ (HQ.out) (by have := HPL.out; omega) ?_; intro w3 HQ3 HO3 HB3
         have HR3 : Hid (QRow w3 w.heap.size 39 0 [0, 0, 0, 0, 0, 0, 0, 0]) := Lib.hid ((HO3.out _ (by omega)).trans HR.out)
         have HA3 : Hid (Below w.heap.size w w3) := Lib.hid (HBR.out.trans (HB3.out.mono (by omega)))
         have q3 : w3.cell? ⟨w.heap.size + 1, 0, none⟩ = some (.int .i64 k) := row_at HQ3.out 0 _ rfl
         clear HQ HR HBR HO3 HB3)
      | ((with_reducible show wpList _ _ _ (⟨none, .store 3 (.tmp 25) (.tmp 24), _, _, _, _⟩ :: _) _ _); refine wpList_store_n rfl 3 _ _ rfl (w.heap.size + 1) (by exact rfl) ((k : Int) + 1) (by exact rfl) (by kernel_rfl) 39 _ _ (HQ3.out) ?_; intro w4 HQ4 HO4 HB4
         have HR4 : Hid (QRow w4 w.heap.size 39 0 [0, 0, 0, 0, 0, 0, 0, 0]) := Lib.hid ((HO4.out _ (by omega)).trans HR3.out)
         have HA4 : Hid (Below w.heap.size w w4) := Lib.hid (HA3.out.trans (HB4.out.mono (by omega)))
         clear HQ3 HR3 HA3 HO4 HB4))
      go_roundw
      case rel => exact ⟨k + 1, by omega, by go_num, by have h := HQ4.out; rw [HPX.out] at h; exact h, HR4.out, HA4.out⟩
      case measure =>
        simp [intOf]
        omega
    · obtain rfl : k = N := by omega
      have hv : qv (k : Int) (pad l) = ofV l := by rw [ofV, hN]
      rw [HPN.out] at HQ
      have HP8 := Lib.hid (pad_length l)
      clear hlt
      by_cases d : k < 8
      · have d1 : (k : Int) < 8 := by omega
        have d2 : ¬ (k : Int) < n := by omega
        go_wp2_with (first
      | ((with_reducible show wpList _ _ _ (⟨some 26, .load 39 (.tmp 3), _, _, _, _⟩ :: _) _ _); refine wpList_load_q rfl 39 _ rfl (w.heap.size + 1) (by exact rfl) _ Tryz.underlying39 (by kernel_rfl) 39 _ _ (HQ.out) (HP8.out) ?_)
      | ((with_reducible show wpList _ _ _ (⟨none, .store 39 (.tmp 2) (.tmp 26), _, _, _, _⟩ :: _) _ _); refine wpList_store_q rfl 39 _ _ rfl (w.heap.size) (by exact rfl) _ _ (by exact rfl) (HP8.out) (by kernel_rfl) 39 _ _ (HR.out) (rfl) ?_; intro w4 HN HO4 HB4))
        have hlv := run_loadVar_q (P := Tryz.prog) w4 w.heap.size 39 _ Tryz.underlying39 (by kernel_rfl) _ _ _ HN.out HP8.out
        rw [hv] at hlv
        exact bodyPost_ret (results_q Tryz.results66 _ _ _ _ _ rfl hlv) rfl ⟨rfl, HBR.out.trans HB4.out⟩
      · have d1 : ¬ (k : Int) < 8 := by omega
        go_wp2_with (first
      | ((with_reducible show wpList _ _ _ (⟨some 26, .load 39 (.tmp 3), _, _, _, _⟩ :: _) _ _); refine wpList_load_q rfl 39 _ rfl (w.heap.size + 1) (by exact rfl) _ Tryz.underlying39 (by kernel_rfl) 39 _ _ (HQ.out) (HP8.out) ?_)
      | ((with_reducible show wpList _ _ _ (⟨none, .store 39 (.tmp 2) (.tmp 26), _, _, _, _⟩ :: _) _ _); refine wpList_store_q rfl 39 _ _ rfl (w.heap.size) (by exact rfl) _ _ (by exact rfl) (HP8.out) (by kernel_rfl) 39 _ _ (HR.out) (rfl) ?_; intro w4 HN HO4 HB4))
        have hlv := run_loadVar_q (P := Tryz.prog) w4 w.heap.size 39 _ Tryz.underlying39 (by kernel_rfl) _ _ _ HN.out HP8.out
        rw [hv] at hlv
        exact bodyPost_ret (results_q Tryz.results66 _ _ _ _ _ rfl hlv) rfl ⟨rfl, HBR.out.trans HB4.out⟩
set_option maxRecDepth 100000 in
theorem rMend_any (n : Int) (bs : List Nat) (w : World) (hb : bs.length = 8) (hn : -9223372036854775808 ≤ n) (hn' : n ≤ 9223372036854775807) :
    Calls Tryz.prog 64 #[qv n bs] w fun e w' => e = .returned (ofV (cutL n bs)) ∧ Below w.heap.size w w' := by
  have HM : Hid (∀ W : World, Calls Tryz.prog 65 #[qv n bs] W fun e w' => ∃ v, e = .returned v ∧ Own w' (W.heap.size + 1) v (cutL n bs) ∧ Below W.heap.size W w') := Lib.hid (fun W => rAll_any n bs W hb hn hn')
  have HF : Hid (∀ (W : World) (B : Nat) (v : Value), Own W B v (cutL n bs) → Calls Tryz.prog 66 #[v] W fun e w' => e = .returned (ofV (cutL n bs)) ∧ Below W.heap.size W w') := Lib.hid (fun W B v hv => by
    obtain ⟨A, c, rfl, hc, _, _, hr, _⟩ := hv.form
    exact rOf_any A _ c _ W rfl hc hr)
  obtain ⟨b0, b1, b2, b3, b4, b5, b6, b7, rfl⟩ := eight hb
  have HP8 := Lib.hid (pad_length (cutL n [b0, b1, b2, b3, b4, b5, b6, b7]))
  rw [qv_eq]
  go_enter Tryz.func64, Tryz.ntmps64
  go_wp2_with (first
      | ((with_reducible show wpList _ _ _ (⟨some 3, .load 39 (.tmp 1), _, _, _, _⟩ :: _) _ _); refine wpList_load_q rfl 39 _ rfl (w.heap.size) (by exact rfl) _ Tryz.underlying39 (by kernel_rfl) 39 _ _ (QRow.below (two_at0 _ _ _) (Below.refl (w.heap.size + 1) _) (by omega)) (rfl) ?_)
      | (go_at_call 65; refine (HM.out _).mono ?_; rintro e w1 ⟨v, rfl, hv, hB⟩
         have HR1 : Hid (QRow w1 (w.heap.size + 1) 39 0 [0, 0, 0, 0, 0, 0, 0, 0]) := Lib.hid (QRow.below (two_at _ _ _) hB (by simp))
         have HB1 : Hid (Below w.heap.size w w1) := Lib.hid ((two_below _ _ _).trans (hB.mono (by simp; omega)))
         have HV := Lib.hid hv
         clear hB hv)
      | (go_at_call 66; refine (HF.out _ _ _ HV.out).mono ?_; rintro e w2 ⟨rfl, hB⟩
         have HR2 : Hid (QRow w2 (w.heap.size + 1) 39 0 [0, 0, 0, 0, 0, 0, 0, 0]) := Lib.hid (QRow.below HR1.out hB HR1.out.lt)
         have HB2 : Hid (Below w.heap.size w w2) := Lib.hid (HB1.out.trans (hB.mono HB1.out.size))
         clear hB HB1 HR1 HV)
      | ((with_reducible show wpList _ _ _ (⟨none, .store 39 (.tmp 2) (.tmp 5), _, _, _, _⟩ :: _) _ _); refine wpList_store_q rfl 39 _ _ rfl (w.heap.size + 1) (by exact rfl) _ _ (by exact rfl) (HP8.out) (by kernel_rfl) 39 _ _ (HR2.out) (rfl) ?_; intro w4 HN HO4 HB4))
  have hlv := run_loadVar_q (P := Tryz.prog) w4 (w.heap.size + 1) 39 _ Tryz.underlying39 (by kernel_rfl) _ _ _ HN.out HP8.out
  exact bodyPost_ret (v := ofV _) (results_q Tryz.results64 _ _ _ _ _ rfl hlv) rfl ⟨rfl, HB2.out.trans (HB4.out.mono (by omega))⟩
end Go.Proofs.YtkodoldkfeopdaaGreat.Ua
/- Rpush -/
namespace Go.Proofs.YtkodoldkfeopdaaGreat.Ua
open Go.RowKit
set_option linter.unusedVariables false
set_option maxRecDepth 100000
theorem rOf_own (W : World) (B : Nat) (v : Value) (l : List Nat) (h : Own W B v l) : Calls Tryz.prog 66 #[v] W fun e w' => e = .returned (ofV l) ∧ Below W.heap.size W w' := by
  obtain ⟨A, c, rfl, hc, _, _, hr, _⟩ := h.form
  exact rOf_any A _ c _ W rfl hc hr
/-- Where a slice lies without its first element. -/
def cutA (g cap : Nat) : Option Addr := if cap = 1 then some ⟨g, 0, none⟩ else some ⟨g, 1, none⟩
theorem run_cut1 (g k cap : Nat) (hc : k + 1 ≤ cap) (W : World) : (Instr.sliceAt 131 (.slice (some ⟨g, 0, none⟩) (k + 1) cap) (some (.int .i64 1)) none none).run Tryz.prog W = .ok (.slice (cutA g cap) k (cap - 1)) W := by
  obtain ⟨i0, hi0, -, hz1, -⟩ := info_parts u8info
  have hsz : (sizeOf 5).run Tryz.prog W = .ok 1 W := by simp [sizeOf, typeInfo, hi0, hz1]
  have he : Tryz.prog.elem 131 = 5 := by kernel_rfl
  rw [run_sliceAt_slice W _ _ _ _ _ (by rw [he]; exact Tryz.underlying131), run_slice_l W _ _ _ _ (by rw [he]; exact Tryz.underlying131) _ _ (by omega) (by omega), he, hsz]
  simp only [Result.andThen_ok, sliced, cutA]
  have h1 : ((1 : Int).toNat) = 1 := rfl
  rw [h1]
  by_cases h : cap = 1
  · simp [h]
  · simp [h]
    unfold Addr.add
    split <;> simp_all
theorem rdb_cut {W : World} {g k cap B : Nat} {x : Nat} {r : List Nat} (h : RdB W B (some ⟨g, 0, none⟩) (x :: r)) (hk : r.length = k) (hc : k + 1 ≤ cap) : RdB W B (cutA g cap) r := by
  unfold cutA
  by_cases h1 : cap = 1
  · have : r = [] := List.eq_nil_of_length_eq_zero (by omega)
    subst this
    rw [if_pos h1]
    exact RdB.some_nil _ _ _
  · rw [if_neg h1]
    refine ⟨fun h => (by cases h), fun a ha _ => (by have h2 := h.low ⟨g, 0, none⟩ rfl (by simp); cases ha; exact h2), fun a ha j y hy => ?_⟩
    cases ha
    have e : (⟨g, 1, none⟩ : Addr).add j = (⟨g, 0, none⟩ : Addr).add (j + 1) := by
      unfold Addr.add
      split <;> split <;> simp_all <;> omega
    rw [e]
    exact h.cells _ rfl (j + 1) y hy
set_option maxRecDepth 100000 in
theorem rPush_any (n : Int) (bs : List Nat) (b : Nat) (w : World) (hb : bs.length = 8) (hn : -9223372036854775808 ≤ n) (hn' : n ≤ 9223372036854775807) :
    Calls Tryz.prog 41 #[qv n bs, .int .u8 b] w fun e w' => e = .returned (pushV (cutL n bs) b) ∧ Below w.heap.size w w' := by
  have hle := cutL_le n bs hb
  obtain ⟨L, hL⟩ : ∃ L, cutL n bs = L := ⟨_, rfl⟩
  rw [hL] at hle ⊢
  have HM : Hid (∀ W : World, Calls Tryz.prog 65 #[qv n bs] W fun e w' => ∃ v, e = .returned v ∧ Own w' (W.heap.size + 1) v L ∧ Below W.heap.size W w') := Lib.hid (fun W => by rw [← hL]; exact rAll_any n bs W hb hn hn')
  clear hL
  obtain ⟨i0, hi0, hz0, hz1, hz2⟩ := info_parts u8info
  have H9 := Lib.hid hz0
  have H10 := Lib.hid hz1
  have H11 := Lib.hid hz2
  have H12 := Lib.hid hi0
  clear hz0 hz1 hz2 hi0
  obtain ⟨b0, b1, b2, b3, b4, b5, b6, b7, rfl⟩ := eight hb
  rw [qv_eq]
  obtain ⟨m, hm⟩ : ∃ m, L.length = m := ⟨_, rfl⟩
  have HM2 := Lib.hid hm
  rcases Nat.lt_or_ge m 8 with h8 | h8
  · have hm8 : ¬ (m : Int) = 8 := by omega
    go_enter Tryz.func41, Tryz.ntmps41
    go_wp2_with (first
      | (go_at_call 65; refine (HM.out _).mono ?_; rintro e w1 ⟨v, rfl, hv, hB⟩
         have HR1 : Hid (QRow w1 (w.heap.size + 1) 39 0 [0, 0, 0, 0, 0, 0, 0, 0]) := Lib.hid (QRow.below (two_at _ _ _) hB (by simp))
         have HB1 : Hid (Below w.heap.size w w1) := Lib.hid ((two_below _ _ _).trans (hB.mono (by simp; omega)))
         have HV : Hid (Own w1 (w.heap.size + 2) v L) := Lib.hid (hv.mono (by simp))
         obtain ⟨A, c, rfl⟩ := own_form hv
         clear hB hv
         rw [HM2.out] at HV ⊢)
      | ((with_reducible show wpList _ _ _ (⟨some 7, .load 39 (.tmp 2), _, _, _, _⟩ :: _) _ _); refine wpList_load_q rfl 39 _ rfl (w.heap.size) (by exact rfl) _ Tryz.underlying39 (by kernel_rfl) 39 _ _ (QRow.below (two_at0 _ _ _) (Below.refl (w.heap.size + 1) _) (by omega)) (rfl) ?_)
      | (go_at_call 66; refine (rOf_own _ _ _ (L ++ [b]) HV.out).mono ?_; rintro e w2 ⟨rfl, hB⟩
         have HR2 : Hid (QRow w2 (w.heap.size + 1) 39 0 [0, 0, 0, 0, 0, 0, 0, 0]) := Lib.hid (QRow.below HR1.out hB HR1.out.lt)
         have HB2 : Hid (Below w.heap.size w w2) := Lib.hid (HB1.out.trans (hB.mono HB1.out.size))
         clear hB HB1 HR1 HV)
      | (at_builtin; go_must (refine wpList_append_blk _ rfl (.tmp 14) (.tmp 16) 131 rfl (w.heap.size + 2) 5 i0 (.int .u8 0) 1 1 Tryz.underlying131 H12.out H9.out H10.out H11.out rfl (by decide) (.slice A m c) m (bvals L) rfl (own_ne (by have h := HV.out; unfold Own at h; rw [HM2.out] at h; exact h) (gb_alloc _ none _) (by simp)) ⟨_, 0, none⟩ 1 1 [.int .u8 (b : Int)] rfl rfl (new_one _ _ _ _ rfl) (by simp [Value.oneCell']) (by simp only [maxLen]; omega) (by omega) (by have := HR1.out.lt; simp; omega) ?_; intro v3 w3 hown3 hg3 hb3; have HR3 : Hid (QRow w3 (w.heap.size + 1) 39 0 [0, 0, 0, 0, 0, 0, 0, 0]) := Lib.hid ((hg3.block _ (by have := HR1.out.lt; simp; omega) (fun e => by have := HV.out.lt _ e.symm; omega)).trans (QRow.below HR1.out ((Below.refl _ _).alloc (Nat.le_refl _) _) HR1.out.lt)); have HB3 : Hid (Below w.heap.size w w3) := Lib.hid (below_gb (HB1.out.alloc HB1.out.size _) hg3 (by have := HB1.out.size; simp; omega) (fun b hb => by have := (HV.out.lt b hb).1; omega)); have HV3 : Hid (Own w3 (w.heap.size + 2) v3 (L ++ [b])) := Lib.hid (by unfold Own; rw [List.length_append, HM2.out, ← bvals_append]; exact hown3); clear hown3 hg3 hb3 HV HB1 HR1; have HV := HV3; have HB1 := HB3; have HR1 := HR3; clear HV3 HB3 HR3))
      | ((with_reducible show wpList _ _ _ (⟨none, .store 39 (.tmp 4) (.tmp 18), _, _, _, _⟩ :: _) _ _); refine wpList_store_q rfl 39 _ _ rfl (w.heap.size + 1) (by exact rfl) _ _ (by exact rfl) (pad_length _) (by kernel_rfl) 39 _ _ (HR2.out) (rfl) ?_; intro w4 HN HO4 HB4))
    have hlv := run_loadVar_q (P := Tryz.prog) w4 (w.heap.size + 1) 39 _ Tryz.underlying39 (by kernel_rfl) _ _ _ HN.out (pad_length _)
    rw [pushV_room (by omega)]
    exact bodyPost_ret (v := .tuple #[ofV (L ++ [b]), .bool true]) (results_qb Tryz.results41 _ _ _ _ _ _ rfl hlv rfl) rfl ⟨rfl, HB2.out.trans (HB4.out.mono (by omega))⟩
  · obtain rfl : m = 8 := by omega
    go_enter Tryz.func41, Tryz.ntmps41
    go_wp2_with (first
      | (go_at_call 65; refine (HM.out _).mono ?_; rintro e w1 ⟨v, rfl, hv, hB⟩
         have HR1 : Hid (QRow w1 (w.heap.size + 1) 39 0 [0, 0, 0, 0, 0, 0, 0, 0]) := Lib.hid (QRow.below (two_at _ _ _) hB (by simp))
         have HB1 : Hid (Below w.heap.size w w1) := Lib.hid ((two_below _ _ _).trans (hB.mono (by simp; omega)))
         have HV : Hid (Own w1 (w.heap.size + 2) v L) := Lib.hid (hv.mono (by simp))
         obtain ⟨A, c, rfl⟩ := own_form hv
         clear hB hv
         rw [HM2.out] at HV ⊢)
      | ((with_reducible show wpList _ _ _ (⟨some 7, .load 39 (.tmp 2), _, _, _, _⟩ :: _) _ _); refine wpList_load_q rfl 39 _ rfl (w.heap.size) (by exact rfl) _ Tryz.underlying39 (by kernel_rfl) 39 _ _ (QRow.below (two_at0 _ _ _) (Below.refl (w.heap.size + 1) _) (by omega)) (rfl) ?_)
      | (go_at_call 66; refine (rOf_own _ _ _ (L) HV.out).mono ?_; rintro e w2 ⟨rfl, hB⟩
         have HR2 : Hid (QRow w2 (w.heap.size + 1) 39 0 [0, 0, 0, 0, 0, 0, 0, 0]) := Lib.hid (QRow.below HR1.out hB HR1.out.lt)
         have HB2 : Hid (Below w.heap.size w w2) := Lib.hid (HB1.out.trans (hB.mono HB1.out.size))
         clear hB HB1 HR1 HV)
      | ((with_reducible show wpList _ _ _ (⟨none, .store 39 (.tmp 4) (.tmp 13), _, _, _, _⟩ :: _) _ _); refine wpList_store_q rfl 39 _ _ rfl (w.heap.size + 1) (by exact rfl) _ _ (by exact rfl) (pad_length _) (by kernel_rfl) 39 _ _ (HR2.out) (rfl) ?_; intro w4 HN HO4 HB4))
    have hlv := run_loadVar_q (P := Tryz.prog) w4 (w.heap.size + 1) 39 _ Tryz.underlying39 (by kernel_rfl) _ _ _ HN.out (pad_length _)
    rw [pushV_full hm]
    exact bodyPost_ret (v := .tuple #[ofV L, .bool false]) (results_qb Tryz.results41 _ _ _ _ _ _ rfl hlv rfl) rfl ⟨rfl, HB2.out.trans (HB4.out.mono (by omega))⟩
end Go.Proofs.YtkodoldkfeopdaaGreat.Ua
/- Rpop -/
namespace Go.Proofs.YtkodoldkfeopdaaGreat.Ua
open Go.RowKit
set_option linter.unusedVariables false
set_option maxRecDepth 100000
set_option maxRecDepth 100000 in
theorem rPop_any (n : Int) (bs : List Nat) (w : World) (hb : bs.length = 8) (hn : -9223372036854775808 ≤ n) (hn' : n ≤ 9223372036854775807) :
    Calls Tryz.prog 48 #[qv n bs] w fun e w' => e = .returned (popV (cutL n bs)) ∧ Below w.heap.size w w' := by
  have hle := cutL_le n bs hb
  obtain ⟨L, hL⟩ : ∃ L, cutL n bs = L := ⟨_, rfl⟩
  rw [hL] at hle ⊢
  have HM : Hid (∀ W : World, Calls Tryz.prog 65 #[qv n bs] W fun e w' => ∃ v, e = .returned v ∧ Own w' (W.heap.size + 1) v L ∧ Below W.heap.size W w') := Lib.hid (fun W => by rw [← hL]; exact rAll_any n bs W hb hn hn')
  clear hL
  obtain ⟨b0, b1, b2, b3, b4, b5, b6, b7, rfl⟩ := eight hb
  rw [qv_eq]
  rcases L with _ | ⟨x, r⟩
  · go_enter Tryz.func48, Tryz.ntmps48
    go_wp2_with (first
      | (go_at_call 65; refine (HM.out _).mono ?_; rintro e w1 ⟨v, rfl, hv, hB⟩
         have HR1 : Hid (QRow w1 (w.heap.size + 1) 39 0 [0, 0, 0, 0, 0, 0, 0, 0]) := Lib.hid (QRow.below (two_at _ _ _) hB (by simp))
         have HB1 : Hid (Below w.heap.size w w1) := Lib.hid ((two_below _ _ _).trans (hB.mono (by simp; omega)))
         obtain ⟨A, c, rfl⟩ := own_form hv
         clear hB hv)
      | ((with_reducible show wpList _ _ _ (⟨some 6, .load 39 (.tmp 1), _, _, _, _⟩ :: _) _ _); refine wpList_load_q rfl 39 _ rfl (w.heap.size) (by exact rfl) _ Tryz.underlying39 (by kernel_rfl) 39 _ _ (QRow.below (two_at0 _ _ _) (Below.refl (w.heap.size + 1) _) (by omega)) (rfl) ?_)
      | ((with_reducible show wpList _ _ _ (⟨none, .store 39 (.tmp 3) (.tmp 11), _, _, _, _⟩ :: _) _ _); refine wpList_store_q rfl 39 _ _ rfl (w.heap.size + 1) (by exact rfl) 0 [0, 0, 0, 0, 0, 0, 0, 0] (by exact rfl) rfl (by kernel_rfl) 39 _ _ (HR1.out) rfl ?_; intro w4 HN HO4 HB4))
    have hlv := run_loadVar_q (P := Tryz.prog) w4 (w.heap.size + 1) 39 _ Tryz.underlying39 (by kernel_rfl) _ _ _ HN.out rfl
    exact bodyPost_ret (v := .tuple #[.int .u8 0, ofV [], .bool false]) (results_bqb Tryz.results48 _ _ _ _ _ _ _ rfl hlv rfl rfl) rfl ⟨rfl, HB1.out.trans (HB4.out.mono (by omega))⟩
  · obtain ⟨k, hk⟩ : ∃ k, r.length = k := ⟨_, rfl⟩
    have HK := Lib.hid hk
    have hle8 : k ≤ 7 := by simp at hle; omega
    have hne : ¬ ((k : Int) + 1 = 0) := by omega
    have hpos : (0 : Int) < (k : Int) + 1 := by omega
    go_enter Tryz.func48, Tryz.ntmps48
    go_wp2_with (first
      | (go_at_call 65; refine (HM.out _).mono ?_; rintro e w1 ⟨v, rfl, hv, hB⟩
         have HR1 : Hid (QRow w1 (w.heap.size + 1) 39 0 [0, 0, 0, 0, 0, 0, 0, 0]) := Lib.hid (QRow.below (two_at _ _ _) hB (by simp))
         have HB1 : Hid (Below w.heap.size w w1) := Lib.hid ((two_below _ _ _).trans (hB.mono (by simp; omega)))
         have HV : Hid (Own w1 (w.heap.size + 2) v (x :: r)) := Lib.hid (hv.mono (by simp))
         have hcs : w1.ownsRow (w.heap.size + 2) 5 1 v (k + 1) (bvals (x :: r)) := by rw [← HK.out]; exact HV.out
         obtain ⟨g, cap, rfl⟩ := own_succ hcs
         clear hcs
         clear hB hv)
      | ((with_reducible show wpList _ _ _ (⟨some 6, .load 39 (.tmp 1), _, _, _, _⟩ :: _) _ _); refine wpList_load_q rfl 39 _ rfl (w.heap.size) (by exact rfl) _ Tryz.underlying39 (by kernel_rfl) 39 _ _ (QRow.below (two_at0 _ _ _) (Below.refl (w.heap.size + 1) _) (by omega)) (rfl) ?_))
    obtain ⟨A', cap', he, hcap, -, -, hrd, -⟩ := HV.out.form
    injection he with e1 e2 e3
    subst e1
    subst e3
    rw [List.length_cons, hk] at hcap
    have hg := hrd.low _ rfl (by simp)
    have hg2 := (HV.out.lt g rfl).1
    have hc0 : w1.cell? ⟨g, 0, none⟩ = some (.int .u8 (x : Int)) := by
      have h := hrd.cells _ rfl 0 x rfl
      simpa [Addr.add] using h
    have hS := fun W => run_cut1 g k cap hcap W
    have HF : Hid (∀ (W : World), Below w1.heap.size w1 W → Calls Tryz.prog 66 #[.slice (cutA g cap) k (cap - 1)] W fun e w' => e = .returned (ofV r) ∧ Below W.heap.size W w') := Lib.hid (fun W hW => rOf_any _ k _ r W hk (by omega) ((rdb_cut (hrd.below hW (Nat.le_refl _)) hk hcap).more hW.size))
    clear hrd HV e2 hk HK HM hle hcap
    obtain ⟨Y, hY⟩ : ∃ Y, cutA g cap = Y := ⟨_, rfl⟩
    rw [hY] at hS HF
    clear hY
    refine wp_region_noPanic ?_
    refine wp_region_held_drew (S := fun X => X.cell? ⟨g, 0, none⟩ = some (.int .u8 (x : Int))) (by kernel_rfl) (hc0) (fun hHeld => ?_)
    refine' take_ 0 rfl (by kernel_rfl) (by kernel_rfl) (by kernel_rfl) (fun _ _ _ h => h) (by rfl) (fun wS hSw => ?_) hHeld ?_
    rotate_left
    focus (go_simp; (try with_reducible rfl); done)
    try simp only [Act.put, List.setIfInBounds_toArray, List.set_cons_zero, List.set_cons_succ]
    refine' take_ 1 rfl (by kernel_rfl) (by kernel_rfl) (by kernel_rfl) (fun _ _ _ h => h) (by rfl) (fun wS hSw => ?_) hHeld ?_
    rotate_left
    focus (go_simp; (try with_reducible rfl); done)
    try simp only [Act.put, List.setIfInBounds_toArray, List.set_cons_zero, List.set_cons_succ]
    refine' take_ 2 rfl (by kernel_rfl) (by kernel_rfl) (by kernel_rfl) (fun _ _ _ h => h) (by rfl) (fun wS hSw => ?_) hHeld ?_
    rotate_left
    focus (have s0 : wS.cell? ⟨g, 0, none⟩ = some (.int .u8 (x : Int)) := hSw; go_simp; (try with_reducible rfl); done)
    try simp only [Act.put, List.setIfInBounds_toArray, List.set_cons_zero, List.set_cons_succ]
    refine' take_ 3 rfl (by kernel_rfl) (by kernel_rfl) (by kernel_rfl) (fun _ _ _ h => h) (by rfl) (fun wS hSw => ?_) hHeld ?_
    rotate_left
    focus (go_simp; (try with_reducible rfl); done)
    try simp only [Act.put, List.setIfInBounds_toArray, List.set_cons_zero, List.set_cons_succ]
    refine' take_ 4 rfl (by kernel_rfl) (by kernel_rfl) (by kernel_rfl) (fun _ _ _ h => h) (by rfl) (fun wS hSw => ?_) hHeld ?_
    rotate_left
    focus (go_simp; (try with_reducible rfl); done)
    try simp only [Act.put, List.setIfInBounds_toArray, List.set_cons_zero, List.set_cons_succ]
    refine only_ 5 rfl (by kernel_rfl) (by rfl) (fun K hK => ?_)
    go_simp
    refine (HF.out _ (Below.refl _ w1).drew).mono ?_
    rintro e w2 ⟨rfl, hB⟩
    have HR3 : Hid (QRow w2 (w.heap.size + 1) 39 0 [0, 0, 0, 0, 0, 0, 0, 0]) := Lib.hid (QRow.below (w := w1.drew) HR1.out hB HR1.out.lt)
    have HA3 : Hid (Below w.heap.size w w2) := Lib.hid (HB1.out.drew.trans (hB.mono HB1.out.size))
    have hH1 : w2.cell? ⟨g, 0, none⟩ = some (.int .u8 (x : Int)) := (hB.cell (p := ⟨g, 0, none⟩) hg).trans hc0
    clear hB
    go_simp
    refine hK.out _ _ (hH1) (fun hHeld2 => ?_)
    clear hK K hHeld
    have hHeld := hHeld2
    clear hHeld2
    try simp only [Act.put, List.setIfInBounds_toArray, List.set_cons_zero, List.set_cons_succ]
    refine' take_ 6 rfl (by kernel_rfl) (by kernel_rfl) (by kernel_rfl) (fun _ _ _ h => h) (by rfl) (fun wS hSw => ?_) hHeld ?_
    rotate_left
    focus (go_simp; (try with_reducible rfl); done)
    try simp only [Act.put, List.setIfInBounds_toArray, List.set_cons_zero, List.set_cons_succ]
    refine only_ 7 rfl (by kernel_rfl) (by rfl) (fun K hK => ?_)
    refine wp_store_q 39 _ _ rfl (w.heap.size + 1) rfl _ _ rfl (pad_length _) (by kernel_rfl) 39 _ _ (show QRow _ _ _ 0 [0, 0, 0, 0, 0, 0, 0, 0] from HR3.out) rfl ?_
    intro w3 HN HO3 HB3
    refine hK.out _ _ ((World.cell?_of_block (w := w2) (a := ⟨g, 0, none⟩) (HO3.out g (by omega))).trans hHeld) (fun hHeld2 => ?_)
    clear hK K hHeld
    have hHeld := hHeld2
    clear hHeld2
    try simp only [Act.put]
    refine' take_ 8 rfl (by kernel_rfl) (by kernel_rfl) (by kernel_rfl) (fun _ _ _ h => h) (by rfl) (fun wS hSw => ?_) hHeld ?_
    rotate_left
    focus (go_simp; (try with_reducible rfl); done)
    try simp only [Act.put, List.setIfInBounds_toArray, List.set_cons_zero, List.set_cons_succ]
    refine wpAnyH_done (by kernel_rfl) ?_ _
    refine NoPanic.normal ?_
    go_wp2
    have hlv := run_loadVar_q (P := Tryz.prog) w3 (w.heap.size + 1) 39 _ Tryz.underlying39 (by kernel_rfl) _ _ _ HN.out (pad_length _)
    exact bodyPost_ret (v := .tuple #[.int .u8 (x : Int), ofV r, .bool true]) (results_bqb Tryz.results48 _ _ _ _ _ _ _ rfl hlv rfl rfl) rfl ⟨rfl, HA3.out.trans (HB3.out.mono (by omega))⟩
end Go.Proofs.YtkodoldkfeopdaaGreat.Ua
/- U -/
namespace Go.Proofs.YtkodoldkfeopdaaGreat.Ua
open Go.RowKit
set_option linter.unusedVariables false
set_option maxRecDepth 100000
/-- Its cells. -/
def uc (n : Int) (bs : List Nat) (m : Int) (cs : List Nat) (l : Bool) (c k : Nat) : List Value := (.int .i64 n :: bvals bs) ++ ((.int .i64 m :: bvals cs) ++ [.bool l, .int .u8 (c : Int), .int .u8 (k : Int)])
def uv (n : Int) (bs : List Nat) (m : Int) (cs : List Nat) (l : Bool) (c k : Nat) : Value := .agg (uc n bs m cs l c k).toArray
theorem bv8 {bs : List Nat} (h : bs.length = 8) : (bvals bs).length = 8 := by rw [bvals_length, h]
theorem uc_length {n : Int} {bs : List Nat} {m : Int} {cs : List Nat} {l : Bool} {c k : Nat} (hb : bs.length = 8) (hc : cs.length = 8) : (uc n bs m cs l c k).length = 21 := by simp [uc, bv8 hb, bv8 hc]
theorem uc_one (n : Int) (bs : List Nat) (m : Int) (cs : List Nat) (l : Bool) (c k : Nat) : ∀ u ∈ uc n bs m cs l c k, u.oneCell' = true := by
  intro u hu
  simp only [uc, List.mem_append, List.mem_cons, List.not_mem_nil, or_false] at hu
  rcases hu with (rfl | hu) | (rfl | hu) | rfl | rfl | rfl
  · rfl
  · exact bvals_one _ u hu
  · rfl
  · exact bvals_one _ u hu
  · rfl
  · rfl
  · rfl
theorem qc_one (n : Int) (bs : List Nat) : ∀ u ∈ (.int .i64 n :: bvals bs : List Value), u.oneCell' = true := by
  intro u hu
  rcases List.mem_cons.1 hu with rfl | hu
  · rfl
  · exact bvals_one _ u hu
/-- Block g holds a uart. -/
structure URow (w : World) (g : Nat) (t : TypeId) (n : Int) (bs : List Nat) (m : Int) (cs : List Nat) (l : Bool) (c k : Nat) : Prop where
  v : VRow w g t (uc n bs m cs l c k)
  hb : bs.length = 8
  hc : cs.length = 8
section
variable {w w' : World} {g : Nat} {t : TypeId} {n : Int} {bs : List Nat} {m : Int} {cs : List Nat} {l : Bool} {c k : Nat}
theorem URow.below {B : Nat} (h : URow w g t n bs m cs l c k) (hb : Below B w w') (hg : g < B) : URow w' g t n bs m cs l c k := ⟨h.v.below hb hg, h.hb, h.hc⟩
theorem URow.lt (h : URow w g t n bs m cs l c k) : g < w.heap.size := h.v.lt
theorem URow.other (h : URow w g t n bs m cs l c k) {r : Nat} (ho : ∀ j, j ≠ r → w'.heap[j]? = w.heap[j]?) (hr : g ≠ r) : URow w' g t n bs m cs l c k := ⟨(ho g hr).trans h.v, h.hb, h.hc⟩
theorem URow.n0 (h : URow w g t n bs m cs l c k) : w.cell? ⟨g, 0, none⟩ = some (.int .i64 n) := h.v.cell 0 _ rfl
theorem uc_m (hb : bs.length = 8) : (uc n bs m cs l c k)[9]? = some (.int .i64 m) := by
  unfold uc
  rw [List.getElem?_append_right (by simp [bv8 hb])]
  simp [bv8 hb]
theorem uc_tail (hb : bs.length = 8) (hc : cs.length = 8) (j : Nat) : (uc n bs m cs l c k)[18 + j]? = [.bool l, .int .u8 (c : Int), .int .u8 (k : Int)][j]? := by
  unfold uc
  rw [List.getElem?_append_right (by simp [bv8 hb]; omega), List.getElem?_append_right (by simp [bv8 hb, bv8 hc]; omega)]
  congr 1
  simp [bv8 hb, bv8 hc]
  omega
theorem URow.n9 (h : URow w g t n bs m cs l c k) : w.cell? ⟨g, 9, none⟩ = some (.int .i64 m) := h.v.cell 9 _ (uc_m h.hb)
theorem URow.c18 (h : URow w g t n bs m cs l c k) : w.cell? ⟨g, 18, none⟩ = some (.bool l) := h.v.cell 18 _ (uc_tail h.hb h.hc 0)
theorem URow.c19 (h : URow w g t n bs m cs l c k) : w.cell? ⟨g, 19, none⟩ = some (.int .u8 (c : Int)) := h.v.cell 19 _ (uc_tail h.hb h.hc 1)
theorem URow.c20 (h : URow w g t n bs m cs l c k) : w.cell? ⟨g, 20, none⟩ = some (.int .u8 (k : Int)) := h.v.cell 20 _ (uc_tail h.hb h.hc 2)
theorem URow.b1 (h : URow w g t n bs m cs l c k) (j x : Nat) (hx : bs[j]? = some x) : w.cell? ⟨g, 1 + j, none⟩ = some (.int .u8 (x : Int)) := by
  refine h.v.cell (1 + j) _ ?_
  have hj : j < 8 := by
    have := (List.getElem?_eq_some_iff.1 hx).1
    rw [h.hb] at this
    exact this
  unfold uc
  rw [List.getElem?_append_left (by simp [bv8 h.hb]; omega), Nat.add_comm 1 j]
  simp [bvals, hx]
theorem URow.rx (h : URow w g t n bs m cs l c k) : CellsAt w g 0 (.int .i64 n :: bvals bs) := fun j v hj => by
  rw [Nat.zero_add]
  refine h.v.cell j v ?_
  unfold uc
  rw [List.getElem?_append_left ((List.getElem?_eq_some_iff.1 hj).1)]
  exact hj
theorem URow.tx (h : URow w g t n bs m cs l c k) : CellsAt w g 9 (.int .i64 m :: bvals cs) := fun j v hj => by
  refine h.v.cell (9 + j) v ?_
  unfold uc
  rw [List.getElem?_append_right (by simp [bv8 h.hb]), List.getElem?_append_left (by have := (List.getElem?_eq_some_iff.1 hj).1; simp [bv8 h.hb] at this ⊢; omega), ← hj]
  congr 1
  simp [bv8 h.hb]
theorem URow.al (w : World) (hb : bs.length = 8) (hc : cs.length = 8) (t : TypeId) : URow (w.alloc (.cells (uc n bs m cs l c k).toArray t)) w.heap.size t n bs m cs l c k := ⟨alloc_at w _, hb, hc⟩
end
abbrev Z8 : List Nat := [0, 0, 0, 0, 0, 0, 0, 0]
/-! ### loads -/
section
variable {P : Program} {w : World} {g : Nat} {t : TypeId} {n : Int} {bs : List Nat} {m : Int} {cs : List Nat} {l : Bool} {c k : Nat}
theorem run_loadVar_u (w : World) (g : Nat) (ty : TypeId) (fs : Array Field) (hu : P.underlying ty = some (.struct fs)) (hi : (P.info? ty).map (·.size) = some 21) (t : TypeId) (hr : URow w g t n bs m cs l c k) :
    (loadVar ty ⟨g, 0, none⟩).run P w = .ok (uv n bs m cs l c k) w :=
  run_loadVar_v w g ty fs hu t _ hr.v (by rw [hi, uc_length hr.hb hr.hc])
theorem run_load_u {a : Act} (w : World) (ty : TypeId) (x : Operand) (g : Nat) (hx : a.eval x = .pointer (some ⟨g, 0, none⟩)) (fs : Array Field) (hu : P.underlying ty = some (.struct fs)) (hi : (P.info? ty).map (·.size) = some 21) (t : TypeId) (hr : URow w g t n bs m cs l c k)
    (dst : Option Tmp) (type : TypeId) (pos : String) (after : Array Edge) (guard : Option (Nat × Bool)) : (execOp a.eval ⟨dst, .load ty x, type, pos, after, guard⟩).run P w = .ok (.value (uv n bs m cs l c k)) w :=
  run_load_v w ty x g hx fs hu t _ hr.v (by rw [hi, uc_length hr.hb hr.hc]) dst type pos after guard
theorem wpList_load_u {ops : Array Oper} {rest : List Oper} {o : Oper} {a : Act} {Q : Exit → Act → World → Prop} (hw : Region.wanted o (yielded ops a.tmps) = true) (ty : TypeId) (x : Operand) (ho : o.op = .load ty x) (g : Nat) (hx : a.eval x = .pointer (some ⟨g, 0, none⟩))
    (fs : Array Field) (hu : P.underlying ty = some (.struct fs)) (hi : (P.info? ty).map (·.size) = some 21) (t : TypeId) (hr : URow w g t n bs m cs l c k)
    (h : wpList P ops Q rest (a.put o.dst (uv n bs m cs l c k)) w) : wpList P ops Q (o :: rest) a w :=
  wpList_load_v hw ty x ho g hx fs hu t _ hr.v (by rw [hi, uc_length hr.hb hr.hc]) h
/-- One of the queues is loaded. -/
theorem run_load_q9 {a : Act} (w : World) (ty : TypeId) (x : Operand) (g off : Nat) (hx : a.eval x = .pointer (some ⟨g, off, none⟩)) (fs : Array Field) (hu : P.underlying ty = some (.struct fs)) (hi : (P.info? ty).map (·.size) = some 9) (hr : CellsAt w g off (.int .i64 n :: bvals bs)) (hb : bs.length = 8)
    (dst : Option Tmp) (type : TypeId) (pos : String) (after : Array Edge) (guard : Option (Nat × Bool)) : (execOp a.eval ⟨dst, .load ty x, type, pos, after, guard⟩).run P w = .ok (.value (qv n bs)) w :=
  run_load_at w ty x g off hx _ _ hr hu rfl (by rw [hi]; simp [bv8 hb]) dst type pos after guard
theorem wpList_load_q9 {ops : Array Oper} {rest : List Oper} {o : Oper} {a : Act} {Q : Exit → Act → World → Prop} (hgd : o.guard = none) (ty : TypeId) (x : Operand) (ho : o.op = .load ty x) (g off : Nat) (hx : a.eval x = .pointer (some ⟨g, off, none⟩))
    (fs : Array Field) (hu : P.underlying ty = some (.struct fs)) (hi : (P.info? ty).map (·.size) = some 9) (hr : CellsAt w g off (.int .i64 n :: bvals bs)) (hb : bs.length = 8)
    (h : wpList P ops Q rest (a.put o.dst (qv n bs)) w) : wpList P ops Q (o :: rest) a w :=
  wpList_load_at hgd ty x ho g off hx _ _ hr hu rfl (by rw [hi]; simp [bv8 hb]) h
end
/-! ### stores -/
section
variable {P : Program} {w : World} {g : Nat} {t : TypeId} {n : Int} {bs : List Nat} {m : Int} {cs : List Nat} {l : Bool} {c k : Nat} {n' : Int} {bs' : List Nat} {m' : Int} {cs' : List Nat} {l' : Bool} {c' k' : Nat}
theorem URow.set (h : URow w g t n bs m cs l c k) (n' : Int) (bs' : List Nat) (m' : Int) (cs' : List Nat) (l' : Bool) (c' k' : Nat) (hb : bs'.length = 8) (hc : cs'.length = 8) : URow (w.setRow g (uc n' bs' m' cs' l' c' k').toArray) g t n' bs' m' cs' l' c' k' := ⟨h.v.set _, hb, hc⟩
theorem wpList_store_u {ops : Array Oper} {rest : List Oper} {o : Oper} {a : Act} {Q : Exit → Act → World → Prop} (hgd : o.guard = none) (ty : TypeId) (x v : Operand) (ho : o.op = .store ty x v) (g : Nat) (hx : a.eval x = .pointer (some ⟨g, 0, none⟩))
    (hv : a.eval v = uv n' bs' m' cs' l' c' k') (hb : bs'.length = 8) (hc : cs'.length = 8) (hi : (P.info? ty).map (·.size) = some 21) (t : TypeId) (hr : URow w g t n bs m cs l c k)
    (h : ∀ W, Hid (URow W g t n' bs' m' cs' l' c' k') → Hid (∀ k, k ≠ g → W.heap[k]? = w.heap[k]?) → Hid (Below g w W) → wpList P ops Q rest (a.put o.dst undef) W) : wpList P ops Q (o :: rest) a w :=
  wpList_store_v hgd ty x v ho g hx _ hv (by rw [hi, uc_length hb hc]) (uc_one _ _ _ _ _ _ _) t _ hr.v (by rw [uc_length hr.hb hr.hc, uc_length hb hc]) (fun W HN HO HB => h W (Lib.hid ⟨HN.out, hb, hc⟩) HO HB)
theorem wp_store_u {o : Oper} {a : Act} {K : Act → World → Prop} {Q : Exit → Act → World → Prop} (ty : TypeId) (x v : Operand) (ho : o.op = .store ty x v) (g : Nat) (hx : a.eval x = .pointer (some ⟨g, 0, none⟩))
    (hv : a.eval v = uv n' bs' m' cs' l' c' k') (hb : bs'.length = 8) (hc : cs'.length = 8) (hi : (P.info? ty).map (·.size) = some 21) (t : TypeId) (hr : URow w g t n bs m cs l c k)
    (h : ∀ W, Hid (URow W g t n' bs' m' cs' l' c' k') → Hid (∀ k, k ≠ g → W.heap[k]? = w.heap[k]?) → Hid (Below g w W) → K (a.put o.dst undef) W) : o.wp P a w K Q :=
  wp_store_v ty x v ho g hx _ hv (by rw [hi, uc_length hb hc]) (uc_one _ _ _ _ _ _ _) t _ hr.v (by rw [uc_length hr.hb hr.hc, uc_length hb hc]) (fun W HN HO HB => h W (Lib.hid ⟨HN.out, hb, hc⟩) HO HB)
theorem uc_rx (hb : bs.length = 8) (hb' : bs'.length = 8) : (uc n bs m cs l c k).take 0 ++ (.int .i64 n' :: bvals bs') ++ (uc n bs m cs l c k).drop (0 + (.int .i64 n' :: bvals bs' : List Value).length) = uc n' bs' m cs l c k := by
  unfold uc
  rw [List.take_zero, List.nil_append, Nat.zero_add, List.drop_left' (by simp [bv8 hb, bv8 hb'])]
theorem uc_tx (hb : bs.length = 8) (hc : cs.length = 8) (hc' : cs'.length = 8) : (uc n bs m cs l c k).take 9 ++ (.int .i64 m' :: bvals cs') ++ (uc n bs m cs l c k).drop (9 + (.int .i64 m' :: bvals cs' : List Value).length) = uc n bs m' cs' l c k := by
  unfold uc
  rw [List.take_left' (by simp [bv8 hb]), ← List.append_assoc (.int .i64 n :: bvals bs) (.int .i64 m :: bvals cs), List.drop_left' (by simp [bv8 hb, bv8 hc, bv8 hc']), List.append_assoc]
theorem uc_set_l (hb : bs.length = 8) (hc : cs.length = 8) : (uc n bs m cs l c k).set 18 (.bool l') = uc n bs m cs l' c k := by
  unfold uc
  rw [List.set_append_right _ _ (by simp [bv8 hb]), List.set_append_right _ _ (by simp [bv8 hb, bv8 hc])]
  simp [bv8 hb, bv8 hc]
theorem uc_set_c (hb : bs.length = 8) (hc : cs.length = 8) : (uc n bs m cs l c k).set 19 (.int .u8 (c' : Int)) = uc n bs m cs l c' k := by
  unfold uc
  rw [List.set_append_right _ _ (by simp [bv8 hb]), List.set_append_right _ _ (by simp [bv8 hb, bv8 hc])]
  simp [bv8 hb, bv8 hc]
theorem uc_set_k (hb : bs.length = 8) (hc : cs.length = 8) : (uc n bs m cs l c k).set 20 (.int .u8 (k' : Int)) = uc n bs m cs l c k' := by
  unfold uc
  rw [List.set_append_right _ _ (by simp [bv8 hb]), List.set_append_right _ _ (by simp [bv8 hb, bv8 hc])]
  simp [bv8 hb, bv8 hc]
theorem uc_set_n : (uc n bs m cs l c k).set 0 (.int .i64 n') = uc n' bs m cs l c k := rfl
theorem uc_set_m (hb : bs.length = 8) : (uc n bs m cs l c k).set 9 (.int .i64 m') = uc n bs m' cs l c k := by
  unfold uc
  rw [List.set_append_right _ _ (by simp [bv8 hb])]
  simp [bv8 hb]
/-- The queue of what came is stored. -/
theorem wpList_store_rx {ops : Array Oper} {rest : List Oper} {o : Oper} {a : Act} {Q : Exit → Act → World → Prop} (hgd : o.guard = none) (ty : TypeId) (x v : Operand) (ho : o.op = .store ty x v) (g : Nat) (hx : a.eval x = .pointer (some ⟨g, 0, none⟩))
    (hv : a.eval v = qv n' bs') (hb' : bs'.length = 8) (hi : (P.info? ty).map (·.size) = some 9) (t : TypeId) (hr : URow w g t n bs m cs l c k)
    (h : ∀ W, Hid (URow W g t n' bs' m cs l c k) → Hid (∀ k, k ≠ g → W.heap[k]? = w.heap[k]?) → Hid (Below g w W) → wpList P ops Q rest (a.put o.dst undef) W) : wpList P ops Q (o :: rest) a w :=
  wpList_store_row hgd ty x v ho g 0 hx (.int .i64 n' :: bvals bs') (by rw [hv]; rfl) (by rw [hi]; simp [bv8 hb']) _ _ t hr.v (by rw [uc_length hr.hb hr.hc]; simp [bv8 hb']) (qc_one _ _) (uc_rx hr.hb hb') (h _ (Lib.hid (hr.set _ _ _ _ _ _ _ hb' hr.hc)) (Lib.hid fun k hk => setRow_other w g k _ hk) (Lib.hid (setRow_below (Below.refl _ _) (Nat.le_refl _) _)))
theorem wp_store_rx {o : Oper} {a : Act} {K : Act → World → Prop} {Q : Exit → Act → World → Prop} (ty : TypeId) (x v : Operand) (ho : o.op = .store ty x v) (g : Nat) (hx : a.eval x = .pointer (some ⟨g, 0, none⟩))
    (hv : a.eval v = qv n' bs') (hb' : bs'.length = 8) (hi : (P.info? ty).map (·.size) = some 9) (t : TypeId) (hr : URow w g t n bs m cs l c k)
    (h : ∀ W, Hid (URow W g t n' bs' m cs l c k) → Hid (∀ k, k ≠ g → W.heap[k]? = w.heap[k]?) → Hid (Below g w W) → K (a.put o.dst undef) W) : o.wp P a w K Q :=
  wp_store_row rfl ty x v ho g 0 hx (.int .i64 n' :: bvals bs') (by rw [hv]; rfl) (by rw [hi]; simp [bv8 hb']) _ _ t hr.v (by rw [uc_length hr.hb hr.hc]; simp [bv8 hb']) (qc_one _ _) (uc_rx hr.hb hb') (h _ (Lib.hid (hr.set _ _ _ _ _ _ _ hb' hr.hc)) (Lib.hid fun k hk => setRow_other w g k _ hk) (Lib.hid (setRow_below (Below.refl _ _) (Nat.le_refl _) _)))
/-- The queue of what is to be sent is stored. -/
theorem wpList_store_tx {ops : Array Oper} {rest : List Oper} {o : Oper} {a : Act} {Q : Exit → Act → World → Prop} (hgd : o.guard = none) (ty : TypeId) (x v : Operand) (ho : o.op = .store ty x v) (g : Nat) (hx : a.eval x = .pointer (some ⟨g, 9, none⟩))
    (hv : a.eval v = qv m' cs') (hc' : cs'.length = 8) (hi : (P.info? ty).map (·.size) = some 9) (t : TypeId) (hr : URow w g t n bs m cs l c k)
    (h : ∀ W, Hid (URow W g t n bs m' cs' l c k) → Hid (∀ k, k ≠ g → W.heap[k]? = w.heap[k]?) → Hid (Below g w W) → wpList P ops Q rest (a.put o.dst undef) W) : wpList P ops Q (o :: rest) a w :=
  wpList_store_row hgd ty x v ho g 9 hx (.int .i64 m' :: bvals cs') (by rw [hv]; rfl) (by rw [hi]; simp [bv8 hc']) _ _ t hr.v (by rw [uc_length hr.hb hr.hc]; simp [bv8 hc']) (qc_one _ _) (uc_tx hr.hb hr.hc hc') (h _ (Lib.hid (hr.set _ _ _ _ _ _ _ hr.hb hc')) (Lib.hid fun k hk => setRow_other w g k _ hk) (Lib.hid (setRow_below (Below.refl _ _) (Nat.le_refl _) _)))
theorem wp_store_tx {o : Oper} {a : Act} {K : Act → World → Prop} {Q : Exit → Act → World → Prop} (ty : TypeId) (x v : Operand) (ho : o.op = .store ty x v) (g : Nat) (hx : a.eval x = .pointer (some ⟨g, 9, none⟩))
    (hv : a.eval v = qv m' cs') (hc' : cs'.length = 8) (hi : (P.info? ty).map (·.size) = some 9) (t : TypeId) (hr : URow w g t n bs m cs l c k)
    (h : ∀ W, Hid (URow W g t n bs m' cs' l c k) → Hid (∀ k, k ≠ g → W.heap[k]? = w.heap[k]?) → Hid (Below g w W) → K (a.put o.dst undef) W) : o.wp P a w K Q :=
  wp_store_row rfl ty x v ho g 9 hx (.int .i64 m' :: bvals cs') (by rw [hv]; rfl) (by rw [hi]; simp [bv8 hc']) _ _ t hr.v (by rw [uc_length hr.hb hr.hc]; simp [bv8 hc']) (qc_one _ _) (uc_tx hr.hb hr.hc hc') (h _ (Lib.hid (hr.set _ _ _ _ _ _ _ hr.hb hc')) (Lib.hid fun k hk => setRow_other w g k _ hk) (Lib.hid (setRow_below (Below.refl _ _) (Nat.le_refl _) _)))
/-- One cell is stored. -/
theorem wpList_store_j {ops : Array Oper} {rest : List Oper} {o : Oper} {a : Act} {Q : Exit → Act → World → Prop} (hgd : o.guard = none) (ty : TypeId) (x v : Operand) (ho : o.op = .store ty x v) (g j : Nat) (hx : a.eval x = .pointer (some ⟨g, j, none⟩))
    (u : Value) (hv : (a.eval v).cells = [u].toArray) (hu1 : u.oneCell' = true) (hi : (P.info? ty).map (·.size) = some 1) (t : TypeId) (hr : URow w g t n bs m cs l c k) (hj : j < 21)
    (hs : (uc n bs m cs l c k).set j u = uc n' bs' m' cs' l' c' k') (hb' : bs'.length = 8) (hc' : cs'.length = 8)
    (h : ∀ W, Hid (URow W g t n' bs' m' cs' l' c' k') → Hid (∀ k, k ≠ g → W.heap[k]? = w.heap[k]?) → Hid (Below g w W) → wpList P ops Q rest (a.put o.dst undef) W) : wpList P ops Q (o :: rest) a w :=
  wpList_store_c hgd ty x v ho g j hx u hv hu1 hi t _ hr.v (by rw [uc_length hr.hb hr.hc]; exact hj) (fun W HN HO HB => h W (Lib.hid ⟨by have := HN.out; rw [hs] at this; exact this, hb', hc'⟩) HO HB)
end
end Go.Proofs.YtkodoldkfeopdaaGreat.Ua
/- Spec -/
namespace Go.Proofs.YtkodoldkfeopdaaGreat.Ua
open Go.RowKit
set_option linter.unusedVariables false
set_option maxRecDepth 100000
/-- The lowest byte of a number. -/
def lowN (v : Int) : Nat := (v % 256).toNat
theorem lowN_cast (v : Int) : ((lowN v : Nat) : Int) = v % 256 := by
  unfold lowN
  omega
theorem lowN_lt (v : Int) : lowN v < 256 := by
  unfold lowN
  omega
/-- The count that counts. -/
def kM (T : List Nat) (k : Nat) : Nat := if 4 ≤ k ∨ T = [] then 0 else k
theorem kM_lt (T : List Nat) (k : Nat) : kM T k < 4 := by
  unfold kM
  split
  · omega
  · omega
theorem kM_nil (k : Nat) : kM [] k = 0 := if_pos (.inr rfl)
theorem kM_kM (T : List Nat) (k : Nat) : kM T (kM T k) = kM T k := by
  have := kM_lt T k
  by_cases h : T = []
  · subst h; rw [kM_nil, kM_nil]
  · rw [kM, if_neg]
    rintro (h1 | h1)
    · omega
    · exact h h1
/-- The uart of these bytes. -/
def uq (R T : List Nat) (l : Bool) (c k : Nat) : Value := uv ((min R.length 8 : Nat) : Int) (pad R) ((min T.length 8 : Nat) : Int) (pad T) l c k
def statU (R T : List Nat) (l : Bool) : Int := (if R = [] then 0 else 1) + (if T.length = 8 then 2 else 0) + (if l = true then 4 else 0)
def peekU (R T : List Nat) (l : Bool) (c : Nat) (reg : Int) : Int := if reg = 3 then ((R.headD 0 : Nat) : Int) else if reg = 4 then statU R T l else if reg = 5 then (c : Int) else 0
def readR (R : List Nat) (reg : Int) : List Nat := if reg = 3 then R.tail else R
def readL (l : Bool) (reg : Int) : Bool := if reg = 4 then false else l
def addL (T : List Nat) (b : Nat) : List Nat := if T.length < 8 then T ++ [b] else T
def writeT (T : List Nat) (reg v : Int) : List Nat := if reg = 3 then addL T (lowN v) else T
def writeC (c : Nat) (reg v : Int) : Nat := if reg = 5 then lowN v else c
def arriveL (R : List Nat) (l : Bool) : Bool := if R.length < 8 then l else true
def asksU (R : List Nat) (c : Nat) : Bool := decide (R.length < 8) && decide (c % 2 = 1)
def sendsU (T : List Nat) (k : Nat) : Bool := !T.isEmpty && decide (k = 3)
def tickT (T : List Nat) (k : Nat) : List Nat := if sendsU T k = true then T.tail else T
def tickK (T : List Nat) (k : Nat) : Nat := if T = [] then 0 else if k = 3 then 0 else k + 1
def tickB (T : List Nat) (k : Nat) : Nat := if sendsU T k = true then T.headD 0 else 0
def tickQ (T : List Nat) (c k : Nat) : Bool := sendsU T k && T.tail.isEmpty && decide (c / 2 % 2 = 1)
/-- What a value may be. -/
structure UIn (n : Int) (bs : List Nat) (m : Int) (cs : List Nat) (c k : Nat) : Prop where
  hb : bs.length = 8
  hc : cs.length = 8
  n0 : -9223372036854775808 ≤ n
  n1 : n ≤ 9223372036854775807
  m0 : -9223372036854775808 ≤ m
  m1 : m ≤ 9223372036854775807
  lb : ∀ x ∈ bs, x < 256
  lc : ∀ x ∈ cs, x < 256
  c8 : c < 256
  k8 : k < 256
def MendC (f : Nat) : Prop := ∀ (n : Int) (bs : List Nat) (m : Int) (cs : List Nat) (l : Bool) (c k : Nat) (w : World), UIn n bs m cs c k → Calls Tryz.prog f #[uv n bs m cs l c k] w fun x w' => x = .returned (uq (cutL n bs) (cutL m cs) l c (kM (cutL m cs) k)) ∧ Below w.heap.size w w'
def PeekC (f : Nat) : Prop := ∀ (n : Int) (bs : List Nat) (m : Int) (cs : List Nat) (l : Bool) (c k : Nat) (reg : Int) (w : World), UIn n bs m cs c k → -9223372036854775808 ≤ reg → reg ≤ 9223372036854775807 → Calls Tryz.prog f #[uv n bs m cs l c k, .int .i64 reg] w fun x w' => x = .returned (.int .i32 (peekU (cutL n bs) (cutL m cs) l c reg)) ∧ Below w.heap.size w w'
def ReadC (f : Nat) : Prop := ∀ (n : Int) (bs : List Nat) (m : Int) (cs : List Nat) (l : Bool) (c k : Nat) (reg : Int) (w : World), UIn n bs m cs c k → -9223372036854775808 ≤ reg → reg ≤ 9223372036854775807 → Calls Tryz.prog f #[uv n bs m cs l c k, .int .i64 reg] w fun x w' => x = .returned (.tuple #[.int .i32 (peekU (cutL n bs) (cutL m cs) l c reg), uq (readR (cutL n bs) reg) (cutL m cs) (readL l reg) c (kM (cutL m cs) k)]) ∧ Below w.heap.size w w'
def WriteC (f : Nat) : Prop := ∀ (n : Int) (bs : List Nat) (m : Int) (cs : List Nat) (l : Bool) (c k : Nat) (reg v : Int) (w : World), UIn n bs m cs c k → -9223372036854775808 ≤ reg → reg ≤ 9223372036854775807 → -2147483648 ≤ v → v ≤ 2147483647 → Calls Tryz.prog f #[uv n bs m cs l c k, .int .i64 reg, .int .i32 v] w fun x w' => x = .returned (uq (cutL n bs) (writeT (cutL m cs) reg v) l (writeC c reg v) (kM (cutL m cs) k)) ∧ Below w.heap.size w w'
def ArriveC (f : Nat) : Prop := ∀ (n : Int) (bs : List Nat) (m : Int) (cs : List Nat) (l : Bool) (c k b : Nat) (w : World), UIn n bs m cs c k → b < 256 → Calls Tryz.prog f #[uv n bs m cs l c k, .int .u8 b] w fun x w' => x = .returned (.tuple #[uq (addL (cutL n bs) b) (cutL m cs) (arriveL (cutL n bs) l) c (kM (cutL m cs) k), .bool (asksU (cutL n bs) c)]) ∧ Below w.heap.size w w'
def TickC (f : Nat) : Prop := ∀ (n : Int) (bs : List Nat) (m : Int) (cs : List Nat) (l : Bool) (c k : Nat) (w : World), UIn n bs m cs c k → Calls Tryz.prog f #[uv n bs m cs l c k] w fun x w' => x = .returned (.tuple #[uq (cutL n bs) (tickT (cutL m cs) (kM (cutL m cs) k)) l c (tickK (cutL m cs) (kM (cutL m cs) k)), .int .u8 (tickB (cutL m cs) (kM (cutL m cs) k)), .bool (sendsU (cutL m cs) (kM (cutL m cs) k)), .bool (tickQ (cutL m cs) c (kM (cutL m cs) k))]) ∧ Below w.heap.size w w'
/-- The program's functions. -/
structure UartOk : Prop where
  mend : MendC 53
  peek : PeekC 73
  read : ReadC 78
  write : WriteC 113
  arrive : ArriveC 32
  tick : TickC 35
end Go.Proofs.YtkodoldkfeopdaaGreat.Ua
/- Two -/
namespace Go.Proofs.YtkodoldkfeopdaaGreat.Ua
open Go.RowKit
set_option linter.unusedVariables false
set_option maxRecDepth 100000
structure Tw (w W : World) (g r : Nat) (t : TypeId) (n : Int) (bs : List Nat) (m : Int) (cs : List Nat) (l : Bool) (c k : Nat) : Prop where
  q : URow W g t n bs m cs l c k
  z : URow W r t 0 Z8 0 Z8 false 0 0
  b : Below w.heap.size w W
  lg : w.heap.size ≤ g
  lr : w.heap.size ≤ r
  gr : g ≠ r
section
variable {w W W' : World} {g r : Nat} {t : TypeId} {n : Int} {bs : List Nat} {m : Int} {cs : List Nat} {l : Bool} {c k : Nat} {n' : Int} {bs' : List Nat} {m' : Int} {cs' : List Nat} {l' : Bool} {c' k' : Nat}
theorem Tw.under (h : Tw w W g r t n bs m cs l c k) (hb : Below W.heap.size W W') : Tw w W' g r t n bs m cs l c k := ⟨h.q.below hb h.q.lt, h.z.below hb h.z.lt, h.b.trans (hb.mono h.b.size), h.lg, h.lr, h.gr⟩
theorem Tw.setG (h : Tw w W g r t n bs m cs l c k) (hn : URow W' g t n' bs' m' cs' l' c' k') (ho : ∀ j, j ≠ g → W'.heap[j]? = W.heap[j]?) (hb : Below g W W') : Tw w W' g r t n' bs' m' cs' l' c' k' := ⟨hn, h.z.other ho h.gr.symm, h.b.trans (hb.mono h.lg), h.lg, h.lr, h.gr⟩
theorem Tw.new (hb : bs.length = 8) (hc : cs.length = 8) (t : TypeId) (hq : W.heap[w.heap.size]? = some (.cells (uc n bs m cs l c k).toArray t)) (hz : W.heap[w.heap.size + 1]? = some (.cells (uc 0 Z8 0 Z8 false 0 0).toArray t)) (hB : Below w.heap.size w W) : Tw w W w.heap.size (w.heap.size + 1) t n bs m cs l c k :=
  ⟨⟨hq, hb, hc⟩, ⟨hz, rfl, rfl⟩, hB, Nat.le_refl _, by omega, by omega⟩
end
/-- The parts of a mended queue. -/
theorem ofV_parts (L : List Nat) (h : L.length ≤ 8) : ∃ (N : Int) (p : List Nat), ((min L.length 8 : Nat) : Int) = N ∧ pad L = p ∧ p.length = 8 ∧ N = (L.length : Int) ∧ ofV L = qv N p :=
  ⟨_, _, rfl, rfl, pad_length _, by omega, rfl⟩
/-- A function over one uart that answers none: its row alone. -/
structure On (w W : World) (g : Nat) (t : TypeId) (n : Int) (bs : List Nat) (m : Int) (cs : List Nat) (l : Bool) (c k : Nat) : Prop where
  q : URow W g t n bs m cs l c k
  b : Below w.heap.size w W
  lg : w.heap.size ≤ g
section
variable {w W W' : World} {g r : Nat} {t : TypeId} {n : Int} {bs : List Nat} {m : Int} {cs : List Nat} {l : Bool} {c k : Nat} {n' : Int} {bs' : List Nat} {m' : Int} {cs' : List Nat} {l' : Bool} {c' k' : Nat}
theorem On.under (h : On w W g t n bs m cs l c k) (hb : Below W.heap.size W W') : On w W' g t n bs m cs l c k := ⟨h.q.below hb h.q.lt, h.b.trans (hb.mono h.b.size), h.lg⟩
theorem On.setG (h : On w W g t n bs m cs l c k) (hn : URow W' g t n' bs' m' cs' l' c' k') (ho : ∀ j, j ≠ g → W'.heap[j]? = W.heap[j]?) (hb : Below g W W') : On w W' g t n' bs' m' cs' l' c' k' := ⟨hn, h.b.trans (hb.mono h.lg), h.lg⟩
theorem On.new (hb : bs.length = 8) (hc : cs.length = 8) (t : TypeId) (hq : W.heap[w.heap.size]? = some (.cells (uc n bs m cs l c k).toArray t)) (hB : Below w.heap.size w W) : On w W w.heap.size t n bs m cs l c k := ⟨⟨hq, hb, hc⟩, hB, Nat.le_refl _⟩
end
theorem bit_and1 (c : Nat) (h : c < 256) : bits .and .u8 (c : Int) 1 = if c % 2 = 1 then 1 else 0 := by
  rw [show (1 : Int) = ((1 : Nat) : Int) from rfl, u8_and_nat c 1 h (by decide), Nat.and_one_is_mod]
  rcases Nat.mod_two_eq_zero_or_one c with h0 | h0 <;> simp [h0]
theorem results_tc {fn : Func} {s t : Tmp} {ty : TypeId} (h : fn.results = #[.tmp s, .cell t ty]) (tmps : Array Value) (P : Program) (w : World) (a : Addr) (v x : Value) (hp : tmps.getD t undef = .pointer (some a)) (hl : (loadVar ty a).run P w = .ok v w) (hx : tmps.getD s undef = x) : (results fn tmps).run P w = .ok (.tuple #[x, v]) w := by
  subst hx
  rw [Array.getD_eq_getD_getElem?] at hp
  simp [results, h, hp, asAddr, hl]
theorem results_cttt {fn : Func} {t u1 u2 u3 : Tmp} {ty : TypeId} (h : fn.results = #[.cell t ty, .tmp u1, .tmp u2, .tmp u3]) (tmps : Array Value) (P : Program) (w : World) (a : Addr) (v x1 x2 x3 : Value) (hp : tmps.getD t undef = .pointer (some a)) (hl : (loadVar ty a).run P w = .ok v w) (h1 : tmps.getD u1 undef = x1) (h2 : tmps.getD u2 undef = x2) (h3 : tmps.getD u3 undef = x3) : (results fn tmps).run P w = .ok (.tuple #[v, x1, x2, x3]) w := by
  subst h1
  subst h2
  subst h3
  rw [Array.getD_eq_getD_getElem?] at hp
  simp [results, h, hp, asAddr, hl]
/-- What was mended is a uart that may be. -/
theorem mended_in {R T : List Nat} {N M : Int} {p q : List Nat} {c k : Nat} (hR : R.length ≤ 8) (hT : T.length ≤ 8) (hN : ((min R.length 8 : Nat) : Int) = N) (hp : pad R = p) (hM : ((min T.length 8 : Nat) : Int) = M) (hq : pad T = q) (lR : ∀ x ∈ R, x < 256) (lT : ∀ x ∈ T, x < 256) (hc : c < 256) (hk : k < 4) : UIn N p M q c k ∧ cutL N p = R ∧ cutL M q = T := by
  subst hN
  subst hp
  subst hM
  subst hq
  refine ⟨⟨pad_length _, pad_length _, by omega, by omega, by omega, by omega, pad_lt lR, pad_lt lT, hc, by omega⟩, ?_, ?_⟩
  · rw [cutL_ofV, List.take_of_length_le hR]
  · rw [cutL_ofV, List.take_of_length_le hT]
theorem pad_head (R : List Nat) : (pad R)[0]? = some (R.headD 0) := by
  cases R with
  | nil => rfl
  | cons x r => rfl
theorem headD_lt {R : List Nat} (h : ∀ x ∈ R, x < 256) : R.headD 0 < 256 := by
  cases R with
  | nil => decide
  | cons x r => exact h x List.mem_cons_self
end Go.Proofs.YtkodoldkfeopdaaGreat.Ua
/- Rmend -/
namespace Go.Proofs.YtkodoldkfeopdaaGreat.Ua
open Go.RowKit
set_option linter.unusedVariables false
set_option maxRecDepth 100000
set_option maxRecDepth 100000 in
theorem rMendU_any : MendC 40 := by
  intro n bs m cs l c k w h
  have C1 := Lib.hid (fun W => rMend_any n bs W h.hb h.n0 h.n1)
  have C2 := Lib.hid (fun W => rMend_any m cs W h.hc h.m0 h.m1)
  have hRl := cutL_le n bs h.hb
  have hTl := cutL_le m cs h.hc
  generalize cutL n bs = R at *
  generalize cutL m cs = T at *
  obtain ⟨N, p, hN, hp, hp8, hN2, hE1⟩ := ofV_parts R hRl
  obtain ⟨M, q, hM, hq, hq8, hM2, hE2⟩ := ofV_parts T hTl
  unfold uq
  rw [hN, hp, hM, hq]
  rw [hE1] at C1
  rw [hE2] at C2
  have HM2 := Lib.hid hM2
  clear hN hp hM hq hE1 hE2 hN2 hM2 hRl
  unfold uv
  go_enter Tryz.func40, Tryz.ntmps40
  go_upto_region 1 with (fail)
  refine name_two (Q := fun X => Code.wp _ _ _ _ X) ?_
  intro W0 hq1 hq2 hB0
  have T0 := Lib.hid (Tw.new h.hb h.hc 41 hq1 hq2 hB0)
  clear hq1 hq2 hB0
  obtain ⟨g, hg⟩ : ∃ g, w.heap.size = g := ⟨_, rfl⟩
  obtain ⟨r, hr⟩ : ∃ r, w.heap.size + 1 = r := ⟨_, rfl⟩
  rw [hr, hg] at T0 ⊢
  clear hr hg
  go_upto_region 3 with (first
      | ((with_reducible show wpList _ _ _ (⟨none, .store 39 (.tmp 10) (.tmp 9), _, _, _, _⟩ :: _) _ _); refine wpList_store_tx rfl 39 _ _ rfl g (by exact rfl) (by exact rfl) (by assumption) (by kernel_rfl) 41 T3.out.q ?_; intro WT4 HN HO HB
         have T4 := Lib.hid (T3.out.setG HN.out HO.out HB.out)
         have ck := T4.out.q.c20
         have cm := T4.out.q.n9
         clear HN HO HB T3)
      | (go_at_call 64; refine (C2.out _).mono ?_; rintro e WT3 ⟨rfl, hB⟩
         have T3 := Lib.hid (T2.out.under hB)
         clear hB T2)
      | ((with_reducible show wpList _ _ _ (⟨some 8, .load 39 (.tmp 7), _, _, _, _⟩ :: _) _ _); refine wpList_load_q9 rfl 39 _ rfl g 9 (by exact rfl) _ Tryz.underlying39 (by kernel_rfl) T2.out.q.tx T2.out.q.hc ?_)
      | ((with_reducible show wpList _ _ _ (⟨none, .store 39 (.tmp 6) (.tmp 5), _, _, _, _⟩ :: _) _ _); refine wpList_store_rx rfl 39 _ _ rfl g (by exact rfl) (by exact rfl) (by assumption) (by kernel_rfl) 41 T1.out.q ?_; intro WT2 HN HO HB
         have T2 := Lib.hid (T1.out.setG HN.out HO.out HB.out)
         clear HN HO HB T1)
      | (go_at_call 64; refine (C1.out _).mono ?_; rintro e WT1 ⟨rfl, hB⟩
         have T1 := Lib.hid (T0.out.under hB)
         clear hB T0)
      | ((with_reducible show wpList _ _ _ (⟨some 4, .load 39 (.tmp 3), _, _, _, _⟩ :: _) _ _); refine wpList_load_q9 rfl 39 _ rfl g 0 (by exact rfl) _ Tryz.underlying39 (by kernel_rfl) T0.out.q.rx T0.out.q.hb ?_))
  by_cases h4 : 4 ≤ k
  · have d1 : (4 : Int) ≤ (k : Int) := by omega
    have HK : Hid (kM T k = 0) := Lib.hid (if_pos (.inl h4))
    clear h4 hTl
    go_wp2_with (first
      | ((with_reducible show wpList _ _ _ (⟨none, .store 41 (.tmp 2) (.tmp 21), _, _, _, _⟩ :: _) _ _); refine wpList_store_u rfl 41 _ _ rfl r (by exact rfl) (by exact rfl) T5.out.q.hb T5.out.q.hc (by kernel_rfl) 41 T5.out.z ?_; intro WZ HN HO HB
         have HZ := HN
         have BZ := Lib.hid (T5.out.b.trans (HB.out.mono T5.out.lr))
         clear HN HO HB)
      | ((with_reducible show wpList _ _ _ (⟨some 21, .load 41 (.tmp 1), _, _, _, _⟩ :: _) _ _); refine wpList_load_u (by rfl) 41 _ rfl g (by exact rfl) _ Tryz.underlying41 (by kernel_rfl) 41 T5.out.q ?_)
      | ((with_reducible show wpList _ _ _ (⟨none, .store 5 (.tmp 20) _, _, _, _, _⟩ :: _) _ _); refine wpList_store_j rfl 5 _ _ rfl g 20 (by exact rfl) (.int .u8 ((0 : Nat) : Int)) (by exact rfl) rfl (by kernel_rfl) 41 T4.out.q (by decide) (uc_set_k T4.out.q.hb T4.out.q.hc) T4.out.q.hb T4.out.q.hc ?_; intro WT5 HN HO HB
         have T5 := Lib.hid (T4.out.setG HN.out HO.out HB.out)
         clear HN HO HB T4))
    exact bodyPost_ret (v := uv N p (M) q l c (0)) (results_c Tryz.results40 _ _ _ _ _ rfl (run_loadVar_u WZ r 41 _ Tryz.underlying41 (by kernel_rfl) 41 HZ.out)) rfl ⟨by rw [HK.out]; rfl, BZ.out⟩
  · have d1 : ¬ (4 : Int) ≤ (k : Int) := by omega
    cases T with
    | nil =>
      have HK : Hid (kM [] k = 0) := Lib.hid (if_pos (.inr rfl))
      have d2 : M = 0 := by simpa using HM2.out
      clear h4 hTl HM2
      subst d2
      go_wp2_with (first
      | ((with_reducible show wpList _ _ _ (⟨none, .store 41 (.tmp 2) (.tmp 21), _, _, _, _⟩ :: _) _ _); refine wpList_store_u rfl 41 _ _ rfl r (by exact rfl) (by exact rfl) T5.out.q.hb T5.out.q.hc (by kernel_rfl) 41 T5.out.z ?_; intro WZ HN HO HB
         have HZ := HN
         have BZ := Lib.hid (T5.out.b.trans (HB.out.mono T5.out.lr))
         clear HN HO HB)
      | ((with_reducible show wpList _ _ _ (⟨some 21, .load 41 (.tmp 1), _, _, _, _⟩ :: _) _ _); refine wpList_load_u (by rfl) 41 _ rfl g (by exact rfl) _ Tryz.underlying41 (by kernel_rfl) 41 T5.out.q ?_)
      | ((with_reducible show wpList _ _ _ (⟨none, .store 5 (.tmp 20) _, _, _, _, _⟩ :: _) _ _); refine wpList_store_j rfl 5 _ _ rfl g 20 (by exact rfl) (.int .u8 ((0 : Nat) : Int)) (by exact rfl) rfl (by kernel_rfl) 41 T4.out.q (by decide) (uc_set_k T4.out.q.hb T4.out.q.hc) T4.out.q.hb T4.out.q.hc ?_; intro WT5 HN HO HB
         have T5 := Lib.hid (T4.out.setG HN.out HO.out HB.out)
         clear HN HO HB T4))
      exact bodyPost_ret (v := uv N p (0) q l c (0)) (results_c Tryz.results40 _ _ _ _ _ rfl (run_loadVar_u WZ r 41 _ Tryz.underlying41 (by kernel_rfl) 41 HZ.out)) rfl ⟨by rw [HK.out]; rfl, BZ.out⟩
    | cons x T =>
      have HK : Hid (kM (x :: T) k = k) := Lib.hid (if_neg (by rintro (h1 | h1); exact h4 h1; cases h1))
      have d2 : ¬ M = 0 := by rw [HM2.out]; simp; omega
      clear h4 hTl
      go_wp2_with (first
      | ((with_reducible show wpList _ _ _ (⟨none, .store 41 (.tmp 2) (.tmp 21), _, _, _, _⟩ :: _) _ _); refine wpList_store_u rfl 41 _ _ rfl r (by exact rfl) (by exact rfl) T4.out.q.hb T4.out.q.hc (by kernel_rfl) 41 T4.out.z ?_; intro WZ HN HO HB
         have HZ := HN
         have BZ := Lib.hid (T4.out.b.trans (HB.out.mono T4.out.lr))
         clear HN HO HB)
      | ((with_reducible show wpList _ _ _ (⟨some 21, .load 41 (.tmp 1), _, _, _, _⟩ :: _) _ _); refine wpList_load_u (by rfl) 41 _ rfl g (by exact rfl) _ Tryz.underlying41 (by kernel_rfl) 41 T4.out.q ?_))
      exact bodyPost_ret (v := uv N p (M) q l c (k)) (results_c Tryz.results40 _ _ _ _ _ rfl (run_loadVar_u WZ r 41 _ Tryz.underlying41 (by kernel_rfl) 41 HZ.out)) rfl ⟨by rw [HK.out]; rfl, BZ.out⟩
end Go.Proofs.YtkodoldkfeopdaaGreat.Ua
/- Rpeek -/
namespace Go.Proofs.YtkodoldkfeopdaaGreat.Ua
open Go.RowKit
set_option linter.unusedVariables false
set_option maxRecDepth 100000
set_option maxRecDepth 100000 in
theorem rPeekU_any : PeekC 45 := by
  intro n bs m cs l c k reg w h hg0 hg1
  have C1 := Lib.hid (fun W => rMendU_any n bs m cs l c k W h)
  have hRl := cutL_le n bs h.hb
  have hTl := cutL_le m cs h.hc
  have hlR : ∀ x ∈ cutL n bs, x < 256 := cutL_lt h.lb
  have hlT : ∀ x ∈ cutL m cs, x < 256 := cutL_lt h.lc
  have hc8 := h.c8
  generalize cutL n bs = R at *
  generalize cutL m cs = T at *
  have hk4 := kM_lt T k
  have hk0 : T = [] → kM T k = 0 := fun h => by rw [h, kM_nil]
  generalize hkk : kM T k = k2 at *
  clear hkk
  obtain ⟨N, p, hN, hp, hp8, hN2, hE1⟩ := ofV_parts R hRl
  obtain ⟨M, q, hM, hq, hq8, hM2, hE2⟩ := ofV_parts T hTl
  have HC1 : Hid (∀ W : World, Calls Tryz.prog 40 #[uv n bs m cs l c k] W fun x w' => x = .returned (uv N p M q l c k2) ∧ Below W.heap.size W w') := Lib.hid (fun W => by
    have h1 := C1.out W
    unfold uq at h1
    rw [hN, hp, hM, hq] at h1
    exact h1)
  have HM2 := Lib.hid hM2
  have HN2 := Lib.hid hN2
  have HIN := Lib.hid (mended_in (c := c) hRl hTl hN hp hM hq hlR hlT hc8 hk4)
  have HKK : Hid (kM T k2 = k2) := Lib.hid (by by_cases h0 : T = []; (· rw [h0, kM_nil, hk0 h0]); (· exact if_neg (by rintro (h1 | h1); omega; exact h0 h1)))
  clear C1
  have hx : p[0]? = some (R.headD 0) := by rw [← hp]; exact pad_head R
  have hx8 := headD_lt hlR
  have HX : Hid (p[0]? = some (R.headD 0)) := Lib.hid hx
  generalize hxx : R.headD 0 = x at *
  clear hN hp hM hq hE1 hE2 hN2 hM2 hlR hlT hx
  unfold uv
  go_enter Tryz.func45, Tryz.ntmps45
  go_upto_region 1 with (fail)
  refine name_one (Q := fun X => Code.wp _ _ _ _ X) ?_
  intro W0 hq1 hB0 hZ0
  have T0 := Lib.hid (On.new h.hb h.hc 41 hq1 hB0)
  clear hq1 hB0 hZ0
  obtain ⟨g, hg⟩ : ∃ g, w.heap.size = g := ⟨_, rfl⟩
  rw [hg] at T0 ⊢
  clear hg
  go_upto_region 2 with (first
      | ((with_reducible show wpList _ _ _ (⟨none, .store 41 (.tmp 2) (.tmp 7), _, _, _, _⟩ :: _) _ _); refine wpList_store_u rfl 41 _ _ rfl g (by exact rfl) (by exact rfl) (by assumption) (by assumption) (by kernel_rfl) 41 T1.out.q ?_; intro WT2 HN HO HB
         have T2 := Lib.hid (T1.out.setG HN.out HO.out HB.out)
         have b1 : WT2.cell? ⟨g, 1, none⟩ = some (.int .u8 (x : Int)) := T2.out.q.b1 0 _ HX.out
         have b0 := T2.out.q.n0
         have b9 := T2.out.q.n9
         have b18 := T2.out.q.c18
         have b19 := T2.out.q.c19
         clear HN HO HB T1)
      | (go_at_call 40; refine (HC1.out _).mono ?_; rintro e WT1 ⟨rfl, hB⟩
         have T1 := Lib.hid (T0.out.under hB)
         clear hB T0)
      | ((with_reducible show wpList _ _ _ (⟨some 6, .load 41 (.tmp 2), _, _, _, _⟩ :: _) _ _); refine wpList_load_u (by rfl) 41 _ rfl g (by exact rfl) _ Tryz.underlying41 (by kernel_rfl) 41 T0.out.q ?_))
  by_cases h3 : reg = 3
  · subst h3
    have HE : Hid (peekU R T l c 3 = (x : Int)) := Lib.hid (by rw [show peekU R T l c 3 = ((R.headD 0 : Nat) : Int) from if_pos rfl, hxx])
    clear hxx hRl hTl
    go_wp2_with fail
    go_ret
    exact ⟨by rw [HE.out]; rfl, T2.out.b⟩
  by_cases h4 : reg = 4
  · subst h4
    have HE4 : Hid (peekU R T l c 4 = statU R T l) := Lib.hid ((if_neg (by decide)).trans (if_pos rfl))
    clear hxx
    have hr : (0 < N ∧ R ≠ []) ∨ (N = 0 ∧ R = []) := by
      rw [HN2.out]
      cases R with
      | nil => exact .inr ⟨rfl, rfl⟩
      | cons y R => exact .inl ⟨by simp, by simp⟩
    have ht : (M = 8 ∧ T.length = 8) ∨ (M ≠ 8 ∧ T.length ≠ 8) := by
      rw [HM2.out]
      omega
    clear hRl hTl
    rcases hr with ⟨d1, e1⟩ | ⟨d1, e1⟩ <;> rcases ht with ⟨d2, e2⟩ | ⟨d2, e2⟩ <;> cases l
    · have HE : Hid (peekU R T false c 4 = 3) := Lib.hid (HE4.out.trans (by simp [statU, e1, e2]))
      clear e1 e2
      subst d2
      go_wp2_with fail
      go_ret
      exact ⟨by rw [HE.out]; rfl, T2.out.b⟩
    · have HE : Hid (peekU R T true c 4 = 7) := Lib.hid (HE4.out.trans (by simp [statU, e1, e2]))
      clear e1 e2
      subst d2
      go_wp2_with fail
      go_ret
      exact ⟨by rw [HE.out]; rfl, T2.out.b⟩
    · have HE : Hid (peekU R T false c 4 = 1) := Lib.hid (HE4.out.trans (by simp [statU, e1, e2]))
      clear e1 e2
      go_wp2_with fail
      go_ret
      exact ⟨by rw [HE.out]; rfl, T2.out.b⟩
    · have HE : Hid (peekU R T true c 4 = 5) := Lib.hid (HE4.out.trans (by simp [statU, e1, e2]))
      clear e1 e2
      go_wp2_with fail
      go_ret
      exact ⟨by rw [HE.out]; rfl, T2.out.b⟩
    · have HE : Hid (peekU R T false c 4 = 2) := Lib.hid (HE4.out.trans (by simp [statU, e1, e2]))
      clear e1 e2
      subst d1
      subst d2
      go_wp2_with fail
      go_ret
      exact ⟨by rw [HE.out]; rfl, T2.out.b⟩
    · have HE : Hid (peekU R T true c 4 = 6) := Lib.hid (HE4.out.trans (by simp [statU, e1, e2]))
      clear e1 e2
      subst d1
      subst d2
      go_wp2_with fail
      go_ret
      exact ⟨by rw [HE.out]; rfl, T2.out.b⟩
    · have HE : Hid (peekU R T false c 4 = 0) := Lib.hid (HE4.out.trans (by simp [statU, e1, e2]))
      clear e1 e2
      subst d1
      go_wp2_with fail
      go_ret
      exact ⟨by rw [HE.out]; rfl, T2.out.b⟩
    · have HE : Hid (peekU R T true c 4 = 4) := Lib.hid (HE4.out.trans (by simp [statU, e1, e2]))
      clear e1 e2
      subst d1
      go_wp2_with fail
      go_ret
      exact ⟨by rw [HE.out]; rfl, T2.out.b⟩
  by_cases h5 : reg = 5
  · subst h5
    have HE : Hid (peekU R T l c 5 = (c : Int)) := Lib.hid ((if_neg (by decide)).trans ((if_neg (by decide)).trans (if_pos rfl)))
    clear hxx hRl hTl
    go_wp2_with fail
    go_ret
    exact ⟨by rw [HE.out]; rfl, T2.out.b⟩
  · have HE : Hid (peekU R T l c reg = 0) := Lib.hid ((if_neg h3).trans ((if_neg h4).trans (if_neg h5)))
    clear hxx hRl hTl
    go_wp2_with fail
    go_ret
    exact ⟨by rw [HE.out]; rfl, T2.out.b⟩
end Go.Proofs.YtkodoldkfeopdaaGreat.Ua
/- Rread -/
namespace Go.Proofs.YtkodoldkfeopdaaGreat.Ua
open Go.RowKit
set_option linter.unusedVariables false
set_option maxRecDepth 100000
set_option maxRecDepth 100000 in
theorem rReadU_any : ReadC 27 := by
  intro n bs m cs l c k reg w h hg0 hg1
  have C1 := Lib.hid (fun W => rMendU_any n bs m cs l c k W h)
  have hRl := cutL_le n bs h.hb
  have hTl := cutL_le m cs h.hc
  have hlR : ∀ x ∈ cutL n bs, x < 256 := cutL_lt h.lb
  have hlT : ∀ x ∈ cutL m cs, x < 256 := cutL_lt h.lc
  have hc8 := h.c8
  generalize cutL n bs = R at *
  generalize cutL m cs = T at *
  have hk4 := kM_lt T k
  have hk0 : T = [] → kM T k = 0 := fun h => by rw [h, kM_nil]
  generalize hkk : kM T k = k2 at *
  clear hkk
  obtain ⟨N, p, hN, hp, hp8, hN2, hE1⟩ := ofV_parts R hRl
  obtain ⟨M, q, hM, hq, hq8, hM2, hE2⟩ := ofV_parts T hTl
  have HC1 : Hid (∀ W : World, Calls Tryz.prog 40 #[uv n bs m cs l c k] W fun x w' => x = .returned (uv N p M q l c k2) ∧ Below W.heap.size W w') := Lib.hid (fun W => by
    have h1 := C1.out W
    unfold uq at h1
    rw [hN, hp, hM, hq] at h1
    exact h1)
  have HM2 := Lib.hid hM2
  have HN2 := Lib.hid hN2
  have HIN := Lib.hid (mended_in (c := c) hRl hTl hN hp hM hq hlR hlT hc8 hk4)
  have HKK : Hid (kM T k2 = k2) := Lib.hid (by by_cases h0 : T = []; (· rw [h0, kM_nil, hk0 h0]); (· exact if_neg (by rintro (h1 | h1); omega; exact h0 h1)))
  clear C1
  have HC2 : Hid (∀ W : World, Calls Tryz.prog 45 #[uv N p M q l c k2, .int .i64 reg] W fun x w' => x = .returned (.int .i32 (peekU R T l c reg)) ∧ Below W.heap.size W w') := Lib.hid (fun W => by
    have h1 := rPeekU_any N p M q l c k2 reg W HIN.out.1 hg0 hg1
    rw [HIN.out.2.1, HIN.out.2.2] at h1
    exact h1)
  have HC3 : Hid (∀ W : World, Calls Tryz.prog 48 #[qv N p] W fun x w' => x = .returned (popV R) ∧ Below W.heap.size W w') := Lib.hid (fun W => by
    have h1 := rPop_any N p W hp8 HIN.out.1.n0 HIN.out.1.n1
    rw [HIN.out.2.1] at h1
    exact h1)
  have HUT : Hid (∀ (R' : List Nat) (l' : Bool) (c' k' : Nat), uq R' T l' c' k' = uv ((min R'.length 8 : Nat) : Int) (pad R') M q l' c' k') := Lib.hid (fun R' l' c' k' => by unfold uq; rw [hM, hq])
  have HU : Hid (uq R T l c k2 = uv N p M q l c k2) := Lib.hid (by rw [HUT.out, hN, hp])
  have HU4 : Hid (uq R T false c k2 = uv N p M q false c k2) := Lib.hid (by rw [HUT.out, hN, hp])
  obtain ⟨pv, HPV⟩ : ∃ v, peekU R T l c reg = v := ⟨_, rfl⟩
  rw [HPV] at HC2 ⊢
  clear hN hp hM hq hE1 hE2 hN2 hM2 hlR hlT HPV hTl
  unfold uv
  go_enter Tryz.func27, Tryz.ntmps27
  go_upto_region 1 with (fail)
  refine name_two (Q := fun X => Code.wp _ _ _ _ X) ?_
  intro W0 hq1 hq2 hB0
  have T0 := Lib.hid (Tw.new h.hb h.hc 41 hq1 hq2 hB0)
  clear hq1 hq2 hB0
  obtain ⟨g, hg⟩ : ∃ g, w.heap.size = g := ⟨_, rfl⟩
  obtain ⟨r, hr⟩ : ∃ r, w.heap.size + 1 = r := ⟨_, rfl⟩
  rw [hr, hg] at T0 ⊢
  clear hr hg
  go_upto_region 3 with (first
      | (go_at_call 45; refine (HC2.out _).mono ?_; rintro e WT3 ⟨rfl, hB⟩
         have T3 := Lib.hid (T2.out.under hB)
         clear hB T2)
      | ((with_reducible show wpList _ _ _ (⟨some 9, .load 41 (.tmp 2), _, _, _, _⟩ :: _) _ _); refine wpList_load_u (by rfl) 41 _ rfl g (by exact rfl) _ Tryz.underlying41 (by kernel_rfl) 41 T2.out.q ?_)
      | ((with_reducible show wpList _ _ _ (⟨none, .store 41 (.tmp 2) (.tmp 8), _, _, _, _⟩ :: _) _ _); refine wpList_store_u rfl 41 _ _ rfl g (by exact rfl) (by exact rfl) (by assumption) (by assumption) (by kernel_rfl) 41 T1.out.q ?_; intro WT2 HN HO HB
         have T2 := Lib.hid (T1.out.setG HN.out HO.out HB.out)
         clear HN HO HB T1)
      | (go_at_call 40; refine (HC1.out _).mono ?_; rintro e WT1 ⟨rfl, hB⟩
         have T1 := Lib.hid (T0.out.under hB)
         clear hB T0)
      | ((with_reducible show wpList _ _ _ (⟨some 7, .load 41 (.tmp 2), _, _, _, _⟩ :: _) _ _); refine wpList_load_u (by rfl) 41 _ rfl g (by exact rfl) _ Tryz.underlying41 (by kernel_rfl) 41 T0.out.q ?_))
  by_cases h3 : reg = 3
  · subst h3
    cases R with
    | nil =>
      have HE : Hid (uq (readR [] 3) T (readL l 3) c k2 = uv 0 Z8 M q l c k2) := Lib.hid (HUT.out [] l c k2)
      rw [show popV [] = .tuple #[.int .u8 0, qv 0 Z8, .bool false] from rfl] at HC3
      have h08 : Z8.length = 8 := rfl
      go_wp2_with (first
      | ((with_reducible show wpList _ _ _ (⟨none, .store 39 (.tmp 21) (.tmp 19), _, _, _, _⟩ :: _) _ _); refine wpList_store_rx rfl 39 _ _ rfl g (by exact rfl) (by exact rfl) (by assumption) (by kernel_rfl) 41 T4.out.q ?_; intro WT5 HN HO HB
         have T5 := Lib.hid (T4.out.setG HN.out HO.out HB.out)
         clear HN HO HB T4)
      | (go_at_call 48; refine (HC3.out _).mono ?_; rintro e WT4 ⟨rfl, hB⟩
         have T4 := Lib.hid (T3.out.under hB)
         clear hB T3)
      | ((with_reducible show wpList _ _ _ (⟨some 16, .load 39 (.tmp 15), _, _, _, _⟩ :: _) _ _); refine wpList_load_q9 rfl 39 _ rfl g 0 (by exact rfl) _ Tryz.underlying39 (by kernel_rfl) T3.out.q.rx T3.out.q.hb ?_))
      refine wp_region_noPanic ?_
      refine wp_region_held_drew (S := fun X => URow X g 41 (0) (Z8) M q l c k2) (by kernel_rfl) (T5.out.q.below (Below.refl _ _).drew T5.out.q.lt) (fun hHeld => ?_)
      refine' take_ 0 rfl (by kernel_rfl) (by kernel_rfl) (by kernel_rfl) (fun _ _ _ h => h) (by rfl) (fun wS hSw => ?_) hHeld ?_
      rotate_left
      focus (go_simp; (try with_reducible rfl); done)
      try simp only [Act.put, List.setIfInBounds_toArray, List.set_cons_zero, List.set_cons_succ]
      refine' take_ 1 rfl (by kernel_rfl) (by kernel_rfl) (by kernel_rfl) (fun _ _ _ h => h) (by rfl) (fun wS hSw => run_load_u wS 41 _ g rfl _ Tryz.underlying41 (by kernel_rfl) 41 hSw _ _ _ _ _) hHeld ?_
      try simp only [Act.put, List.setIfInBounds_toArray, List.set_cons_zero, List.set_cons_succ]
      refine' take_ 2 rfl (by kernel_rfl) (by kernel_rfl) (by kernel_rfl) (fun _ _ _ h => h) (by rfl) (fun wS hSw => ?_) hHeld ?_
      rotate_left
      focus (go_simp; (try with_reducible rfl); done)
      try simp only [Act.put, List.setIfInBounds_toArray, List.set_cons_zero, List.set_cons_succ]
      refine only_ 3 rfl (by kernel_rfl) (by rfl) (fun K hK => ?_)
      refine wp_store_u 41 _ _ rfl r rfl rfl hHeld.hb hHeld.hc (by kernel_rfl) 41 (T5.out.z.below (w' := _) (Below.refl _ _).drew T5.out.z.lt) ?_
      intro WZ HN HO HB
      have HZ := HN
      have BZ := Lib.hid (T5.out.b.drew.trans (HB.out.mono T5.out.lr))
      refine hK.out _ _ (hHeld.other HO.out T5.out.gr) (fun hHeld2 => ?_)
      clear hK K hHeld HN HO HB
      have hHeld := hHeld2
      clear hHeld2
      try simp only [Act.put]
      refine wpAnyH_done (by kernel_rfl) ?_ _
      refine NoPanic.normal ?_
      go_wp2
      exact bodyPost_ret (v := .tuple #[.int .i32 pv, uv (0) (Z8) M q l c k2]) (results_tc Tryz.results27 _ _ _ _ _ _ rfl (run_loadVar_u WZ r 41 _ Tryz.underlying41 (by kernel_rfl) 41 HZ.out) rfl) rfl ⟨by rw [HE.out], BZ.out⟩
    | cons x rs =>
      have hr8 : rs.length ≤ 8 := by simp at hRl; omega
      obtain ⟨N', p', hN', hp', hp8', -, hE'⟩ := ofV_parts rs hr8
      have HE : Hid (uq (readR (x :: rs) 3) T (readL l 3) c k2 = uv N' p' M q l c k2) := Lib.hid (by rw [show readR (x :: rs) 3 = rs from rfl, show readL l 3 = l from rfl, HUT.out, hN', hp'])
      rw [show popV (x :: rs) = .tuple #[.int .u8 (x : Int), ofV rs, .bool true] from rfl, hE'] at HC3
      clear hN' hp' hE' hRl hr8
      go_wp2_with (first
      | ((with_reducible show wpList _ _ _ (⟨none, .store 39 (.tmp 21) (.tmp 19), _, _, _, _⟩ :: _) _ _); refine wpList_store_rx rfl 39 _ _ rfl g (by exact rfl) (by exact rfl) (by assumption) (by kernel_rfl) 41 T4.out.q ?_; intro WT5 HN HO HB
         have T5 := Lib.hid (T4.out.setG HN.out HO.out HB.out)
         clear HN HO HB T4)
      | (go_at_call 48; refine (HC3.out _).mono ?_; rintro e WT4 ⟨rfl, hB⟩
         have T4 := Lib.hid (T3.out.under hB)
         clear hB T3)
      | ((with_reducible show wpList _ _ _ (⟨some 16, .load 39 (.tmp 15), _, _, _, _⟩ :: _) _ _); refine wpList_load_q9 rfl 39 _ rfl g 0 (by exact rfl) _ Tryz.underlying39 (by kernel_rfl) T3.out.q.rx T3.out.q.hb ?_))
      refine wp_region_noPanic ?_
      refine wp_region_held_drew (S := fun X => URow X g 41 (N') (p') M q l c k2) (by kernel_rfl) (T5.out.q.below (Below.refl _ _).drew T5.out.q.lt) (fun hHeld => ?_)
      refine' take_ 0 rfl (by kernel_rfl) (by kernel_rfl) (by kernel_rfl) (fun _ _ _ h => h) (by rfl) (fun wS hSw => ?_) hHeld ?_
      rotate_left
      focus (go_simp; (try with_reducible rfl); done)
      try simp only [Act.put, List.setIfInBounds_toArray, List.set_cons_zero, List.set_cons_succ]
      refine' take_ 1 rfl (by kernel_rfl) (by kernel_rfl) (by kernel_rfl) (fun _ _ _ h => h) (by rfl) (fun wS hSw => run_load_u wS 41 _ g rfl _ Tryz.underlying41 (by kernel_rfl) 41 hSw _ _ _ _ _) hHeld ?_
      try simp only [Act.put, List.setIfInBounds_toArray, List.set_cons_zero, List.set_cons_succ]
      refine' take_ 2 rfl (by kernel_rfl) (by kernel_rfl) (by kernel_rfl) (fun _ _ _ h => h) (by rfl) (fun wS hSw => ?_) hHeld ?_
      rotate_left
      focus (go_simp; (try with_reducible rfl); done)
      try simp only [Act.put, List.setIfInBounds_toArray, List.set_cons_zero, List.set_cons_succ]
      refine only_ 3 rfl (by kernel_rfl) (by rfl) (fun K hK => ?_)
      refine wp_store_u 41 _ _ rfl r rfl rfl hHeld.hb hHeld.hc (by kernel_rfl) 41 (T5.out.z.below (w' := _) (Below.refl _ _).drew T5.out.z.lt) ?_
      intro WZ HN HO HB
      have HZ := HN
      have BZ := Lib.hid (T5.out.b.drew.trans (HB.out.mono T5.out.lr))
      refine hK.out _ _ (hHeld.other HO.out T5.out.gr) (fun hHeld2 => ?_)
      clear hK K hHeld HN HO HB
      have hHeld := hHeld2
      clear hHeld2
      try simp only [Act.put]
      refine wpAnyH_done (by kernel_rfl) ?_ _
      refine NoPanic.normal ?_
      go_wp2
      exact bodyPost_ret (v := .tuple #[.int .i32 pv, uv (N') (p') M q l c k2]) (results_tc Tryz.results27 _ _ _ _ _ _ rfl (run_loadVar_u WZ r 41 _ Tryz.underlying41 (by kernel_rfl) 41 HZ.out) rfl) rfl ⟨by rw [HE.out], BZ.out⟩
  by_cases h4 : reg = 4
  · subst h4
    have HE : Hid (uq (readR R 4) T (readL l 4) c k2 = uv N p M q false c k2) := Lib.hid HU4.out
    clear hRl
    go_wp2_with (first
      | ((with_reducible show wpList _ _ _ (⟨none, .store 4 (.tmp 24) _, _, _, _, _⟩ :: _) _ _); refine wpList_store_j rfl 4 _ _ rfl g 18 (by exact rfl) (.bool false) (by exact rfl) rfl (by kernel_rfl) 41 T3.out.q (by decide) (uc_set_l T3.out.q.hb T3.out.q.hc) T3.out.q.hb T3.out.q.hc ?_; intro WT4 HN HO HB
         have T4 := Lib.hid (T3.out.setG HN.out HO.out HB.out)
         clear HN HO HB T3))
    refine wp_region_noPanic ?_
    refine wp_region_held_drew (S := fun X => URow X g 41 (N) (p) M q false c k2) (by kernel_rfl) (T4.out.q.below (Below.refl _ _).drew T4.out.q.lt) (fun hHeld => ?_)
    refine' take_ 0 rfl (by kernel_rfl) (by kernel_rfl) (by kernel_rfl) (fun _ _ _ h => h) (by rfl) (fun wS hSw => ?_) hHeld ?_
    rotate_left
    focus (go_simp; (try with_reducible rfl); done)
    try simp only [Act.put, List.setIfInBounds_toArray, List.set_cons_zero, List.set_cons_succ]
    refine' take_ 1 rfl (by kernel_rfl) (by kernel_rfl) (by kernel_rfl) (fun _ _ _ h => h) (by rfl) (fun wS hSw => run_load_u wS 41 _ g rfl _ Tryz.underlying41 (by kernel_rfl) 41 hSw _ _ _ _ _) hHeld ?_
    try simp only [Act.put, List.setIfInBounds_toArray, List.set_cons_zero, List.set_cons_succ]
    refine' take_ 2 rfl (by kernel_rfl) (by kernel_rfl) (by kernel_rfl) (fun _ _ _ h => h) (by rfl) (fun wS hSw => ?_) hHeld ?_
    rotate_left
    focus (go_simp; (try with_reducible rfl); done)
    try simp only [Act.put, List.setIfInBounds_toArray, List.set_cons_zero, List.set_cons_succ]
    refine only_ 3 rfl (by kernel_rfl) (by rfl) (fun K hK => ?_)
    refine wp_store_u 41 _ _ rfl r rfl rfl hHeld.hb hHeld.hc (by kernel_rfl) 41 (T4.out.z.below (w' := _) (Below.refl _ _).drew T4.out.z.lt) ?_
    intro WZ HN HO HB
    have HZ := HN
    have BZ := Lib.hid (T4.out.b.drew.trans (HB.out.mono T4.out.lr))
    refine hK.out _ _ (hHeld.other HO.out T4.out.gr) (fun hHeld2 => ?_)
    clear hK K hHeld HN HO HB
    have hHeld := hHeld2
    clear hHeld2
    try simp only [Act.put]
    refine wpAnyH_done (by kernel_rfl) ?_ _
    refine NoPanic.normal ?_
    go_wp2
    exact bodyPost_ret (v := .tuple #[.int .i32 pv, uv (N) (p) M q false c k2]) (results_tc Tryz.results27 _ _ _ _ _ _ rfl (run_loadVar_u WZ r 41 _ Tryz.underlying41 (by kernel_rfl) 41 HZ.out) rfl) rfl ⟨by rw [HE.out], BZ.out⟩
  · have HE : Hid (uq (readR R reg) T (readL l reg) c k2 = uv N p M q l c k2) := Lib.hid (by rw [show readR R reg = R from if_neg h3, show readL l reg = l from if_neg h4, HU.out])
    clear hRl
    go_wp2_with fail
    refine wp_region_noPanic ?_
    refine wp_region_held_drew (S := fun X => URow X g 41 (N) (p) M q l c k2) (by kernel_rfl) (T3.out.q.below (Below.refl _ _).drew T3.out.q.lt) (fun hHeld => ?_)
    refine' take_ 0 rfl (by kernel_rfl) (by kernel_rfl) (by kernel_rfl) (fun _ _ _ h => h) (by rfl) (fun wS hSw => ?_) hHeld ?_
    rotate_left
    focus (go_simp; (try with_reducible rfl); done)
    try simp only [Act.put, List.setIfInBounds_toArray, List.set_cons_zero, List.set_cons_succ]
    refine' take_ 1 rfl (by kernel_rfl) (by kernel_rfl) (by kernel_rfl) (fun _ _ _ h => h) (by rfl) (fun wS hSw => run_load_u wS 41 _ g rfl _ Tryz.underlying41 (by kernel_rfl) 41 hSw _ _ _ _ _) hHeld ?_
    try simp only [Act.put, List.setIfInBounds_toArray, List.set_cons_zero, List.set_cons_succ]
    refine' take_ 2 rfl (by kernel_rfl) (by kernel_rfl) (by kernel_rfl) (fun _ _ _ h => h) (by rfl) (fun wS hSw => ?_) hHeld ?_
    rotate_left
    focus (go_simp; (try with_reducible rfl); done)
    try simp only [Act.put, List.setIfInBounds_toArray, List.set_cons_zero, List.set_cons_succ]
    refine only_ 3 rfl (by kernel_rfl) (by rfl) (fun K hK => ?_)
    refine wp_store_u 41 _ _ rfl r rfl rfl hHeld.hb hHeld.hc (by kernel_rfl) 41 (T3.out.z.below (w' := _) (Below.refl _ _).drew T3.out.z.lt) ?_
    intro WZ HN HO HB
    have HZ := HN
    have BZ := Lib.hid (T3.out.b.drew.trans (HB.out.mono T3.out.lr))
    refine hK.out _ _ (hHeld.other HO.out T3.out.gr) (fun hHeld2 => ?_)
    clear hK K hHeld HN HO HB
    have hHeld := hHeld2
    clear hHeld2
    try simp only [Act.put]
    refine wpAnyH_done (by kernel_rfl) ?_ _
    refine NoPanic.normal ?_
    go_wp2
    exact bodyPost_ret (v := .tuple #[.int .i32 pv, uv (N) (p) M q l c k2]) (results_tc Tryz.results27 _ _ _ _ _ _ rfl (run_loadVar_u WZ r 41 _ Tryz.underlying41 (by kernel_rfl) 41 HZ.out) rfl) rfl ⟨by rw [HE.out], BZ.out⟩
end Go.Proofs.YtkodoldkfeopdaaGreat.Ua
/- Rwrite -/
namespace Go.Proofs.YtkodoldkfeopdaaGreat.Ua
open Go.RowKit
set_option linter.unusedVariables false
set_option maxRecDepth 100000
set_option maxHeartbeats 400000 in
set_option maxRecDepth 100000 in
theorem rWriteU_any : WriteC 23 := by
  intro n bs m cs l c k reg v w h hg0 hg1 hv0 hv1
  have C1 := Lib.hid (fun W => rMendU_any n bs m cs l c k W h)
  have hRl := cutL_le n bs h.hb
  have hTl := cutL_le m cs h.hc
  have hlR : ∀ x ∈ cutL n bs, x < 256 := cutL_lt h.lb
  have hlT : ∀ x ∈ cutL m cs, x < 256 := cutL_lt h.lc
  have hc8 := h.c8
  generalize cutL n bs = R at *
  generalize cutL m cs = T at *
  have hk4 := kM_lt T k
  have hk0 : T = [] → kM T k = 0 := fun h => by rw [h, kM_nil]
  generalize hkk : kM T k = k2 at *
  clear hkk
  obtain ⟨N, p, hN, hp, hp8, hN2, hE1⟩ := ofV_parts R hRl
  obtain ⟨M, q, hM, hq, hq8, hM2, hE2⟩ := ofV_parts T hTl
  have HC1 : Hid (∀ W : World, Calls Tryz.prog 40 #[uv n bs m cs l c k] W fun x w' => x = .returned (uv N p M q l c k2) ∧ Below W.heap.size W w') := Lib.hid (fun W => by
    have h1 := C1.out W
    unfold uq at h1
    rw [hN, hp, hM, hq] at h1
    exact h1)
  have HM2 := Lib.hid hM2
  have HN2 := Lib.hid hN2
  have HIN := Lib.hid (mended_in (c := c) hRl hTl hN hp hM hq hlR hlT hc8 hk4)
  have HKK : Hid (kM T k2 = k2) := Lib.hid (by by_cases h0 : T = []; (· rw [h0, kM_nil, hk0 h0]); (· exact if_neg (by rintro (h1 | h1); omega; exact h0 h1)))
  clear C1
  have HC2 : Hid (∀ W : World, Calls Tryz.prog 41 #[qv M q, .int .u8 (lowN v : Nat)] W fun x w' => x = .returned (pushV T (lowN v)) ∧ Below W.heap.size W w') := Lib.hid (fun W => by
    have h1 := rPush_any M q (lowN v) W hq8 HIN.out.1.m0 HIN.out.1.m1
    rw [HIN.out.2.2] at h1
    exact h1)
  have HW : Hid (v % 256 = ((lowN v : Nat) : Int)) := Lib.hid (lowN_cast v).symm
  have HUR : Hid (∀ (T' : List Nat) (l' : Bool) (c' k' : Nat), uq R T' l' c' k' = uv N p ((min T'.length 8 : Nat) : Int) (pad T') l' c' k') := Lib.hid (fun T' l' c' k' => by unfold uq; rw [hN, hp])
  have HU : Hid (∀ c', uq R T l c' k2 = uv N p M q l c' k2) := Lib.hid (fun c' => by rw [HUR.out, hM, hq])
  have HE2 := Lib.hid hE2
  clear hN hp hE1 hN2 hlR hlT hRl hM hq hE2 hM2
  unfold uv
  go_enter Tryz.func23, Tryz.ntmps23
  go_upto_region 1 with (fail)
  refine name_two (Q := fun X => Code.wp _ _ _ _ X) ?_
  intro W0 hq1 hq2 hB0
  have T0 := Lib.hid (Tw.new h.hb h.hc 41 hq1 hq2 hB0)
  clear hq1 hq2 hB0
  obtain ⟨g, hg⟩ : ∃ g, w.heap.size = g := ⟨_, rfl⟩
  obtain ⟨r, hr⟩ : ∃ r, w.heap.size + 1 = r := ⟨_, rfl⟩
  rw [hr, hg] at T0 ⊢
  clear hr hg
  go_upto_region 2 with (first
      | ((with_reducible show wpList _ _ _ (⟨none, .store 41 (.tmp 3) (.tmp 8), _, _, _, _⟩ :: _) _ _); refine wpList_store_u rfl 41 _ _ rfl g (by exact rfl) (by exact rfl) (by assumption) (by assumption) (by kernel_rfl) 41 T1.out.q ?_; intro WT2 HN HO HB
         have T2 := Lib.hid (T1.out.setG HN.out HO.out HB.out)
         clear HN HO HB T1)
      | (go_at_call 40; refine (HC1.out _).mono ?_; rintro e WT1 ⟨rfl, hB⟩
         have T1 := Lib.hid (T0.out.under hB)
         clear hB T0)
      | ((with_reducible show wpList _ _ _ (⟨some 7, .load 41 (.tmp 3), _, _, _, _⟩ :: _) _ _); refine wpList_load_u (by rfl) 41 _ rfl g (by exact rfl) _ Tryz.underlying41 (by kernel_rfl) 41 T0.out.q ?_))
  by_cases h3 : reg = 3
  · subst h3
    by_cases h8 : T.length = 8
    · have HE : Hid (uq R (writeT T 3 v) l (writeC c 3 v) k2 = uv N p M q l c k2) := Lib.hid (by rw [show writeT T 3 v = addL T (lowN v) from if_pos rfl, show addL T (lowN v) = T from if_neg (by omega), show writeC c 3 v = c from if_neg (by decide), HU.out])
      rw [pushV_full h8, HE2.out] at HC2
      clear hTl h8
      go_wp2_with (first
      | ((with_reducible show wpList _ _ _ (⟨none, .store 41 (.tmp 6) (.tmp 25), _, _, _, _⟩ :: _) _ _); refine wpList_store_u rfl 41 _ _ rfl r (by exact rfl) (by exact rfl) T4.out.q.hb T4.out.q.hc (by kernel_rfl) 41 T4.out.z ?_; intro WZ HN HO HB
         have HZ := HN
         have BZ := Lib.hid (T4.out.b.trans (HB.out.mono T4.out.lr))
         clear HN HO HB)
      | ((with_reducible show wpList _ _ _ (⟨some 25, .load 41 (.tmp 3), _, _, _, _⟩ :: _) _ _); refine wpList_load_u (by rfl) 41 _ rfl g (by exact rfl) _ Tryz.underlying41 (by kernel_rfl) 41 T4.out.q ?_)
      | ((with_reducible show wpList _ _ _ (⟨none, .store 39 (.tmp 19) (.tmp 17), _, _, _, _⟩ :: _) _ _); refine wpList_store_tx rfl 39 _ _ rfl g (by exact rfl) (by exact rfl) (by assumption) (by kernel_rfl) 41 T3.out.q ?_; intro WT4 HN HO HB
         have T4 := Lib.hid (T3.out.setG HN.out HO.out HB.out)
         clear HN HO HB T3)
      | (go_at_call 41; rw [HW.out]; refine (HC2.out _).mono ?_; rintro e WT3 ⟨rfl, hB⟩
         have T3 := Lib.hid (T2.out.under hB)
         clear hB T2)
      | ((with_reducible show wpList _ _ _ (⟨some 13, .load 39 (.tmp 12), _, _, _, _⟩ :: _) _ _); refine wpList_load_q9 rfl 39 _ rfl g 9 (by exact rfl) _ Tryz.underlying39 (by kernel_rfl) T2.out.q.tx T2.out.q.hc ?_))
      exact bodyPost_ret (v := uv N p (M) (q) l (c) k2) (results_c Tryz.results23 _ _ _ _ _ rfl (run_loadVar_u WZ r 41 _ Tryz.underlying41 (by kernel_rfl) 41 HZ.out)) rfl ⟨by first | (rw [HE.out]; done) | (rw [HE.out]; rfl), BZ.out⟩
    · have hT' : (T ++ [lowN v]).length ≤ 8 := by simp; omega
      obtain ⟨M', q', hM', hq', hq8', -, hE'⟩ := ofV_parts (T ++ [lowN v]) hT'
      have HE : Hid (uq R (writeT T 3 v) l (writeC c 3 v) k2 = uv N p M' q' l c k2) := Lib.hid (by rw [show writeT T 3 v = addL T (lowN v) from if_pos rfl, show addL T (lowN v) = T ++ [lowN v] from if_pos (by omega), show writeC c 3 v = c from if_neg (by decide), HUR.out, hM', hq'])
      rw [pushV_room (by omega), hE'] at HC2
      clear hTl h8 hT' hM' hq' hE'
      go_wp2_with (first
      | ((with_reducible show wpList _ _ _ (⟨none, .store 41 (.tmp 6) (.tmp 25), _, _, _, _⟩ :: _) _ _); refine wpList_store_u rfl 41 _ _ rfl r (by exact rfl) (by exact rfl) T4.out.q.hb T4.out.q.hc (by kernel_rfl) 41 T4.out.z ?_; intro WZ HN HO HB
         have HZ := HN
         have BZ := Lib.hid (T4.out.b.trans (HB.out.mono T4.out.lr))
         clear HN HO HB)
      | ((with_reducible show wpList _ _ _ (⟨some 25, .load 41 (.tmp 3), _, _, _, _⟩ :: _) _ _); refine wpList_load_u (by rfl) 41 _ rfl g (by exact rfl) _ Tryz.underlying41 (by kernel_rfl) 41 T4.out.q ?_)
      | ((with_reducible show wpList _ _ _ (⟨none, .store 39 (.tmp 19) (.tmp 17), _, _, _, _⟩ :: _) _ _); refine wpList_store_tx rfl 39 _ _ rfl g (by exact rfl) (by exact rfl) (by assumption) (by kernel_rfl) 41 T3.out.q ?_; intro WT4 HN HO HB
         have T4 := Lib.hid (T3.out.setG HN.out HO.out HB.out)
         clear HN HO HB T3)
      | (go_at_call 41; rw [HW.out]; refine (HC2.out _).mono ?_; rintro e WT3 ⟨rfl, hB⟩
         have T3 := Lib.hid (T2.out.under hB)
         clear hB T2)
      | ((with_reducible show wpList _ _ _ (⟨some 13, .load 39 (.tmp 12), _, _, _, _⟩ :: _) _ _); refine wpList_load_q9 rfl 39 _ rfl g 9 (by exact rfl) _ Tryz.underlying39 (by kernel_rfl) T2.out.q.tx T2.out.q.hc ?_))
      exact bodyPost_ret (v := uv N p (M') (q') l (c) k2) (results_c Tryz.results23 _ _ _ _ _ rfl (run_loadVar_u WZ r 41 _ Tryz.underlying41 (by kernel_rfl) 41 HZ.out)) rfl ⟨by first | (rw [HE.out]; done) | (rw [HE.out]; rfl), BZ.out⟩
  by_cases h5 : reg = 5
  · subst h5
    have HE : Hid (uq R (writeT T 5 v) l (writeC c 5 v) k2 = uv N p M q l (lowN v) k2) := Lib.hid (by rw [show writeT T 5 v = T from if_neg (by decide), show writeC c 5 v = lowN v from if_pos rfl, HU.out])
    clear hTl
    go_wp2_with (first
      | ((with_reducible show wpList _ _ _ (⟨none, .store 41 (.tmp 6) (.tmp 25), _, _, _, _⟩ :: _) _ _); refine wpList_store_u rfl 41 _ _ rfl r (by exact rfl) (by exact rfl) T3.out.q.hb T3.out.q.hc (by kernel_rfl) 41 T3.out.z ?_; intro WZ HN HO HB
         have HZ := HN
         have BZ := Lib.hid (T3.out.b.trans (HB.out.mono T3.out.lr))
         clear HN HO HB)
      | ((with_reducible show wpList _ _ _ (⟨some 25, .load 41 (.tmp 3), _, _, _, _⟩ :: _) _ _); refine wpList_load_u (by rfl) 41 _ rfl g (by exact rfl) _ Tryz.underlying41 (by kernel_rfl) 41 T3.out.q ?_)
      | ((with_reducible show wpList _ _ _ (⟨none, .store 5 (.tmp 24) (.tmp 23), _, _, _, _⟩ :: _) _ _); refine wpList_store_j rfl 5 _ _ rfl g 19 (by exact rfl) (.int .u8 ((lowN v : Nat) : Int)) (by rw [← HW.out]; exact rfl) rfl (by kernel_rfl) 41 T2.out.q (by decide) (uc_set_c T2.out.q.hb T2.out.q.hc) T2.out.q.hb T2.out.q.hc ?_; intro WT3 HN HO HB
         have T3 := Lib.hid (T2.out.setG HN.out HO.out HB.out)
         clear HN HO HB T2))
    exact bodyPost_ret (v := uv N p (M) (q) l (lowN v) k2) (results_c Tryz.results23 _ _ _ _ _ rfl (run_loadVar_u WZ r 41 _ Tryz.underlying41 (by kernel_rfl) 41 HZ.out)) rfl ⟨by first | (rw [HE.out]; done) | (rw [HE.out]; rfl), BZ.out⟩
  · have HE : Hid (uq R (writeT T reg v) l (writeC c reg v) k2 = uv N p M q l c k2) := Lib.hid (by rw [show writeT T reg v = T from if_neg h3, show writeC c reg v = c from if_neg h5, HU.out])
    clear hTl
    go_wp2_with (first
      | ((with_reducible show wpList _ _ _ (⟨none, .store 41 (.tmp 6) (.tmp 25), _, _, _, _⟩ :: _) _ _); refine wpList_store_u rfl 41 _ _ rfl r (by exact rfl) (by exact rfl) T2.out.q.hb T2.out.q.hc (by kernel_rfl) 41 T2.out.z ?_; intro WZ HN HO HB
         have HZ := HN
         have BZ := Lib.hid (T2.out.b.trans (HB.out.mono T2.out.lr))
         clear HN HO HB)
      | ((with_reducible show wpList _ _ _ (⟨some 25, .load 41 (.tmp 3), _, _, _, _⟩ :: _) _ _); refine wpList_load_u (by rfl) 41 _ rfl g (by exact rfl) _ Tryz.underlying41 (by kernel_rfl) 41 T2.out.q ?_))
    exact bodyPost_ret (v := uv N p (M) (q) l (c) k2) (results_c Tryz.results23 _ _ _ _ _ rfl (run_loadVar_u WZ r 41 _ Tryz.underlying41 (by kernel_rfl) 41 HZ.out)) rfl ⟨by first | (rw [HE.out]; done) | (rw [HE.out]; rfl), BZ.out⟩
end Go.Proofs.YtkodoldkfeopdaaGreat.Ua
/- Rarrive -/
namespace Go.Proofs.YtkodoldkfeopdaaGreat.Ua
open Go.RowKit
set_option linter.unusedVariables false
set_option maxRecDepth 100000
set_option maxRecDepth 100000 in
theorem rArriveU_any : ArriveC 33 := by
  intro n bs m cs l c k b w h hb8
  have C1 := Lib.hid (fun W => rMendU_any n bs m cs l c k W h)
  have hRl := cutL_le n bs h.hb
  have hTl := cutL_le m cs h.hc
  have hlR : ∀ x ∈ cutL n bs, x < 256 := cutL_lt h.lb
  have hlT : ∀ x ∈ cutL m cs, x < 256 := cutL_lt h.lc
  have hc8 := h.c8
  generalize cutL n bs = R at *
  generalize cutL m cs = T at *
  have hk4 := kM_lt T k
  have hk0 : T = [] → kM T k = 0 := fun h => by rw [h, kM_nil]
  generalize hkk : kM T k = k2 at *
  clear hkk
  obtain ⟨N, p, hN, hp, hp8, hN2, hE1⟩ := ofV_parts R hRl
  obtain ⟨M, q, hM, hq, hq8, hM2, hE2⟩ := ofV_parts T hTl
  have HC1 : Hid (∀ W : World, Calls Tryz.prog 40 #[uv n bs m cs l c k] W fun x w' => x = .returned (uv N p M q l c k2) ∧ Below W.heap.size W w') := Lib.hid (fun W => by
    have h1 := C1.out W
    unfold uq at h1
    rw [hN, hp, hM, hq] at h1
    exact h1)
  have HM2 := Lib.hid hM2
  have HN2 := Lib.hid hN2
  have HIN := Lib.hid (mended_in (c := c) hRl hTl hN hp hM hq hlR hlT hc8 hk4)
  have HKK : Hid (kM T k2 = k2) := Lib.hid (by by_cases h0 : T = []; (· rw [h0, kM_nil, hk0 h0]); (· exact if_neg (by rintro (h1 | h1); omega; exact h0 h1)))
  clear C1
  have HC2 : Hid (∀ W : World, Calls Tryz.prog 41 #[qv N p, .int .u8 b] W fun x w' => x = .returned (pushV R b) ∧ Below W.heap.size W w') := Lib.hid (fun W => by
    have h1 := rPush_any N p b W hp8 HIN.out.1.n0 HIN.out.1.n1
    rw [HIN.out.2.1] at h1
    exact h1)
  have HUT : Hid (∀ (R' : List Nat) (l' : Bool) (c' k' : Nat), uq R' T l' c' k' = uv ((min R'.length 8 : Nat) : Int) (pad R') M q l' c' k') := Lib.hid (fun R' l' c' k' => by unfold uq; rw [hM, hq])
  have HU : Hid (∀ l', uq R T l' c k2 = uv N p M q l' c k2) := Lib.hid (fun l' => by rw [HUT.out, hN, hp])
  have HE1 := Lib.hid hE1
  clear hN hp hE1 hN2 hlR hlT hTl hM hq hE2 hM2
  unfold uv
  go_enter Tryz.func33, Tryz.ntmps33
  go_upto_region 1 with (fail)
  refine name_two (Q := fun X => Code.wp _ _ _ _ X) ?_
  intro W0 hq1 hq2 hB0
  have T0 := Lib.hid (Tw.new h.hb h.hc 41 hq1 hq2 hB0)
  clear hq1 hq2 hB0
  obtain ⟨g, hg⟩ : ∃ g, w.heap.size = g := ⟨_, rfl⟩
  obtain ⟨r, hr⟩ : ∃ r, w.heap.size + 1 = r := ⟨_, rfl⟩
  rw [hr, hg] at T0 ⊢
  clear hr hg
  by_cases h8 : R.length = 8
  · have HE : Hid (uq (addL R b) T (arriveL R l) c k2 = uv N p M q true c k2) := Lib.hid (by rw [show addL R b = R from if_neg (by omega), show arriveL R l = true from if_neg (by omega), HU.out])
    have HA : Hid (asksU R c = false) := Lib.hid (by unfold asksU; rw [decide_eq_false (by omega)]; rfl)
    rw [pushV_full h8, HE1.out] at HC2
    clear hRl h8
    go_wp2_with (first
      | ((with_reducible show wpList _ _ _ (⟨none, .store 41 (.tmp 4) (.tmp 20), _, _, _, _⟩ :: _) _ _); refine wpList_store_u rfl 41 _ _ rfl r (by exact rfl) (by exact rfl) T5.out.q.hb T5.out.q.hc (by kernel_rfl) 41 T5.out.z ?_; intro WZ HN HO HB
         have HZ := HN
         have BZ := Lib.hid (T5.out.b.trans (HB.out.mono T5.out.lr))
         clear HN HO HB)
      | ((with_reducible show wpList _ _ _ (⟨some 20, .load 41 (.tmp 2), _, _, _, _⟩ :: _) _ _); refine wpList_load_u (by rfl) 41 _ rfl g (by exact rfl) _ Tryz.underlying41 (by kernel_rfl) 41 T5.out.q ?_)
      | ((with_reducible show wpList _ _ _ (⟨none, .store 4 (.tmp 19) _, _, _, _, _⟩ :: _) _ _); refine wpList_store_j rfl 4 _ _ rfl g 18 (by exact rfl) (.bool true) (by exact rfl) rfl (by kernel_rfl) 41 T4.out.q (by decide) (uc_set_l T4.out.q.hb T4.out.q.hc) T4.out.q.hb T4.out.q.hc ?_; intro WT5 HN HO HB
         have T5 := Lib.hid (T4.out.setG HN.out HO.out HB.out)
         clear HN HO HB T4)
      | ((with_reducible show wpList _ _ _ (⟨none, .store 39 (.tmp 6) (.tmp 15), _, _, _, _⟩ :: _) _ _); refine wpList_store_q rfl 39 _ _ rfl (WT3.heap.size) (by exact rfl) (N) (p) (by exact rfl) (by assumption) (by kernel_rfl) 39 _ _ (show QRow _ _ _ 0 Z8 from alloc_at _ _) rfl ?_; intro WT4 HN HO HB
         have HQ := HN
         have T4 := Lib.hid (T3.out.under (((Below.refl _ _).alloc (Nat.le_refl _) _).trans HB.out))
         have HS := Lib.hid (Nat.ne_of_lt T3.out.q.lt)
         clear HN HO HB T3)
      | (go_at_call 41; refine (HC2.out _).mono ?_; rintro e WT3 ⟨rfl, hB⟩
         have T3 := Lib.hid (T2.out.under hB)
         clear hB T2)
      | ((with_reducible show wpList _ _ _ (⟨some 12, .load 39 (.tmp 11), _, _, _, _⟩ :: _) _ _); refine wpList_load_q9 rfl 39 _ rfl g 0 (by exact rfl) _ Tryz.underlying39 (by kernel_rfl) T2.out.q.rx T2.out.q.hb ?_)
      | ((with_reducible show wpList _ _ _ (⟨none, .store 41 (.tmp 2) (.tmp 9), _, _, _, _⟩ :: _) _ _); refine wpList_store_u rfl 41 _ _ rfl g (by exact rfl) (by exact rfl) (by assumption) (by assumption) (by kernel_rfl) 41 T1.out.q ?_; intro WT2 HN HO HB
         have T2 := Lib.hid (T1.out.setG HN.out HO.out HB.out)
         clear HN HO HB T1)
      | (go_at_call 40; refine (HC1.out _).mono ?_; rintro e WT1 ⟨rfl, hB⟩
         have T1 := Lib.hid (T0.out.under hB)
         clear hB T0)
      | ((with_reducible show wpList _ _ _ (⟨some 8, .load 41 (.tmp 2), _, _, _, _⟩ :: _) _ _); refine wpList_load_u (by rfl) 41 _ rfl g (by exact rfl) _ Tryz.underlying41 (by kernel_rfl) 41 T0.out.q ?_))
    exact bodyPost_ret (v := .tuple #[uv (N) (p) M q true c k2, .bool false]) (results_ct Tryz.results33 _ _ _ _ _ _ rfl (run_loadVar_u WZ r 41 _ Tryz.underlying41 (by kernel_rfl) 41 HZ.out) rfl) rfl ⟨by first | (rw [HE.out, HA.out]; done) | (rw [HE.out, HA.out]; rfl), BZ.out⟩
  · have hR' : (R ++ [b]).length ≤ 8 := by simp; omega
    obtain ⟨N', p', hN', hp', hp8', -, hE'⟩ := ofV_parts (R ++ [b]) hR'
    have HE : Hid (uq (addL R b) T (arriveL R l) c k2 = uv N' p' M q l c k2) := Lib.hid (by rw [show addL R b = R ++ [b] from if_pos (by omega), show arriveL R l = l from if_pos (by omega), HUT.out, hN', hp'])
    have hs := bit_and1 c hc8
    obtain ⟨b2, hb2⟩ : ∃ b2, decide (c % 2 = 1) = b2 := ⟨_, rfl⟩
    have HA : Hid (asksU R c = b2) := Lib.hid (by unfold asksU; rw [decide_eq_true (by omega), Bool.true_and, hb2])
    have HS1 : Hid (bits .and .u8 (c : Int) 1 = if b2 = true then 1 else 0) := Lib.hid (by rw [hs, ← hb2]; simp)
    rw [pushV_room (by omega), hE'] at HC2
    clear hRl h8 hN' hp' hE' hR' hb2 hs
    cases b2
    · replace HS1 : Hid (bits .and .u8 (c : Int) 1 = 0) := HS1
      go_wp2_with (first
      | ((with_reducible show wpList _ _ _ (⟨none, .store 39 (.tmp 22) (.tmp 21), _, _, _, _⟩ :: _) _ _); refine wpList_store_rx rfl 39 _ _ rfl g (by exact rfl) (by exact rfl) (by assumption) (by kernel_rfl) 41 T4.out.q ?_; intro WT5 HN HO HB
         have T5 := Lib.hid (T4.out.setG HN.out HO.out HB.out)
         clear HN HO HB T4)
      | ((with_reducible show wpList _ _ _ (⟨some 21, .load 39 (.tmp 6), _, _, _, _⟩ :: _) _ _); refine wpList_load_q rfl 39 _ rfl (WT3.heap.size) (by exact rfl) _ Tryz.underlying39 (by kernel_rfl) 39 _ _ HQ.out (by assumption) ?_)
      | ((with_reducible show wpList _ _ _ (⟨none, .store 39 (.tmp 6) (.tmp 15), _, _, _, _⟩ :: _) _ _); refine wpList_store_q rfl 39 _ _ rfl (WT3.heap.size) (by exact rfl) (N') (p') (by exact rfl) (by assumption) (by kernel_rfl) 39 _ _ (show QRow _ _ _ 0 Z8 from alloc_at _ _) rfl ?_; intro WT4 HN HO HB
         have HQ := HN
         have T4 := Lib.hid (T3.out.under (((Below.refl _ _).alloc (Nat.le_refl _) _).trans HB.out))
         have HS := Lib.hid (Nat.ne_of_lt T3.out.q.lt)
         clear HN HO HB T3)
      | (go_at_call 41; refine (HC2.out _).mono ?_; rintro e WT3 ⟨rfl, hB⟩
         have T3 := Lib.hid (T2.out.under hB)
         clear hB T2)
      | ((with_reducible show wpList _ _ _ (⟨some 12, .load 39 (.tmp 11), _, _, _, _⟩ :: _) _ _); refine wpList_load_q9 rfl 39 _ rfl g 0 (by exact rfl) _ Tryz.underlying39 (by kernel_rfl) T2.out.q.rx T2.out.q.hb ?_)
      | ((with_reducible show wpList _ _ _ (⟨none, .store 41 (.tmp 2) (.tmp 9), _, _, _, _⟩ :: _) _ _); refine wpList_store_u rfl 41 _ _ rfl g (by exact rfl) (by exact rfl) (by assumption) (by assumption) (by kernel_rfl) 41 T1.out.q ?_; intro WT2 HN HO HB
         have T2 := Lib.hid (T1.out.setG HN.out HO.out HB.out)
         clear HN HO HB T1)
      | (go_at_call 40; refine (HC1.out _).mono ?_; rintro e WT1 ⟨rfl, hB⟩
         have T1 := Lib.hid (T0.out.under hB)
         clear hB T0)
      | ((with_reducible show wpList _ _ _ (⟨some 8, .load 41 (.tmp 2), _, _, _, _⟩ :: _) _ _); refine wpList_load_u (by rfl) 41 _ rfl g (by exact rfl) _ Tryz.underlying41 (by kernel_rfl) 41 T0.out.q ?_))
      refine wp_region_noPanic ?_
      refine wp_region_held_drew (S := fun X => URow X g 41 N' p' M q l c k2) (by kernel_rfl) (T5.out.q.below (Below.refl _ _).drew T5.out.q.lt) (fun hHeld => ?_)
      refine' take_ 0 rfl (by kernel_rfl) (by kernel_rfl) (by kernel_rfl) (fun _ _ _ h => h) (by rfl) (fun wS hSw => run_load_u wS 41 _ g rfl _ Tryz.underlying41 (by kernel_rfl) 41 hSw _ _ _ _ _) hHeld ?_
      try simp only [Act.put, List.setIfInBounds_toArray, List.set_cons_zero, List.set_cons_succ]
      refine' take_ 1 rfl (by kernel_rfl) (by kernel_rfl) (by kernel_rfl) (fun _ _ _ h => h) (by rfl) (fun wS hSw => ?_) hHeld ?_
      rotate_left
      focus (go_simp; (try with_reducible rfl); done)
      try simp only [Act.put, List.setIfInBounds_toArray, List.set_cons_zero, List.set_cons_succ]
      refine' take_ 2 rfl (by kernel_rfl) (by kernel_rfl) (by kernel_rfl) (fun _ _ _ h => h) (by rfl) (fun wS hSw => ?_) hHeld ?_
      rotate_left
      focus (have s0 := hSw.c19; clear hSw; go_simp; (try with_reducible rfl); done)
      try simp only [Act.put, List.setIfInBounds_toArray, List.set_cons_zero, List.set_cons_succ]
      refine' take_ 3 rfl (by kernel_rfl) (by kernel_rfl) (by kernel_rfl) (fun _ _ _ h => h) (by rfl) (fun wS hSw => ?_) hHeld ?_
      rotate_left
      focus (go_simp; rw [HS1.out]; (try with_reducible rfl); done)
      try simp only [Act.put, List.setIfInBounds_toArray, List.set_cons_zero, List.set_cons_succ]
      refine' take_ 4 rfl (by kernel_rfl) (by kernel_rfl) (by kernel_rfl) (fun _ _ _ h => h) (by rfl) (fun wS hSw => ?_) hHeld ?_
      rotate_left
      focus (go_simp; (try with_reducible rfl); done)
      try simp only [Act.put, List.setIfInBounds_toArray, List.set_cons_zero, List.set_cons_succ]
      refine only_ 5 rfl (by kernel_rfl) (by rfl) (fun K hK => ?_)
      refine wp_store_u 41 _ _ rfl r rfl rfl hHeld.hb hHeld.hc (by kernel_rfl) 41 (T5.out.z.below (w' := _) (Below.refl _ _).drew T5.out.z.lt) ?_
      intro WZ HN HO HB
      have HZ := HN
      have BZ := Lib.hid (T5.out.b.drew.trans (HB.out.mono T5.out.lr))
      refine hK.out _ _ (hHeld.other HO.out T5.out.gr) (fun hHeld2 => ?_)
      clear hK K hHeld HN HO HB
      have hHeld := hHeld2
      clear hHeld2
      try simp only [Act.put]
      refine' take_ 6 rfl (by kernel_rfl) (by kernel_rfl) (by kernel_rfl) (fun _ _ _ h => h) (by rfl) (fun wS hSw => ?_) hHeld ?_
      rotate_left
      focus (go_simp; (try with_reducible rfl); done)
      try simp only [Act.put, List.setIfInBounds_toArray, List.set_cons_zero, List.set_cons_succ]
      refine wpAnyH_done (by kernel_rfl) ?_ _
      refine NoPanic.normal ?_
      go_wp2
      exact bodyPost_ret (v := .tuple #[uv (N') (p') M q l c k2, .bool false]) (results_ct Tryz.results33 _ _ _ _ _ _ rfl (run_loadVar_u WZ r 41 _ Tryz.underlying41 (by kernel_rfl) 41 HZ.out) rfl) rfl ⟨by first | (rw [HE.out, HA.out]; done) | (rw [HE.out, HA.out]; rfl), BZ.out⟩
    · replace HS1 : Hid (bits .and .u8 (c : Int) 1 = 1) := HS1
      go_wp2_with (first
      | ((with_reducible show wpList _ _ _ (⟨none, .store 39 (.tmp 22) (.tmp 21), _, _, _, _⟩ :: _) _ _); refine wpList_store_rx rfl 39 _ _ rfl g (by exact rfl) (by exact rfl) (by assumption) (by kernel_rfl) 41 T4.out.q ?_; intro WT5 HN HO HB
         have T5 := Lib.hid (T4.out.setG HN.out HO.out HB.out)
         clear HN HO HB T4)
      | ((with_reducible show wpList _ _ _ (⟨some 21, .load 39 (.tmp 6), _, _, _, _⟩ :: _) _ _); refine wpList_load_q rfl 39 _ rfl (WT3.heap.size) (by exact rfl) _ Tryz.underlying39 (by kernel_rfl) 39 _ _ HQ.out (by assumption) ?_)
      | ((with_reducible show wpList _ _ _ (⟨none, .store 39 (.tmp 6) (.tmp 15), _, _, _, _⟩ :: _) _ _); refine wpList_store_q rfl 39 _ _ rfl (WT3.heap.size) (by exact rfl) (N') (p') (by exact rfl) (by assumption) (by kernel_rfl) 39 _ _ (show QRow _ _ _ 0 Z8 from alloc_at _ _) rfl ?_; intro WT4 HN HO HB
         have HQ := HN
         have T4 := Lib.hid (T3.out.under (((Below.refl _ _).alloc (Nat.le_refl _) _).trans HB.out))
         have HS := Lib.hid (Nat.ne_of_lt T3.out.q.lt)
         clear HN HO HB T3)
      | (go_at_call 41; refine (HC2.out _).mono ?_; rintro e WT3 ⟨rfl, hB⟩
         have T3 := Lib.hid (T2.out.under hB)
         clear hB T2)
      | ((with_reducible show wpList _ _ _ (⟨some 12, .load 39 (.tmp 11), _, _, _, _⟩ :: _) _ _); refine wpList_load_q9 rfl 39 _ rfl g 0 (by exact rfl) _ Tryz.underlying39 (by kernel_rfl) T2.out.q.rx T2.out.q.hb ?_)
      | ((with_reducible show wpList _ _ _ (⟨none, .store 41 (.tmp 2) (.tmp 9), _, _, _, _⟩ :: _) _ _); refine wpList_store_u rfl 41 _ _ rfl g (by exact rfl) (by exact rfl) (by assumption) (by assumption) (by kernel_rfl) 41 T1.out.q ?_; intro WT2 HN HO HB
         have T2 := Lib.hid (T1.out.setG HN.out HO.out HB.out)
         clear HN HO HB T1)
      | (go_at_call 40; refine (HC1.out _).mono ?_; rintro e WT1 ⟨rfl, hB⟩
         have T1 := Lib.hid (T0.out.under hB)
         clear hB T0)
      | ((with_reducible show wpList _ _ _ (⟨some 8, .load 41 (.tmp 2), _, _, _, _⟩ :: _) _ _); refine wpList_load_u (by rfl) 41 _ rfl g (by exact rfl) _ Tryz.underlying41 (by kernel_rfl) 41 T0.out.q ?_))
      refine wp_region_noPanic ?_
      refine wp_region_held_drew (S := fun X => URow X g 41 N' p' M q l c k2) (by kernel_rfl) (T5.out.q.below (Below.refl _ _).drew T5.out.q.lt) (fun hHeld => ?_)
      refine' take_ 0 rfl (by kernel_rfl) (by kernel_rfl) (by kernel_rfl) (fun _ _ _ h => h) (by rfl) (fun wS hSw => run_load_u wS 41 _ g rfl _ Tryz.underlying41 (by kernel_rfl) 41 hSw _ _ _ _ _) hHeld ?_
      try simp only [Act.put, List.setIfInBounds_toArray, List.set_cons_zero, List.set_cons_succ]
      refine' take_ 1 rfl (by kernel_rfl) (by kernel_rfl) (by kernel_rfl) (fun _ _ _ h => h) (by rfl) (fun wS hSw => ?_) hHeld ?_
      rotate_left
      focus (go_simp; (try with_reducible rfl); done)
      try simp only [Act.put, List.setIfInBounds_toArray, List.set_cons_zero, List.set_cons_succ]
      refine' take_ 2 rfl (by kernel_rfl) (by kernel_rfl) (by kernel_rfl) (fun _ _ _ h => h) (by rfl) (fun wS hSw => ?_) hHeld ?_
      rotate_left
      focus (have s0 := hSw.c19; clear hSw; go_simp; (try with_reducible rfl); done)
      try simp only [Act.put, List.setIfInBounds_toArray, List.set_cons_zero, List.set_cons_succ]
      refine' take_ 3 rfl (by kernel_rfl) (by kernel_rfl) (by kernel_rfl) (fun _ _ _ h => h) (by rfl) (fun wS hSw => ?_) hHeld ?_
      rotate_left
      focus (go_simp; rw [HS1.out]; (try with_reducible rfl); done)
      try simp only [Act.put, List.setIfInBounds_toArray, List.set_cons_zero, List.set_cons_succ]
      refine' take_ 4 rfl (by kernel_rfl) (by kernel_rfl) (by kernel_rfl) (fun _ _ _ h => h) (by rfl) (fun wS hSw => ?_) hHeld ?_
      rotate_left
      focus (go_simp; (try with_reducible rfl); done)
      try simp only [Act.put, List.setIfInBounds_toArray, List.set_cons_zero, List.set_cons_succ]
      refine only_ 5 rfl (by kernel_rfl) (by rfl) (fun K hK => ?_)
      refine wp_store_u 41 _ _ rfl r rfl rfl hHeld.hb hHeld.hc (by kernel_rfl) 41 (T5.out.z.below (w' := _) (Below.refl _ _).drew T5.out.z.lt) ?_
      intro WZ HN HO HB
      have HZ := HN
      have BZ := Lib.hid (T5.out.b.drew.trans (HB.out.mono T5.out.lr))
      refine hK.out _ _ (hHeld.other HO.out T5.out.gr) (fun hHeld2 => ?_)
      clear hK K hHeld HN HO HB
      have hHeld := hHeld2
      clear hHeld2
      try simp only [Act.put]
      refine' take_ 6 rfl (by kernel_rfl) (by kernel_rfl) (by kernel_rfl) (fun _ _ _ h => h) (by rfl) (fun wS hSw => ?_) hHeld ?_
      rotate_left
      focus (go_simp; (try with_reducible rfl); done)
      try simp only [Act.put, List.setIfInBounds_toArray, List.set_cons_zero, List.set_cons_succ]
      refine wpAnyH_done (by kernel_rfl) ?_ _
      refine NoPanic.normal ?_
      go_wp2
      exact bodyPost_ret (v := .tuple #[uv (N') (p') M q l c k2, .bool true]) (results_ct Tryz.results33 _ _ _ _ _ _ rfl (run_loadVar_u WZ r 41 _ Tryz.underlying41 (by kernel_rfl) 41 HZ.out) rfl) rfl ⟨by first | (rw [HE.out, HA.out]; done) | (rw [HE.out, HA.out]; rfl), BZ.out⟩
end Go.Proofs.YtkodoldkfeopdaaGreat.Ua
/- Rtick -/
namespace Go.Proofs.YtkodoldkfeopdaaGreat.Ua
open Go.RowKit
set_option linter.unusedVariables false
set_option maxRecDepth 100000
set_option maxHeartbeats 400000 in
set_option maxRecDepth 100000 in
theorem rTickU_any : TickC 37 := by
  intro n bs m cs l c k w h
  have C1 := Lib.hid (fun W => rMendU_any n bs m cs l c k W h)
  have hRl := cutL_le n bs h.hb
  have hTl := cutL_le m cs h.hc
  have hlR : ∀ x ∈ cutL n bs, x < 256 := cutL_lt h.lb
  have hlT : ∀ x ∈ cutL m cs, x < 256 := cutL_lt h.lc
  have hc8 := h.c8
  generalize cutL n bs = R at *
  generalize cutL m cs = T at *
  have hk4 := kM_lt T k
  have hk0 : T = [] → kM T k = 0 := fun h => by rw [h, kM_nil]
  generalize hkk : kM T k = k2 at *
  clear hkk
  obtain ⟨N, p, hN, hp, hp8, hN2, hE1⟩ := ofV_parts R hRl
  obtain ⟨M, q, hM, hq, hq8, hM2, hE2⟩ := ofV_parts T hTl
  have HC1 : Hid (∀ W : World, Calls Tryz.prog 40 #[uv n bs m cs l c k] W fun x w' => x = .returned (uv N p M q l c k2) ∧ Below W.heap.size W w') := Lib.hid (fun W => by
    have h1 := C1.out W
    unfold uq at h1
    rw [hN, hp, hM, hq] at h1
    exact h1)
  have HM2 := Lib.hid hM2
  have HN2 := Lib.hid hN2
  have HIN := Lib.hid (mended_in (c := c) hRl hTl hN hp hM hq hlR hlT hc8 hk4)
  have HKK : Hid (kM T k2 = k2) := Lib.hid (by by_cases h0 : T = []; (· rw [h0, kM_nil, hk0 h0]); (· exact if_neg (by rintro (h1 | h1); omega; exact h0 h1)))
  clear C1
  have HC2 : Hid (∀ W : World, Calls Tryz.prog 48 #[qv M q] W fun x w' => x = .returned (popV T) ∧ Below W.heap.size W w') := Lib.hid (fun W => by
    have h1 := rPop_any M q W hq8 HIN.out.1.m0 HIN.out.1.m1
    rw [HIN.out.2.2] at h1
    exact h1)
  have HUR : Hid (∀ (T' : List Nat) (l' : Bool) (c' k' : Nat), uq R T' l' c' k' = uv N p ((min T'.length 8 : Nat) : Int) (pad T') l' c' k') := Lib.hid (fun T' l' c' k' => by unfold uq; rw [hN, hp])
  have HU : Hid (∀ k', uq R T l c k' = uv N p M q l c k') := Lib.hid (fun k' => by rw [HUR.out, hM, hq])
  clear hN hp hE1 hN2 hlR hlT hRl hM hq hE2 hM2
  unfold uv
  go_enter Tryz.func37, Tryz.ntmps37
  go_upto_region 1 with (fail)
  refine name_two (Q := fun X => Code.wp _ _ _ _ X) ?_
  intro W0 hq1 hq2 hB0
  have T0 := Lib.hid (Tw.new h.hb h.hc 41 hq1 hq2 hB0)
  clear hq1 hq2 hB0
  obtain ⟨g, hg⟩ : ∃ g, w.heap.size = g := ⟨_, rfl⟩
  obtain ⟨r, hr⟩ : ∃ r, w.heap.size + 1 = r := ⟨_, rfl⟩
  rw [hr, hg] at T0 ⊢
  clear hr hg
  go_upto_region 2 with (first
      | ((with_reducible show wpList _ _ _ (⟨none, .store 41 (.tmp 1) (.tmp 10), _, _, _, _⟩ :: _) _ _); refine wpList_store_u rfl 41 _ _ rfl g (by exact rfl) (by exact rfl) (by assumption) (by assumption) (by kernel_rfl) 41 T1.out.q ?_; intro WT2 HN HO HB
         have T2 := Lib.hid (T1.out.setG HN.out HO.out HB.out)
         have c9 := T2.out.q.n9
         have c20 := T2.out.q.c20
         clear HN HO HB T1)
      | (go_at_call 40; refine (HC1.out _).mono ?_; rintro e WT1 ⟨rfl, hB⟩
         have T1 := Lib.hid (T0.out.under hB)
         clear hB T0)
      | ((with_reducible show wpList _ _ _ (⟨some 9, .load 41 (.tmp 1), _, _, _, _⟩ :: _) _ _); refine wpList_load_u (by rfl) 41 _ rfl g (by exact rfl) _ Tryz.underlying41 (by kernel_rfl) 41 T0.out.q ?_))
  cases T with
  | nil =>
    have HE : Hid (uq R (tickT [] k2) l c (tickK [] k2) = uv N p M q l c 0) := Lib.hid (HU.out 0)
    have HE2 : Hid (tickB [] k2 = 0 ∧ sendsU [] k2 = false ∧ tickQ [] c k2 = false) := Lib.hid ⟨rfl, rfl, rfl⟩
    have hk20 : k2 = 0 := hk0 rfl
    have d1 : M = 0 := by simpa using HM2.out
    subst hk20
    subst d1
    clear hTl
    go_wp2_with (first
      | ((with_reducible show wpList _ _ _ (⟨none, .store 41 (.tmp 2) (.tmp 15), _, _, _, _⟩ :: _) _ _); refine wpList_store_u rfl 41 _ _ rfl r (by exact rfl) (by exact rfl) T2.out.q.hb T2.out.q.hc (by kernel_rfl) 41 T2.out.z ?_; intro WZ HN HO HB
         have HZ := HN
         have BZ := Lib.hid (T2.out.b.trans (HB.out.mono T2.out.lr))
         clear HN HO HB)
      | ((with_reducible show wpList _ _ _ (⟨some 15, .load 41 (.tmp 1), _, _, _, _⟩ :: _) _ _); refine wpList_load_u (by rfl) 41 _ rfl g (by exact rfl) _ Tryz.underlying41 (by kernel_rfl) 41 T2.out.q ?_))
    exact bodyPost_ret (v := .tuple #[uv N p (0) (q) l c (0), .int .u8 ((0 : Nat) : Int), .bool false, .bool false]) (results_cttt Tryz.results37 _ _ _ _ _ _ _ _ rfl (run_loadVar_u WZ r 41 _ Tryz.underlying41 (by kernel_rfl) 41 HZ.out) rfl rfl rfl) rfl ⟨by first | (rw [HE.out, HE2.out.1, HE2.out.2.1, HE2.out.2.2]; done) | (rw [HE.out, HE2.out.1, HE2.out.2.1, HE2.out.2.2]; rfl), BZ.out⟩
  | cons x ts =>
    have d1 : ¬ M = 0 := by rw [HM2.out]; simp; omega
    by_cases h3 : k2 = 3
    · subst h3
      have hts : ts.length ≤ 8 := by simp at hTl; omega
      obtain ⟨N', p', hN', hp', hp8', hN2', hE'⟩ := ofV_parts ts hts
      have hs : sendsU (x :: ts) 3 = true := rfl
      have HE : Hid (uq R (tickT (x :: ts) 3) l c (tickK (x :: ts) 3) = uv N p N' p' l c 0) := Lib.hid (by rw [show tickT (x :: ts) 3 = ts from rfl, show tickK (x :: ts) 3 = 0 from rfl, HUR.out, hN', hp'])
      have HNN := Lib.hid hN2'
      rw [show popV (x :: ts) = .tuple #[.int .u8 (x : Int), ofV ts, .bool true] from rfl, hE'] at HC2
      clear hN' hp' hE' hN2' hts hTl hs
      cases ts with
      | nil =>
        have d3 : N' = 0 := by simpa using HNN.out
        subst d3
        obtain ⟨b2, hb2⟩ : ∃ b2, decide (c / 2 % 2 = 1) = b2 := ⟨_, rfl⟩
        have HE2 : Hid (tickB [x] 3 = x ∧ sendsU [x] 3 = true ∧ tickQ [x] c 3 = b2) := Lib.hid ⟨rfl, rfl, by rw [← hb2]; rfl⟩
        have HQ8 : Hid (IntKind.u8.wrap ((c : Int) / 2) = (c : Int) / 2) := Lib.hid (by simp [IntKind.wrap, IntKind.bits, IntKind.signed]; omega)
        have HS1 : Hid (((c : Int) / 2).tmod 2 = if b2 = true then 1 else 0) := Lib.hid (by rw [← hb2]; simp only [decide_eq_true_eq]; rw [Int.tmod_eq_emod_of_nonneg (by omega)]; split <;> omega)
        clear hb2
        cases b2
        · replace HS1 : Hid (((c : Int) / 2).tmod 2 = 0) := HS1
          go_wp2_with (first
      | ((with_reducible show wpList _ _ _ (⟨none, .store 5 (.tmp 33) _, _, _, _, _⟩ :: _) _ _); refine wpList_store_j rfl 5 _ _ rfl g 20 (by exact rfl) (.int .u8 ((0 : Nat) : Int)) (by exact rfl) rfl (by kernel_rfl) 41 T6.out.q (by decide) (uc_set_k T6.out.q.hb T6.out.q.hc) T6.out.q.hb T6.out.q.hc ?_; intro WT7 HN HO HB
         have T7 := Lib.hid (T6.out.setG HN.out HO.out HB.out)
         have HQ3 : Hid (QRow WT7 WT4.heap.size 39 0 p') := Lib.hid ((HO.out _ NS.out.symm).trans HQ2.out)
         clear HQ2
         clear HN HO HB T6)
      | ((with_reducible show wpList _ _ _ (⟨none, .store 39 (.tmp 32) (.tmp 31), _, _, _, _⟩ :: _) _ _); refine wpList_store_tx rfl 39 _ _ rfl g (by exact rfl) (by exact rfl) (by assumption) (by kernel_rfl) 41 T5.out.q ?_; intro WT6 HN HO HB
         have T6 := Lib.hid (T5.out.setG HN.out HO.out HB.out)
         have HQ2 : Hid (QRow WT6 WT4.heap.size 39 0 p') := Lib.hid ((HO.out _ HS.out.symm).trans HQ.out)
         have NS := HS
         clear HQ HS
         clear HN HO HB T5)
      | ((with_reducible show wpList _ _ _ (⟨some 31, .load 39 (.tmp 7), _, _, _, _⟩ :: _) _ _); refine wpList_load_q rfl 39 _ rfl (WT4.heap.size) (by exact rfl) _ Tryz.underlying39 (by kernel_rfl) 39 _ _ HQ.out (by assumption) ?_)
      | ((with_reducible show wpList _ _ _ (⟨none, .store 39 (.tmp 7) (.tmp 29), _, _, _, _⟩ :: _) _ _); refine wpList_store_q rfl 39 _ _ rfl (WT4.heap.size) (by exact rfl) (0) (p') (by exact rfl) (by assumption) (by kernel_rfl) 39 _ _ (show QRow _ _ _ 0 Z8 from alloc_at _ _) rfl ?_; intro WT5 HN HO HB
         have HQ := HN
         have T5 := Lib.hid (T4.out.under (((Below.refl _ _).alloc (Nat.le_refl _) _).trans HB.out))
         have HS := Lib.hid (Nat.ne_of_lt T4.out.q.lt)
         have NR := Lib.hid (Nat.ne_of_lt T4.out.z.lt)
         clear HN HO HB T4)
      | (go_at_call 48; refine (HC2.out _).mono ?_; rintro e WT4 ⟨rfl, hB⟩
         have T4 := Lib.hid (T3.out.under hB)
         clear hB T3)
      | ((with_reducible show wpList _ _ _ (⟨some 26, .load 39 (.tmp 25), _, _, _, _⟩ :: _) _ _); refine wpList_load_q9 rfl 39 _ rfl g 9 (by exact rfl) _ Tryz.underlying39 (by kernel_rfl) T3.out.q.tx T3.out.q.hc ?_)
      | ((with_reducible show wpList _ _ _ (⟨none, .store 5 (.tmp 19) (.tmp 18), _, _, _, _⟩ :: _) _ _); refine wpList_store_j rfl 5 _ _ rfl g 20 (by exact rfl) (.int .u8 ((4 : Nat) : Int)) (by exact rfl) rfl (by kernel_rfl) 41 T2.out.q (by decide) (uc_set_k T2.out.q.hb T2.out.q.hc) T2.out.q.hb T2.out.q.hc ?_; intro WT3 HN HO HB
         have T3 := Lib.hid (T2.out.setG HN.out HO.out HB.out)
         have d20 := T3.out.q.c20
         clear HN HO HB T2))
          refine wp_region_noPanic ?_
          refine wp_region_held_drew (S := fun X => URow X g 41 N p 0 p' l c 0 ∧ QRow X WT4.heap.size 39 0 p') (by kernel_rfl) (⟨T7.out.q.below (Below.refl _ _).drew T7.out.q.lt, QRow.below HQ3.out (Below.refl _ _).drew HQ3.out.lt⟩) (fun hHeld => ?_)
          refine' take_ 0 rfl (by kernel_rfl) (by kernel_rfl) (by kernel_rfl) (fun _ _ _ h => h) (by rfl) (fun wS hSw => run_load_u wS 41 _ g rfl _ Tryz.underlying41 (by kernel_rfl) 41 hSw.1 _ _ _ _ _) hHeld ?_
          try simp only [Act.put, List.setIfInBounds_toArray, List.set_cons_zero, List.set_cons_succ]
          refine' take_ 1 rfl (by kernel_rfl) (by kernel_rfl) (by kernel_rfl) (fun _ _ _ h => h) (by rfl) (fun wS hSw => ?_) hHeld ?_
          rotate_left
          focus (go_simp; (try with_reducible rfl); done)
          try simp only [Act.put, List.setIfInBounds_toArray, List.set_cons_zero, List.set_cons_succ]
          refine' take_ 2 rfl (by kernel_rfl) (by kernel_rfl) (by kernel_rfl) (fun _ _ _ h => h) (by rfl) (fun wS hSw => ?_) hHeld ?_
          rotate_left
          focus (go_simp; (try with_reducible rfl); done)
          try simp only [Act.put, List.setIfInBounds_toArray, List.set_cons_zero, List.set_cons_succ]
          refine' take_ 3 rfl (by kernel_rfl) (by kernel_rfl) (by kernel_rfl) (fun _ _ _ h => h) (by rfl) (fun wS hSw => ?_) hHeld ?_
          rotate_left
          focus (have s0 := row_at hSw.2 0 _ rfl; clear hSw; go_simp; (try with_reducible rfl); done)
          try simp only [Act.put, List.setIfInBounds_toArray, List.set_cons_zero, List.set_cons_succ]
          refine' take_ 4 rfl (by kernel_rfl) (by kernel_rfl) (by kernel_rfl) (fun _ _ _ h => h) (by rfl) (fun wS hSw => ?_) hHeld ?_
          rotate_left
          focus (go_simp; (first | (rw [HNe.out]; done) | (rw [HNe.out]; with_reducible rfl) | (with_reducible rfl)))
          try simp only [Act.put, List.setIfInBounds_toArray, List.set_cons_zero, List.set_cons_succ]
          refine' take_ 5 rfl (by kernel_rfl) (by kernel_rfl) (by kernel_rfl) (fun _ _ _ h => h) (by rfl) (fun wS hSw => ?_) hHeld ?_
          rotate_left
          focus (go_simp; (try with_reducible rfl); done)
          try simp only [Act.put, List.setIfInBounds_toArray, List.set_cons_zero, List.set_cons_succ]
          refine' take_ 6 rfl (by kernel_rfl) (by kernel_rfl) (by kernel_rfl) (fun _ _ _ h => h) (by rfl) (fun wS hSw => ?_) hHeld ?_
          rotate_left
          focus (go_simp; (try with_reducible rfl); done)
          try simp only [Act.put, List.setIfInBounds_toArray, List.set_cons_zero, List.set_cons_succ]
          refine' take_ 7 rfl (by kernel_rfl) (by kernel_rfl) (by kernel_rfl) (fun _ _ _ h => h) (by rfl) (fun wS hSw => ?_) hHeld ?_
          rotate_left
          focus (have s0 := hSw.1.c19; clear hSw; go_simp; (try with_reducible rfl); done)
          try simp only [Act.put, List.setIfInBounds_toArray, List.set_cons_zero, List.set_cons_succ]
          refine' take_ 8 rfl (by kernel_rfl) (by kernel_rfl) (by kernel_rfl) (fun _ _ _ h => h) (by rfl) (fun wS hSw => ?_) hHeld ?_
          rotate_left
          focus (go_simp; rw [HQ8.out]; (try with_reducible rfl); done)
          try simp only [Act.put, List.setIfInBounds_toArray, List.set_cons_zero, List.set_cons_succ]
          refine' take_ 9 rfl (by kernel_rfl) (by kernel_rfl) (by kernel_rfl) (fun _ _ _ h => h) (by rfl) (fun wS hSw => ?_) hHeld ?_
          rotate_left
          focus (go_simp; rw [HS1.out]; (try with_reducible rfl); done)
          try simp only [Act.put, List.setIfInBounds_toArray, List.set_cons_zero, List.set_cons_succ]
          refine' take_ 10 rfl (by kernel_rfl) (by kernel_rfl) (by kernel_rfl) (fun _ _ _ h => h) (by rfl) (fun wS hSw => ?_) hHeld ?_
          rotate_left
          focus (go_simp; (try with_reducible rfl); done)
          try simp only [Act.put, List.setIfInBounds_toArray, List.set_cons_zero, List.set_cons_succ]
          refine' take_ 11 rfl (by kernel_rfl) (by kernel_rfl) (by kernel_rfl) (fun _ _ _ h => h) (by rfl) (fun wS hSw => ?_) hHeld ?_
          rotate_left
          focus (go_simp; (try with_reducible rfl); done)
          try simp only [Act.put, List.setIfInBounds_toArray, List.set_cons_zero, List.set_cons_succ]
          refine only_ 12 rfl (by kernel_rfl) (by rfl) (fun K hK => ?_)
          refine wp_store_u 41 _ _ rfl r rfl rfl hHeld.1.hb hHeld.1.hc (by kernel_rfl) 41 (T7.out.z.below (w' := _) (Below.refl _ _).drew T7.out.z.lt) ?_
          intro WZ HN HO HB
          have HZ := HN
          have BZ := Lib.hid (T7.out.b.drew.trans (HB.out.mono T7.out.lr))
          refine hK.out _ _ (⟨hHeld.1.other HO.out T7.out.gr, (HO.out _ NR.out.symm).trans hHeld.2⟩) (fun hHeld2 => ?_)
          clear hK K hHeld HN HO HB
          have hHeld := hHeld2
          clear hHeld2
          try simp only [Act.put]
          refine' take_ 13 rfl (by kernel_rfl) (by kernel_rfl) (by kernel_rfl) (fun _ _ _ h => h) (by rfl) (fun wS hSw => ?_) hHeld ?_
          rotate_left
          focus (go_simp; (try with_reducible rfl); done)
          try simp only [Act.put, List.setIfInBounds_toArray, List.set_cons_zero, List.set_cons_succ]
          refine' take_ 14 rfl (by kernel_rfl) (by kernel_rfl) (by kernel_rfl) (fun _ _ _ h => h) (by rfl) (fun wS hSw => ?_) hHeld ?_
          rotate_left
          focus (go_simp; (try with_reducible rfl); done)
          try simp only [Act.put, List.setIfInBounds_toArray, List.set_cons_zero, List.set_cons_succ]
          refine' take_ 15 rfl (by kernel_rfl) (by kernel_rfl) (by kernel_rfl) (fun _ _ _ h => h) (by rfl) (fun wS hSw => ?_) hHeld ?_
          rotate_left
          focus (go_simp; (try with_reducible rfl); done)
          try simp only [Act.put, List.setIfInBounds_toArray, List.set_cons_zero, List.set_cons_succ]
          refine wpAnyH_done (by kernel_rfl) ?_ _
          refine NoPanic.normal ?_
          go_wp2
          exact bodyPost_ret (v := .tuple #[uv N p (0) (p') l c (0), .int .u8 ((x : Nat) : Int), .bool true, .bool false]) (results_cttt Tryz.results37 _ _ _ _ _ _ _ _ rfl (run_loadVar_u WZ r 41 _ Tryz.underlying41 (by kernel_rfl) 41 HZ.out) rfl rfl rfl) rfl ⟨by first | (rw [HE.out, HE2.out.1, HE2.out.2.1, HE2.out.2.2]; done) | (rw [HE.out, HE2.out.1, HE2.out.2.1, HE2.out.2.2]; rfl), BZ.out⟩
        · replace HS1 : Hid (((c : Int) / 2).tmod 2 = 1) := HS1
          go_wp2_with (first
      | ((with_reducible show wpList _ _ _ (⟨none, .store 5 (.tmp 33) _, _, _, _, _⟩ :: _) _ _); refine wpList_store_j rfl 5 _ _ rfl g 20 (by exact rfl) (.int .u8 ((0 : Nat) : Int)) (by exact rfl) rfl (by kernel_rfl) 41 T6.out.q (by decide) (uc_set_k T6.out.q.hb T6.out.q.hc) T6.out.q.hb T6.out.q.hc ?_; intro WT7 HN HO HB
         have T7 := Lib.hid (T6.out.setG HN.out HO.out HB.out)
         have HQ3 : Hid (QRow WT7 WT4.heap.size 39 0 p') := Lib.hid ((HO.out _ NS.out.symm).trans HQ2.out)
         clear HQ2
         clear HN HO HB T6)
      | ((with_reducible show wpList _ _ _ (⟨none, .store 39 (.tmp 32) (.tmp 31), _, _, _, _⟩ :: _) _ _); refine wpList_store_tx rfl 39 _ _ rfl g (by exact rfl) (by exact rfl) (by assumption) (by kernel_rfl) 41 T5.out.q ?_; intro WT6 HN HO HB
         have T6 := Lib.hid (T5.out.setG HN.out HO.out HB.out)
         have HQ2 : Hid (QRow WT6 WT4.heap.size 39 0 p') := Lib.hid ((HO.out _ HS.out.symm).trans HQ.out)
         have NS := HS
         clear HQ HS
         clear HN HO HB T5)
      | ((with_reducible show wpList _ _ _ (⟨some 31, .load 39 (.tmp 7), _, _, _, _⟩ :: _) _ _); refine wpList_load_q rfl 39 _ rfl (WT4.heap.size) (by exact rfl) _ Tryz.underlying39 (by kernel_rfl) 39 _ _ HQ.out (by assumption) ?_)
      | ((with_reducible show wpList _ _ _ (⟨none, .store 39 (.tmp 7) (.tmp 29), _, _, _, _⟩ :: _) _ _); refine wpList_store_q rfl 39 _ _ rfl (WT4.heap.size) (by exact rfl) (0) (p') (by exact rfl) (by assumption) (by kernel_rfl) 39 _ _ (show QRow _ _ _ 0 Z8 from alloc_at _ _) rfl ?_; intro WT5 HN HO HB
         have HQ := HN
         have T5 := Lib.hid (T4.out.under (((Below.refl _ _).alloc (Nat.le_refl _) _).trans HB.out))
         have HS := Lib.hid (Nat.ne_of_lt T4.out.q.lt)
         have NR := Lib.hid (Nat.ne_of_lt T4.out.z.lt)
         clear HN HO HB T4)
      | (go_at_call 48; refine (HC2.out _).mono ?_; rintro e WT4 ⟨rfl, hB⟩
         have T4 := Lib.hid (T3.out.under hB)
         clear hB T3)
      | ((with_reducible show wpList _ _ _ (⟨some 26, .load 39 (.tmp 25), _, _, _, _⟩ :: _) _ _); refine wpList_load_q9 rfl 39 _ rfl g 9 (by exact rfl) _ Tryz.underlying39 (by kernel_rfl) T3.out.q.tx T3.out.q.hc ?_)
      | ((with_reducible show wpList _ _ _ (⟨none, .store 5 (.tmp 19) (.tmp 18), _, _, _, _⟩ :: _) _ _); refine wpList_store_j rfl 5 _ _ rfl g 20 (by exact rfl) (.int .u8 ((4 : Nat) : Int)) (by exact rfl) rfl (by kernel_rfl) 41 T2.out.q (by decide) (uc_set_k T2.out.q.hb T2.out.q.hc) T2.out.q.hb T2.out.q.hc ?_; intro WT3 HN HO HB
         have T3 := Lib.hid (T2.out.setG HN.out HO.out HB.out)
         have d20 := T3.out.q.c20
         clear HN HO HB T2))
          refine wp_region_noPanic ?_
          refine wp_region_held_drew (S := fun X => URow X g 41 N p 0 p' l c 0 ∧ QRow X WT4.heap.size 39 0 p') (by kernel_rfl) (⟨T7.out.q.below (Below.refl _ _).drew T7.out.q.lt, QRow.below HQ3.out (Below.refl _ _).drew HQ3.out.lt⟩) (fun hHeld => ?_)
          refine' take_ 0 rfl (by kernel_rfl) (by kernel_rfl) (by kernel_rfl) (fun _ _ _ h => h) (by rfl) (fun wS hSw => run_load_u wS 41 _ g rfl _ Tryz.underlying41 (by kernel_rfl) 41 hSw.1 _ _ _ _ _) hHeld ?_
          try simp only [Act.put, List.setIfInBounds_toArray, List.set_cons_zero, List.set_cons_succ]
          refine' take_ 1 rfl (by kernel_rfl) (by kernel_rfl) (by kernel_rfl) (fun _ _ _ h => h) (by rfl) (fun wS hSw => ?_) hHeld ?_
          rotate_left
          focus (go_simp; (try with_reducible rfl); done)
          try simp only [Act.put, List.setIfInBounds_toArray, List.set_cons_zero, List.set_cons_succ]
          refine' take_ 2 rfl (by kernel_rfl) (by kernel_rfl) (by kernel_rfl) (fun _ _ _ h => h) (by rfl) (fun wS hSw => ?_) hHeld ?_
          rotate_left
          focus (go_simp; (try with_reducible rfl); done)
          try simp only [Act.put, List.setIfInBounds_toArray, List.set_cons_zero, List.set_cons_succ]
          refine' take_ 3 rfl (by kernel_rfl) (by kernel_rfl) (by kernel_rfl) (fun _ _ _ h => h) (by rfl) (fun wS hSw => ?_) hHeld ?_
          rotate_left
          focus (have s0 := row_at hSw.2 0 _ rfl; clear hSw; go_simp; (try with_reducible rfl); done)
          try simp only [Act.put, List.setIfInBounds_toArray, List.set_cons_zero, List.set_cons_succ]
          refine' take_ 4 rfl (by kernel_rfl) (by kernel_rfl) (by kernel_rfl) (fun _ _ _ h => h) (by rfl) (fun wS hSw => ?_) hHeld ?_
          rotate_left
          focus (go_simp; (first | (rw [HNe.out]; done) | (rw [HNe.out]; with_reducible rfl) | (with_reducible rfl)))
          try simp only [Act.put, List.setIfInBounds_toArray, List.set_cons_zero, List.set_cons_succ]
          refine' take_ 5 rfl (by kernel_rfl) (by kernel_rfl) (by kernel_rfl) (fun _ _ _ h => h) (by rfl) (fun wS hSw => ?_) hHeld ?_
          rotate_left
          focus (go_simp; (try with_reducible rfl); done)
          try simp only [Act.put, List.setIfInBounds_toArray, List.set_cons_zero, List.set_cons_succ]
          refine' take_ 6 rfl (by kernel_rfl) (by kernel_rfl) (by kernel_rfl) (fun _ _ _ h => h) (by rfl) (fun wS hSw => ?_) hHeld ?_
          rotate_left
          focus (go_simp; (try with_reducible rfl); done)
          try simp only [Act.put, List.setIfInBounds_toArray, List.set_cons_zero, List.set_cons_succ]
          refine' take_ 7 rfl (by kernel_rfl) (by kernel_rfl) (by kernel_rfl) (fun _ _ _ h => h) (by rfl) (fun wS hSw => ?_) hHeld ?_
          rotate_left
          focus (have s0 := hSw.1.c19; clear hSw; go_simp; (try with_reducible rfl); done)
          try simp only [Act.put, List.setIfInBounds_toArray, List.set_cons_zero, List.set_cons_succ]
          refine' take_ 8 rfl (by kernel_rfl) (by kernel_rfl) (by kernel_rfl) (fun _ _ _ h => h) (by rfl) (fun wS hSw => ?_) hHeld ?_
          rotate_left
          focus (go_simp; rw [HQ8.out]; (try with_reducible rfl); done)
          try simp only [Act.put, List.setIfInBounds_toArray, List.set_cons_zero, List.set_cons_succ]
          refine' take_ 9 rfl (by kernel_rfl) (by kernel_rfl) (by kernel_rfl) (fun _ _ _ h => h) (by rfl) (fun wS hSw => ?_) hHeld ?_
          rotate_left
          focus (go_simp; rw [HS1.out]; (try with_reducible rfl); done)
          try simp only [Act.put, List.setIfInBounds_toArray, List.set_cons_zero, List.set_cons_succ]
          refine' take_ 10 rfl (by kernel_rfl) (by kernel_rfl) (by kernel_rfl) (fun _ _ _ h => h) (by rfl) (fun wS hSw => ?_) hHeld ?_
          rotate_left
          focus (go_simp; (try with_reducible rfl); done)
          try simp only [Act.put, List.setIfInBounds_toArray, List.set_cons_zero, List.set_cons_succ]
          refine' take_ 11 rfl (by kernel_rfl) (by kernel_rfl) (by kernel_rfl) (fun _ _ _ h => h) (by rfl) (fun wS hSw => ?_) hHeld ?_
          rotate_left
          focus (go_simp; (try with_reducible rfl); done)
          try simp only [Act.put, List.setIfInBounds_toArray, List.set_cons_zero, List.set_cons_succ]
          refine only_ 12 rfl (by kernel_rfl) (by rfl) (fun K hK => ?_)
          refine wp_store_u 41 _ _ rfl r rfl rfl hHeld.1.hb hHeld.1.hc (by kernel_rfl) 41 (T7.out.z.below (w' := _) (Below.refl _ _).drew T7.out.z.lt) ?_
          intro WZ HN HO HB
          have HZ := HN
          have BZ := Lib.hid (T7.out.b.drew.trans (HB.out.mono T7.out.lr))
          refine hK.out _ _ (⟨hHeld.1.other HO.out T7.out.gr, (HO.out _ NR.out.symm).trans hHeld.2⟩) (fun hHeld2 => ?_)
          clear hK K hHeld HN HO HB
          have hHeld := hHeld2
          clear hHeld2
          try simp only [Act.put]
          refine' take_ 13 rfl (by kernel_rfl) (by kernel_rfl) (by kernel_rfl) (fun _ _ _ h => h) (by rfl) (fun wS hSw => ?_) hHeld ?_
          rotate_left
          focus (go_simp; (try with_reducible rfl); done)
          try simp only [Act.put, List.setIfInBounds_toArray, List.set_cons_zero, List.set_cons_succ]
          refine' take_ 14 rfl (by kernel_rfl) (by kernel_rfl) (by kernel_rfl) (fun _ _ _ h => h) (by rfl) (fun wS hSw => ?_) hHeld ?_
          rotate_left
          focus (go_simp; (try with_reducible rfl); done)
          try simp only [Act.put, List.setIfInBounds_toArray, List.set_cons_zero, List.set_cons_succ]
          refine' take_ 15 rfl (by kernel_rfl) (by kernel_rfl) (by kernel_rfl) (fun _ _ _ h => h) (by rfl) (fun wS hSw => ?_) hHeld ?_
          rotate_left
          focus (go_simp; (try with_reducible rfl); done)
          try simp only [Act.put, List.setIfInBounds_toArray, List.set_cons_zero, List.set_cons_succ]
          refine wpAnyH_done (by kernel_rfl) ?_ _
          refine NoPanic.normal ?_
          go_wp2
          exact bodyPost_ret (v := .tuple #[uv N p (0) (p') l c (0), .int .u8 ((x : Nat) : Int), .bool true, .bool true]) (results_cttt Tryz.results37 _ _ _ _ _ _ _ _ rfl (run_loadVar_u WZ r 41 _ Tryz.underlying41 (by kernel_rfl) 41 HZ.out) rfl rfl rfl) rfl ⟨by first | (rw [HE.out, HE2.out.1, HE2.out.2.1, HE2.out.2.2]; done) | (rw [HE.out, HE2.out.1, HE2.out.2.1, HE2.out.2.2]; rfl), BZ.out⟩
      | cons y us =>
        have d3 : ¬ N' = 0 := by rw [HNN.out]; simp; omega
        have HNe : Hid ((N' == (0 : Int)) = false) := Lib.hid (by simpa using d3)
        clear d3
        have HE2 : Hid (tickB (x :: y :: us) 3 = x ∧ sendsU (x :: y :: us) 3 = true ∧ tickQ (x :: y :: us) c 3 = false) := Lib.hid ⟨rfl, rfl, rfl⟩
        go_wp2_with (first
      | ((with_reducible show wpList _ _ _ (⟨none, .store 5 (.tmp 33) _, _, _, _, _⟩ :: _) _ _); refine wpList_store_j rfl 5 _ _ rfl g 20 (by exact rfl) (.int .u8 ((0 : Nat) : Int)) (by exact rfl) rfl (by kernel_rfl) 41 T6.out.q (by decide) (uc_set_k T6.out.q.hb T6.out.q.hc) T6.out.q.hb T6.out.q.hc ?_; intro WT7 HN HO HB
         have T7 := Lib.hid (T6.out.setG HN.out HO.out HB.out)
         have HQ3 : Hid (QRow WT7 WT4.heap.size 39 N' p') := Lib.hid ((HO.out _ NS.out.symm).trans HQ2.out)
         clear HQ2
         clear HN HO HB T6)
      | ((with_reducible show wpList _ _ _ (⟨none, .store 39 (.tmp 32) (.tmp 31), _, _, _, _⟩ :: _) _ _); refine wpList_store_tx rfl 39 _ _ rfl g (by exact rfl) (by exact rfl) (by assumption) (by kernel_rfl) 41 T5.out.q ?_; intro WT6 HN HO HB
         have T6 := Lib.hid (T5.out.setG HN.out HO.out HB.out)
         have HQ2 : Hid (QRow WT6 WT4.heap.size 39 N' p') := Lib.hid ((HO.out _ HS.out.symm).trans HQ.out)
         have NS := HS
         clear HQ HS
         clear HN HO HB T5)
      | ((with_reducible show wpList _ _ _ (⟨some 31, .load 39 (.tmp 7), _, _, _, _⟩ :: _) _ _); refine wpList_load_q rfl 39 _ rfl (WT4.heap.size) (by exact rfl) _ Tryz.underlying39 (by kernel_rfl) 39 _ _ HQ.out (by assumption) ?_)
      | ((with_reducible show wpList _ _ _ (⟨none, .store 39 (.tmp 7) (.tmp 29), _, _, _, _⟩ :: _) _ _); refine wpList_store_q rfl 39 _ _ rfl (WT4.heap.size) (by exact rfl) (N') (p') (by exact rfl) (by assumption) (by kernel_rfl) 39 _ _ (show QRow _ _ _ 0 Z8 from alloc_at _ _) rfl ?_; intro WT5 HN HO HB
         have HQ := HN
         have T5 := Lib.hid (T4.out.under (((Below.refl _ _).alloc (Nat.le_refl _) _).trans HB.out))
         have HS := Lib.hid (Nat.ne_of_lt T4.out.q.lt)
         have NR := Lib.hid (Nat.ne_of_lt T4.out.z.lt)
         clear HN HO HB T4)
      | (go_at_call 48; refine (HC2.out _).mono ?_; rintro e WT4 ⟨rfl, hB⟩
         have T4 := Lib.hid (T3.out.under hB)
         clear hB T3)
      | ((with_reducible show wpList _ _ _ (⟨some 26, .load 39 (.tmp 25), _, _, _, _⟩ :: _) _ _); refine wpList_load_q9 rfl 39 _ rfl g 9 (by exact rfl) _ Tryz.underlying39 (by kernel_rfl) T3.out.q.tx T3.out.q.hc ?_)
      | ((with_reducible show wpList _ _ _ (⟨none, .store 5 (.tmp 19) (.tmp 18), _, _, _, _⟩ :: _) _ _); refine wpList_store_j rfl 5 _ _ rfl g 20 (by exact rfl) (.int .u8 ((4 : Nat) : Int)) (by exact rfl) rfl (by kernel_rfl) 41 T2.out.q (by decide) (uc_set_k T2.out.q.hb T2.out.q.hc) T2.out.q.hb T2.out.q.hc ?_; intro WT3 HN HO HB
         have T3 := Lib.hid (T2.out.setG HN.out HO.out HB.out)
         have d20 := T3.out.q.c20
         clear HN HO HB T2))
        refine wp_region_noPanic ?_
        refine wp_region_held_drew (S := fun X => URow X g 41 N p N' p' l c 0 ∧ QRow X WT4.heap.size 39 N' p') (by kernel_rfl) (⟨T7.out.q.below (Below.refl _ _).drew T7.out.q.lt, QRow.below HQ3.out (Below.refl _ _).drew HQ3.out.lt⟩) (fun hHeld => ?_)
        refine' take_ 0 rfl (by kernel_rfl) (by kernel_rfl) (by kernel_rfl) (fun _ _ _ h => h) (by rfl) (fun wS hSw => run_load_u wS 41 _ g rfl _ Tryz.underlying41 (by kernel_rfl) 41 hSw.1 _ _ _ _ _) hHeld ?_
        try simp only [Act.put, List.setIfInBounds_toArray, List.set_cons_zero, List.set_cons_succ]
        refine' take_ 1 rfl (by kernel_rfl) (by kernel_rfl) (by kernel_rfl) (fun _ _ _ h => h) (by rfl) (fun wS hSw => ?_) hHeld ?_
        rotate_left
        focus (go_simp; (try with_reducible rfl); done)
        try simp only [Act.put, List.setIfInBounds_toArray, List.set_cons_zero, List.set_cons_succ]
        refine' take_ 2 rfl (by kernel_rfl) (by kernel_rfl) (by kernel_rfl) (fun _ _ _ h => h) (by rfl) (fun wS hSw => ?_) hHeld ?_
        rotate_left
        focus (go_simp; (try with_reducible rfl); done)
        try simp only [Act.put, List.setIfInBounds_toArray, List.set_cons_zero, List.set_cons_succ]
        refine' take_ 3 rfl (by kernel_rfl) (by kernel_rfl) (by kernel_rfl) (fun _ _ _ h => h) (by rfl) (fun wS hSw => ?_) hHeld ?_
        rotate_left
        focus (have s0 := row_at hSw.2 0 _ rfl; clear hSw; go_simp; (try with_reducible rfl); done)
        try simp only [Act.put, List.setIfInBounds_toArray, List.set_cons_zero, List.set_cons_succ]
        refine' take_ 4 rfl (by kernel_rfl) (by kernel_rfl) (by kernel_rfl) (fun _ _ _ h => h) (by rfl) (fun wS hSw => ?_) hHeld ?_
        rotate_left
        focus (go_simp; (first | (rw [HNe.out]; done) | (rw [HNe.out]; with_reducible rfl) | (with_reducible rfl)))
        try simp only [Act.put, List.setIfInBounds_toArray, List.set_cons_zero, List.set_cons_succ]
        refine' take_ 5 rfl (by kernel_rfl) (by kernel_rfl) (by kernel_rfl) (fun _ _ _ h => h) (by rfl) (fun wS hSw => ?_) hHeld ?_
        rotate_left
        focus (go_simp; (try with_reducible rfl); done)
        try simp only [Act.put, List.setIfInBounds_toArray, List.set_cons_zero, List.set_cons_succ]
        refine' pass_ 6 rfl (by kernel_rfl) (by kernel_rfl) (by kernel_rfl) (fun _ _ _ h => h) (by rfl) hHeld ?_
        try simp only [Act.put, List.setIfInBounds_toArray, List.set_cons_zero, List.set_cons_succ]
        refine' pass_ 7 rfl (by kernel_rfl) (by kernel_rfl) (by kernel_rfl) (fun _ _ _ h => h) (by rfl) hHeld ?_
        try simp only [Act.put, List.setIfInBounds_toArray, List.set_cons_zero, List.set_cons_succ]
        refine' pass_ 8 rfl (by kernel_rfl) (by kernel_rfl) (by kernel_rfl) (fun _ _ _ h => h) (by rfl) hHeld ?_
        try simp only [Act.put, List.setIfInBounds_toArray, List.set_cons_zero, List.set_cons_succ]
        refine' pass_ 9 rfl (by kernel_rfl) (by kernel_rfl) (by kernel_rfl) (fun _ _ _ h => h) (by rfl) hHeld ?_
        try simp only [Act.put, List.setIfInBounds_toArray, List.set_cons_zero, List.set_cons_succ]
        refine' pass_ 10 rfl (by kernel_rfl) (by kernel_rfl) (by kernel_rfl) (fun _ _ _ h => h) (by rfl) hHeld ?_
        try simp only [Act.put, List.setIfInBounds_toArray, List.set_cons_zero, List.set_cons_succ]
        refine' take_ 11 rfl (by kernel_rfl) (by kernel_rfl) (by kernel_rfl) (fun _ _ _ h => h) (by rfl) (fun wS hSw => ?_) hHeld ?_
        rotate_left
        focus (go_simp; (try with_reducible rfl); done)
        try simp only [Act.put, List.setIfInBounds_toArray, List.set_cons_zero, List.set_cons_succ]
        refine only_ 12 rfl (by kernel_rfl) (by rfl) (fun K hK => ?_)
        refine wp_store_u 41 _ _ rfl r rfl rfl hHeld.1.hb hHeld.1.hc (by kernel_rfl) 41 (T7.out.z.below (w' := _) (Below.refl _ _).drew T7.out.z.lt) ?_
        intro WZ HN HO HB
        have HZ := HN
        have BZ := Lib.hid (T7.out.b.drew.trans (HB.out.mono T7.out.lr))
        refine hK.out _ _ (⟨hHeld.1.other HO.out T7.out.gr, (HO.out _ NR.out.symm).trans hHeld.2⟩) (fun hHeld2 => ?_)
        clear hK K hHeld HN HO HB
        have hHeld := hHeld2
        clear hHeld2
        try simp only [Act.put]
        refine' take_ 13 rfl (by kernel_rfl) (by kernel_rfl) (by kernel_rfl) (fun _ _ _ h => h) (by rfl) (fun wS hSw => ?_) hHeld ?_
        rotate_left
        focus (go_simp; (try with_reducible rfl); done)
        try simp only [Act.put, List.setIfInBounds_toArray, List.set_cons_zero, List.set_cons_succ]
        refine' take_ 14 rfl (by kernel_rfl) (by kernel_rfl) (by kernel_rfl) (fun _ _ _ h => h) (by rfl) (fun wS hSw => ?_) hHeld ?_
        rotate_left
        focus (go_simp; (try with_reducible rfl); done)
        try simp only [Act.put, List.setIfInBounds_toArray, List.set_cons_zero, List.set_cons_succ]
        refine' take_ 15 rfl (by kernel_rfl) (by kernel_rfl) (by kernel_rfl) (fun _ _ _ h => h) (by rfl) (fun wS hSw => ?_) hHeld ?_
        rotate_left
        focus (go_simp; (try with_reducible rfl); done)
        try simp only [Act.put, List.setIfInBounds_toArray, List.set_cons_zero, List.set_cons_succ]
        refine wpAnyH_done (by kernel_rfl) ?_ _
        refine NoPanic.normal ?_
        go_wp2
        exact bodyPost_ret (v := .tuple #[uv N p (N') (p') l c (0), .int .u8 ((x : Nat) : Int), .bool true, .bool false]) (results_cttt Tryz.results37 _ _ _ _ _ _ _ _ rfl (run_loadVar_u WZ r 41 _ Tryz.underlying41 (by kernel_rfl) 41 HZ.out) rfl rfl rfl) rfl ⟨by first | (rw [HE.out, HE2.out.1, HE2.out.2.1, HE2.out.2.2]; done) | (rw [HE.out, HE2.out.1, HE2.out.2.1, HE2.out.2.2]; rfl), BZ.out⟩
    · have hs : sendsU (x :: ts) k2 = false := by simp [sendsU, h3]
      have HE : Hid (uq R (tickT (x :: ts) k2) l c (tickK (x :: ts) k2) = uv N p M q l c (k2 + 1)) := Lib.hid (by rw [show tickT (x :: ts) k2 = x :: ts from if_neg (by rw [hs]; decide), show tickK (x :: ts) k2 = k2 + 1 from (if_neg (by simp)).trans (if_neg h3), HU.out])
      have HE2 : Hid (tickB (x :: ts) k2 = 0 ∧ sendsU (x :: ts) k2 = false ∧ tickQ (x :: ts) c k2 = false) := Lib.hid ⟨if_neg (by rw [hs]; decide), hs, by unfold tickQ; rw [hs]; rfl⟩
      have d2 : ((k2 + 1 : Nat) : Int) < 4 := by omega
      clear hTl hs
      go_wp2_with (first
      | ((with_reducible show wpList _ _ _ (⟨none, .store 41 (.tmp 2) (.tmp 23), _, _, _, _⟩ :: _) _ _); refine wpList_store_u rfl 41 _ _ rfl r (by exact rfl) (by exact rfl) T3.out.q.hb T3.out.q.hc (by kernel_rfl) 41 T3.out.z ?_; intro WZ HN HO HB
         have HZ := HN
         have BZ := Lib.hid (T3.out.b.trans (HB.out.mono T3.out.lr))
         clear HN HO HB)
      | ((with_reducible show wpList _ _ _ (⟨some 23, .load 41 (.tmp 1), _, _, _, _⟩ :: _) _ _); refine wpList_load_u (by rfl) 41 _ rfl g (by exact rfl) _ Tryz.underlying41 (by kernel_rfl) 41 T3.out.q ?_)
      | ((with_reducible show wpList _ _ _ (⟨none, .store 5 (.tmp 19) (.tmp 18), _, _, _, _⟩ :: _) _ _); refine wpList_store_j rfl 5 _ _ rfl g 20 (by exact rfl) (.int .u8 ((k2 + 1 : Nat) : Int)) (by exact rfl) rfl (by kernel_rfl) 41 T2.out.q (by decide) (uc_set_k T2.out.q.hb T2.out.q.hc) T2.out.q.hb T2.out.q.hc ?_; intro WT3 HN HO HB
         have T3 := Lib.hid (T2.out.setG HN.out HO.out HB.out)
         have d20 := T3.out.q.c20
         clear HN HO HB T2))
      exact bodyPost_ret (v := .tuple #[uv N p (M) (q) l c (k2 + 1), .int .u8 ((0 : Nat) : Int), .bool false, .bool false]) (results_cttt Tryz.results37 _ _ _ _ _ _ _ _ rfl (run_loadVar_u WZ r 41 _ Tryz.underlying41 (by kernel_rfl) 41 HZ.out) rfl rfl rfl) rfl ⟨by first | (rw [HE.out, HE2.out.1, HE2.out.2.1, HE2.out.2.2]; done) | (rw [HE.out, HE2.out.1, HE2.out.2.1, HE2.out.2.2]; rfl), BZ.out⟩
end Go.Proofs.YtkodoldkfeopdaaGreat.Ua
/- Ru -/
namespace Go.Proofs.YtkodoldkfeopdaaGreat.Ua
open Go.RowKit
set_option linter.unusedVariables false
set_option maxRecDepth 100000
theorem cutL_len (l : List Nat) (h : l.length ≤ 8) : cutL ((l.length : Nat) : Int) (pad l) = l := by
  have h1 := cutL_ofV l
  rw [Nat.min_eq_left h, List.take_of_length_le h] at h1
  exact h1
/-- The uart that has these bytes. -/
abbrev ur (I O : List Nat) (l : Bool) (c k : Nat) : Value := uv ((I.length : Nat) : Int) (pad I) ((O.length : Nat) : Int) (pad O) l c k
theorem uq_ur {I O : List Nat} (l : Bool) (c k : Nat) (hI : I.length ≤ 8) (hO : O.length ≤ 8) : uq I O l c k = ur I O l c k := by
  unfold uq
  rw [Nat.min_eq_left hI, Nat.min_eq_left hO]
/-- It is right. -/
structure Rg (I O : List Nat) (c k : Nat) : Prop where
  i8 : I.length ≤ 8
  o8 : O.length ≤ 8
  ib : ∀ x ∈ I, x < 256
  ob : ∀ x ∈ O, x < 256
  c8 : c < 256
  k4 : k < 4
  k0 : O = [] → k = 0
theorem Rg.new : Rg [] [] 0 0 := ⟨by decide, by decide, by decide, by decide, by decide, by decide, fun _ => rfl⟩
section
variable {I O : List Nat} {c k : Nat}
theorem Rg.uin (h : Rg I O c k) : UIn ((I.length : Nat) : Int) (pad I) ((O.length : Nat) : Int) (pad O) c k :=
  have := h.i8
  have := h.o8
  have := h.k4
  ⟨pad_length _, pad_length _, by omega, by omega, by omega, by omega, pad_lt h.ib, pad_lt h.ob, h.c8, by omega⟩
theorem Rg.kM (h : Rg I O c k) : kM O k = k := by
  by_cases h0 : O = []
  · rw [h0, kM_nil, h.k0 h0]
  · refine if_neg ?_
    have := h.k4
    rintro (h1 | h1)
    · omega
    · exact h0 h1
theorem addL_len {L : List Nat} (b : Nat) (h : L.length ≤ 8) : (addL L b).length ≤ 8 := by
  unfold addL
  split
  · rw [List.length_append]
    simp
    omega
  · exact h
theorem addL_lt {L : List Nat} {b : Nat} (h : ∀ x ∈ L, x < 256) (hb : b < 256) : ∀ x ∈ addL L b, x < 256 := by
  intro x hx
  unfold addL at hx
  split at hx
  · rcases List.mem_append.1 hx with h1 | h1
    · exact h x h1
    · rw [List.mem_singleton] at h1
      omega
  · exact h x hx
theorem addL_ne {L : List Nat} (b : Nat) : addL L b = [] → L = [] := by
  unfold addL
  split
  · intro h; simp at h
  · exact fun h => h
theorem tail_lt {L : List Nat} (h : ∀ x ∈ L, x < 256) : ∀ x ∈ L.tail, x < 256 := fun x hx => h x (List.mem_of_mem_tail hx)
theorem Rg.addI (h : Rg I O c k) {b : Nat} (hb : b < 256) : Rg (addL I b) O c k := ⟨addL_len b h.i8, h.o8, addL_lt h.ib hb, h.ob, h.c8, h.k4, h.k0⟩
theorem Rg.addO (h : Rg I O c k) {b : Nat} (hb : b < 256) : Rg I (addL O b) c k := ⟨h.i8, addL_len b h.o8, h.ib, addL_lt h.ob hb, h.c8, h.k4, fun e => h.k0 (addL_ne b e)⟩
theorem Rg.cutI (h : Rg I O c k) : Rg I.tail O c k := ⟨by have := h.i8; simp; omega, h.o8, tail_lt h.ib, h.ob, h.c8, h.k4, h.k0⟩
theorem Rg.ctl (h : Rg I O c k) {d : Nat} (hd : d < 256) : Rg I O d k := ⟨h.i8, h.o8, h.ib, h.ob, hd, h.k4, h.k0⟩
theorem Rg.tick (h : Rg I O c k) : Rg I (tickT O k) c (tickK O k) := by
  have h8 := h.o8
  have h4 := h.k4
  refine ⟨h.i8, ?_, h.ib, ?_, h.c8, ?_, ?_⟩
  · unfold tickT
    split
    · simp; omega
    · exact h8
  · unfold tickT
    split
    · exact tail_lt h.ob
    · exact h.ob
  · unfold tickK
    split
    · omega
    · split <;> omega
  · intro e
    unfold tickT at e
    unfold tickK
    split
    · rfl
    · rename_i hn
      split at e
      · rename_i hs
        have : k = 3 := by
          unfold sendsU at hs
          simp at hs
          exact hs.2
        rw [if_pos this]
      · exact absurd e hn
variable {l : Bool}
theorem ru_arrive {f : Nat} (H : ArriveC f) (W : World) (h : Rg I O c k) (b : Nat) (hb : b < 256) : Calls Tryz.prog f #[ur I O l c k, .int .u8 b] W fun e w' => e = .returned (.tuple #[ur (addL I b) O (arriveL I l) c k, .bool (asksU I c)]) ∧ Below W.heap.size W w' := by
  have h1 := H _ _ _ _ l c k b W h.uin hb
  rw [cutL_len I h.i8, cutL_len O h.o8, h.kM, uq_ur _ _ _ (addL_len b h.i8) h.o8] at h1
  exact h1
theorem Rg.read (h : Rg I O c k) (r : Int) : Rg (readR I r) O c k := by
  unfold readR
  split
  · exact h.cutI
  · exact h
theorem Rg.write (h : Rg I O c k) (r v : Int) : Rg I (writeT O r v) (writeC c r v) k := by
  unfold writeT writeC
  have hl := lowN_lt v
  split
  · split
    · exact (h.addO hl).ctl hl
    · exact h.addO hl
  · split
    · exact h.ctl hl
    · exact h
theorem ru_read {f : Nat} (H : ReadC f) (W : World) (h : Rg I O c k) (r : Int) (h0 : -9223372036854775808 ≤ r) (h1 : r ≤ 9223372036854775807) : Calls Tryz.prog f #[ur I O l c k, .int .i64 r] W fun e w' => e = .returned (.tuple #[.int .i32 (peekU I O l c r), ur (readR I r) O (readL l r) c k]) ∧ Below W.heap.size W w' := by
  have h2 := H _ _ _ _ l c k r W h.uin h0 h1
  rw [cutL_len I h.i8, cutL_len O h.o8, h.kM, uq_ur _ _ _ (h.read r).i8 h.o8] at h2
  exact h2
theorem ru_peek {f : Nat} (H : PeekC f) (W : World) (h : Rg I O c k) (r : Int) (h0 : -9223372036854775808 ≤ r) (h1 : r ≤ 9223372036854775807) : Calls Tryz.prog f #[ur I O l c k, .int .i64 r] W fun e w' => e = .returned (.int .i32 (peekU I O l c r)) ∧ Below W.heap.size W w' := by
  have h2 := H _ _ _ _ l c k r W h.uin h0 h1
  rw [cutL_len I h.i8, cutL_len O h.o8] at h2
  exact h2
theorem ru_write {f : Nat} (H : WriteC f) (W : World) (h : Rg I O c k) (r v : Int) (h0 : -9223372036854775808 ≤ r) (h1 : r ≤ 9223372036854775807) (h3 : -2147483648 ≤ v) (h4 : v ≤ 2147483647) : Calls Tryz.prog f #[ur I O l c k, .int .i64 r, .int .i32 v] W fun e w' => e = .returned (ur I (writeT O r v) l (writeC c r v) k) ∧ Below W.heap.size W w' := by
  have h2 := H _ _ _ _ l c k r v W h.uin h0 h1 h3 h4
  rw [cutL_len I h.i8, cutL_len O h.o8, h.kM, uq_ur _ _ _ h.i8 (h.write r v).o8] at h2
  exact h2
theorem ru_tick {f : Nat} (H : TickC f) (W : World) (h : Rg I O c k) : Calls Tryz.prog f #[ur I O l c k] W fun e w' => e = .returned (.tuple #[ur I (tickT O k) l c (tickK O k), .int .u8 (tickB O k : Nat), .bool (sendsU O k), .bool (tickQ O c k)]) ∧ Below W.heap.size W w' := by
  have h2 := H _ _ _ _ l c k W h.uin
  rw [cutL_len I h.i8, cutL_len O h.o8, h.kM, uq_ur _ _ _ h.i8 h.tick.o8] at h2
  exact h2
end
end Go.Proofs.YtkodoldkfeopdaaGreat.Ua
