/-
  Queues as values: nine cells; what a value counts as; slices of bytes in memory; when two values are the same. No program in sight but its types.
-/
import Derived.Test.YtgpgijdciaieaaaKit
import Derived.Laws.CopyOwn
import Derived.Laws.StructEq
import Derived.ChangeKeysEq
import Derived.StillTactics
namespace Go.Proofs.Ytgpgijdciaieaaa
open Go.RowKit
set_option linter.unusedVariables false

/-- A slice at A that holds the bytes l, all of it below block B. -/
structure RdB (w : World) (B : Nat) (A : Option Addr) (l : List Nat) : Prop where
  none_ : A = none → l = []
  low : ∀ a, A = some a → l ≠ [] → a.block < B
  cells : ∀ a, A = some a → ∀ (j x : Nat), l[j]? = some x → w.cell? (a.add j) = some (.int .u8 (x : Int))
def bvals (l : List Nat) : List Value := l.map fun x : Nat => .int .u8 (x : Int)
theorem bvals_length (l : List Nat) : (bvals l).length = l.length := by simp [bvals]
theorem bvals_at {l : List Nat} {j : Nat} {u : Value} (h : (bvals l)[j]? = some u) : ∃ x, l[j]? = some x ∧ u = .int .u8 (x : Int) := by
  simp only [bvals, List.getElem?_map, Option.map_eq_some_iff] at h
  obtain ⟨x, h1, h2⟩ := h
  exact ⟨x, h1, h2.symm⟩
theorem bvals_one (l : List Nat) : ∀ u ∈ bvals l, u.oneCell' = true := by
  intro u hu
  simp only [bvals, List.mem_map] at hu
  obtain ⟨x, _, rfl⟩ := hu
  rfl
theorem bvals_append (l m : List Nat) : bvals l ++ bvals m = bvals (l ++ m) := by simp [bvals]
theorem addr_add_block (a : Addr) (n : Nat) : (a.add n).block = a.block := by
  unfold Addr.add
  split <;> rfl
theorem RdB.nil_ (w : World) (B : Nat) : RdB w B none [] := ⟨fun _ => rfl, (fun _ h => by cases h), (fun _ h => by cases h)⟩
theorem RdB.some_nil (w : World) (B : Nat) (a : Addr) : RdB w B (some a) [] := ⟨fun h => (by cases h), (fun _ _ h => absurd rfl h), (fun _ _ j x hx => by simp at hx)⟩
theorem RdB.below {w w' : World} {B B' : Nat} {A : Option Addr} {l : List Nat} (h : RdB w B A l) (hb : Below B' w w') (hB : B ≤ B') : RdB w' B A l :=
  ⟨h.none_, h.low, fun a ha j x hx => (hb.cell (p := a.add j) (by rw [addr_add_block]; have := h.low a ha (fun e => by subst e; simp at hx); omega)).trans (h.cells a ha j x hx)⟩
theorem RdB.more {w : World} {B B' : Nat} {A : Option Addr} {l : List Nat} (h : RdB w B A l) (hB : B ≤ B') : RdB w B' A l :=
  ⟨h.none_, fun a ha hl => by have := h.low a ha hl; omega, h.cells⟩
/-- The slice value v is of the call's own memory, from block 'base' on, and holds the bytes l. -/
def Own (w : World) (base : Nat) (v : Value) (l : List Nat) : Prop := w.ownsRow base 5 1 v l.length (bvals l)
theorem Own.nil_ (w : World) (base : Nat) : Own w base (.slice none 0 0) [] := World.ownsRow_nil w base _ 1
theorem Own.alloc {w : World} {base : Nat} {v : Value} {l : List Nat} (h : Own w base v l) (o : Obj) : Own (w.alloc o) base v l := World.ownsRow.alloc h o
/-- What is owned is a slice; it reads as its bytes. -/
theorem Own.form {w : World} {base : Nat} {v : Value} {l : List Nat} (h : Own w base v l) : ∃ A cap, v = .slice A l.length cap ∧ l.length ≤ cap ∧ (A = none → cap = 0) ∧ cap ≤ maxLen ∧ RdB w w.heap.size A l ∧ (∀ a, A = some a → base ≤ a.block ∧ a.off = 0 ∧ a = ⟨a.block, 0, none⟩) := by
  rcases h.2 with ⟨rfl, h0⟩ | ⟨g, cap, cur, rfl, hg, hh, hn, hc, hs, ht⟩
  · have hl : l = [] := List.eq_nil_of_length_eq_zero h0
    subst hl
    exact ⟨none, 0, rfl, Nat.le_refl _, fun _ => rfl, Nat.zero_le _, RdB.nil_ w _, fun _ h => by cases h⟩
  · have hlt : g < w.heap.size := by
      rcases Nat.lt_or_ge g w.heap.size with h1 | h1
      · exact h1
      · rw [Array.getElem?_eq_none h1] at hh; cases hh
    refine ⟨some ⟨g, 0, none⟩, cap, rfl, hn, fun h => (by cases h), hc, ⟨fun h => (by cases h), fun a ha _ => ?_, fun a ha j x hx => ?_⟩, fun a ha => ?_⟩
    · cases ha; exact hlt
    · cases ha
      refine World.ownsRow.cells h (g := g) rfl j _ ?_
      simp only [bvals, List.getElem?_map, hx, Option.map_some]
    · cases ha; exact ⟨hg, rfl, rfl⟩
theorem Own.below {w w' : World} {base B : Nat} {v : Value} {l : List Nat} (h : Own w base v l) (hb : Below B w w') (hB : w.heap.size ≤ B) : Own w' base v l := by
  refine ⟨h.1, ?_⟩
  rcases h.2 with h2 | ⟨g, cap, cur, hv, hg, hh, r⟩
  · exact Or.inl h2
  · have hlt : g < w.heap.size := by
      rcases Nat.lt_or_ge g w.heap.size with h1 | h1
      · exact h1
      · rw [Array.getElem?_eq_none h1] at hh; cases hh
    exact Or.inr ⟨g, cap, cur, hv, hg, (hb.block g (by omega)).trans hh, r⟩
theorem Own.mono {w : World} {base base' : Nat} {v : Value} {l : List Nat} (h : Own w base v l) (hB : base' ≤ base) : Own w base' v l := by
  refine ⟨h.1, ?_⟩
  rcases h.2 with h2 | ⟨g, cap, cur, hv, hg, r⟩
  · exact Or.inl h2
  · exact Or.inr ⟨g, cap, cur, hv, by omega, r⟩
theorem u8info : (Try.prog.info? 5).map (fun i => (i.zero, i.size, i.bytes)) = some (some (.int .u8 0), 1, 1) := by kernel_rfl
theorem info_parts {P : Program} {t : TypeId} {z : Value} {s b : Nat} (h : (P.info? t).map (fun i => (i.zero, i.size, i.bytes)) = some (some z, s, b)) : ∃ i, P.info? t = some i ∧ i.zero = some z ∧ i.size = s ∧ i.bytes = b := by
  obtain ⟨i, h1, h2⟩ := Option.map_eq_some_iff.1 h
  simp only [Prod.mk.injEq] at h2
  exact ⟨i, h1, h2.1, h2.2.1, h2.2.2⟩

/-! ### queues -/
/-- A value of nine cells. -/
def qv (n : Int) (bs : List Nat) : Value := .agg (.int .i64 n :: bvals bs).toArray
abbrev q8 (n : Int) (b0 b1 b2 b3 b4 b5 b6 b7 : Nat) : Value := .agg #[.int .i64 n, .int .u8 (b0 : Int), .int .u8 (b1 : Int), .int .u8 (b2 : Int), .int .u8 (b3 : Int), .int .u8 (b4 : Int), .int .u8 (b5 : Int), .int .u8 (b6 : Int), .int .u8 (b7 : Int)]
theorem qv_eq (n : Int) (b0 b1 b2 b3 b4 b5 b6 b7 : Nat) : qv n [b0, b1, b2, b3, b4, b5, b6, b7] = q8 n b0 b1 b2 b3 b4 b5 b6 b7 := rfl
/-- The first eight bytes of l, and 0 behind. -/
def pad (l : List Nat) : List Nat := l.take 8 ++ List.replicate (8 - l.length) 0
theorem pad_length (l : List Nat) : (pad l).length = 8 := by simp [pad]; omega
theorem eight {bs : List Nat} (h : bs.length = 8) : ∃ b0 b1 b2 b3 b4 b5 b6 b7, bs = [b0, b1, b2, b3, b4, b5, b6, b7] := by
  match bs, h with
  | [b0, b1, b2, b3, b4, b5, b6, b7], _ => exact ⟨b0, b1, b2, b3, b4, b5, b6, b7, rfl⟩
/-- The queue of the first eight of l. -/
def ofV (l : List Nat) : Value := qv ((min l.length 8 : Nat) : Int) (pad l)
/-- The bytes that a value has. -/
def cutL (n : Int) (bs : List Nat) : List Nat := bs.take n.toNat
theorem cutL_le (n : Int) (bs : List Nat) (h : bs.length = 8) : (cutL n bs).length ≤ 8 := by simp [cutL]; omega
theorem cutL_length (n : Int) (bs : List Nat) (h : bs.length = 8) : ((cutL n bs).length : Int) = max 0 (min n 8) := by
  simp only [cutL, List.length_take, h]
  omega
theorem pad_lt {l : List Nat} (h : ∀ x ∈ l, x < 256) : ∀ x ∈ pad l, x < 256 := by
  intro x hx
  rcases List.mem_append.1 hx with hx | hx
  · exact h x (List.mem_of_mem_take hx)
  · have := (List.mem_replicate.1 hx).2
    omega
theorem cutL_lt {n : Int} {l : List Nat} (h : ∀ x ∈ l, x < 256) : ∀ x ∈ cutL n l, x < 256 := fun x hx => h x (List.mem_of_mem_take hx)
theorem pad_le {l : List Nat} (h : l.length ≤ 8) : pad l = l ++ List.replicate (8 - l.length) 0 := by rw [pad, List.take_of_length_le h]
theorem cutL_ofV (l : List Nat) : cutL ((min l.length 8 : Nat) : Int) (pad l) = l.take 8 := by
  rw [cutL, Int.toNat_natCast, pad]
  rw [List.take_append_of_le_length (by rw [List.length_take]; omega)]
  rw [List.take_take]
  by_cases h : l.length ≤ 8
  · rw [List.take_of_length_le (by omega), List.take_of_length_le (by omega)]
  · rw [show min (min l.length 8) 8 = 8 by omega]
theorem ofV_take (l : List Nat) : ofV (l.take 8) = ofV l := by
  have h1 : pad (l.take 8) = pad l := by
    unfold pad
    rw [List.take_take, List.length_take, Nat.min_self, show 8 - min 8 l.length = 8 - l.length by omega]
  rw [ofV, ofV, h1, List.length_take, show min (min 8 l.length) 8 = min l.length 8 by omega]
/-- Is a value the queue of its bytes, as it stands? -/
def rightB (n : Int) (bs : List Nat) : Bool := decide (n = ((min (cutL n bs).length 8 : Nat) : Int) ∧ bs = pad (cutL n bs))
theorem rightB_ofV (l : List Nat) : rightB ((min l.length 8 : Nat) : Int) (pad l) = true := by
  have h := cutL_ofV l
  unfold rightB
  rw [h]
  refine decide_eq_true ⟨?_, ?_⟩
  · rw [List.length_take]
    omega
  · unfold pad
    rw [List.take_take, List.length_take, Nat.min_self, show 8 - min 8 l.length = 8 - l.length by omega]
theorem splice_pad (l : List Nat) : splice (.int .i64 0 :: bvals (List.replicate 8 0)) 1 (bvals (l.take 8)) = .int .i64 0 :: bvals (pad l) := by
  have h : (bvals (l.take 8)).length = min 8 l.length := by simp [bvals]
  unfold splice
  rw [h, Nat.add_comm, List.drop_succ_cons]
  show .int .i64 0 :: (bvals (l.take 8) ++ _) = _
  congr 1
  rw [pad, ← bvals_append]
  congr 1
  simp only [bvals, List.map_replicate, List.drop_replicate]
  congr 1
  omega
/-- All that is wanted of a row of nine cells. -/
theorem nine {w : World} {g : Nat} {t : TypeId} {n : Int} {b0 b1 b2 b3 b4 b5 b6 b7 : Nat} (h : w.heap[g]? = some (.cells (.int .i64 n :: bvals [b0, b1, b2, b3, b4, b5, b6, b7]).toArray t (0, 0))) :
    w.cell? ⟨g, 0, none⟩ = some (.int .i64 n) ∧ w.cell? ⟨g, 1, none⟩ = some (.int .u8 b0) ∧ w.cell? ⟨g, 2, none⟩ = some (.int .u8 b1) ∧ w.cell? ⟨g, 3, none⟩ = some (.int .u8 b2) ∧ w.cell? ⟨g, 4, none⟩ = some (.int .u8 b3) ∧ w.cell? ⟨g, 5, none⟩ = some (.int .u8 b4) ∧ w.cell? ⟨g, 6, none⟩ = some (.int .u8 b5) ∧ w.cell? ⟨g, 7, none⟩ = some (.int .u8 b6) ∧ w.cell? ⟨g, 8, none⟩ = some (.int .u8 b7) :=
  ⟨row_at h 0 _ rfl, row_at h 1 _ rfl, row_at h 2 _ rfl, row_at h 3 _ rfl, row_at h 4 _ rfl, row_at h 5 _ rfl, row_at h 6 _ rfl, row_at h 7 _ rfl, row_at h 8 _ rfl⟩
def QRow (w : World) (g : Nat) (t : TypeId) (n : Int) (bs : List Nat) : Prop := w.heap[g]? = some (.cells (.int .i64 n :: bvals bs).toArray t (0, 0))
theorem QRow.below {w w' : World} {B g : Nat} {t : TypeId} {n : Int} {bs : List Nat} (h : QRow w g t n bs) (hb : Below B w w') (hg : g < B) : QRow w' g t n bs := (hb.block g hg).trans h
theorem QRow.lt {w : World} {g : Nat} {t : TypeId} {n : Int} {bs : List Nat} (h : QRow w g t n bs) : g < w.heap.size := by
  rcases Nat.lt_or_ge g w.heap.size with h1 | h1
  · exact h1
  · rw [QRow, Array.getElem?_eq_none h1] at h; cases h
theorem QRow.set {w : World} {g : Nat} {t : TypeId} {n : Int} {bs : List Nat} (h : QRow w g t n bs) (m : Int) (cs : List Nat) : QRow (w.setRow g (.int .i64 m :: bvals cs).toArray) g t m cs := setRow_heap w g _ _ t _ h
theorem QRow.al (w : World) (n : Int) (b0 b1 b2 b3 b4 b5 b6 b7 : Nat) (t : TypeId) : QRow (w.alloc (.cells #[.int .i64 n, .int .u8 (b0 : Int), .int .u8 (b1 : Int), .int .u8 (b2 : Int), .int .u8 (b3 : Int), .int .u8 (b4 : Int), .int .u8 (b5 : Int), .int .u8 (b6 : Int), .int .u8 (b7 : Int)] t)) w.heap.size t n [b0, b1, b2, b3, b4, b5, b6, b7] := alloc_at w _
/-- A whole queue is loaded. -/
theorem wpList_load_q {P : Program} {ops : Array Oper} {rest : List Oper} {o : Oper} {a : Act} {w : World} {Q : Exit → Act → World → Prop} (hgd : o.guard = none) (ty : TypeId) (x : Operand) (ho : o.op = .load ty x) (g : Nat) (hx : a.eval x = .pointer (some ⟨g, 0, none⟩))
    (fs : Array Field) (hu : P.underlying ty = some (.struct fs)) (hi : (P.info? ty).map (·.size) = some 9) (t : TypeId) (n : Int) (bs : List Nat) (hr : QRow w g t n bs) (hb : bs.length = 8)
    (h : wpList P ops Q rest (a.put o.dst (qv n bs)) w) : wpList P ops Q (o :: rest) a w :=
  wpList_load_at hgd ty x ho g 0 hx (.int .i64 n :: bvals bs) _ (row_cells hr) hu rfl (by rw [hi]; simp [bvals, hb]) h
/-- A whole queue is stored. -/
theorem wpList_store_q {P : Program} {ops : Array Oper} {rest : List Oper} {o : Oper} {a : Act} {w : World} {Q : Exit → Act → World → Prop} (hgd : o.guard = none) (ty : TypeId) (x v : Operand) (ho : o.op = .store ty x v) (g : Nat) (hx : a.eval x = .pointer (some ⟨g, 0, none⟩))
    (n : Int) (bs : List Nat) (hv : a.eval v = qv n bs) (hb : bs.length = 8) (hi : (P.info? ty).map (·.size) = some 9) (t : TypeId) (m : Int) (cs : List Nat) (hr : QRow w g t m cs) (hc : cs.length = 8)
    (h : ∀ W, Hid (QRow W g t n bs) → Hid (∀ k, k ≠ g → W.heap[k]? = w.heap[k]?) → Hid (Below g w W) → wpList P ops Q rest (a.put o.dst undef) W) : wpList P ops Q (o :: rest) a w := by
  refine wpList_store_row hgd ty x v ho g 0 hx (.int .i64 n :: bvals bs) (by rw [hv]; rfl) (by rw [hi]; simp [bvals, hb]) (.int .i64 m :: bvals cs) (.int .i64 n :: bvals bs) t hr (by simp [bvals, hb, hc]) (fun u hu => ?_) ?_ (h _ (Lib.hid (hr.set n bs)) (Lib.hid fun k hk => setRow_other w g k _ hk) (Lib.hid (setRow_below (Below.refl _ _) (Nat.le_refl _) _)))
  · rcases List.mem_cons.1 hu with rfl | hu
    · rfl
    · exact bvals_one bs u hu
  · simp [bvals, hb, hc]
theorem wp_store_q {P : Program} {o : Oper} {a : Act} {w : World} {K : Act → World → Prop} {Q : Exit → Act → World → Prop} (ty : TypeId) (x v : Operand) (ho : o.op = .store ty x v) (g : Nat) (hx : a.eval x = .pointer (some ⟨g, 0, none⟩))
    (n : Int) (bs : List Nat) (hv : a.eval v = qv n bs) (hb : bs.length = 8) (hi : (P.info? ty).map (·.size) = some 9) (t : TypeId) (m : Int) (cs : List Nat) (hr : QRow w g t m cs) (hc : cs.length = 8)
    (h : ∀ W, Hid (QRow W g t n bs) → Hid (∀ k, k ≠ g → W.heap[k]? = w.heap[k]?) → Hid (Below g w W) → K (a.put o.dst undef) W) : o.wp P a w K Q := by
  refine wp_store_row rfl ty x v ho g 0 hx (.int .i64 n :: bvals bs) (by rw [hv]; rfl) (by rw [hi]; simp [bvals, hb]) (.int .i64 m :: bvals cs) (.int .i64 n :: bvals bs) t hr (by simp [bvals, hb, hc]) (fun u hu => ?_) ?_ (h _ (Lib.hid (hr.set n bs)) (Lib.hid fun k hk => setRow_other w g k _ hk) (Lib.hid (setRow_below (Below.refl _ _) (Nat.le_refl _) _)))
  · rcases List.mem_cons.1 hu with rfl | hu
    · rfl
    · exact bvals_one bs u hu
  · simp [bvals, hb, hc]
/-- The number of a queue is stored. -/
theorem wpList_store_n {P : Program} {ops : Array Oper} {rest : List Oper} {o : Oper} {a : Act} {w : World} {Q : Exit → Act → World → Prop} (hgd : o.guard = none) (ty : TypeId) (x v : Operand) (ho : o.op = .store ty x v) (g : Nat) (hx : a.eval x = .pointer (some ⟨g, 0, none⟩))
    (n : Int) (hv : a.eval v = .int .i64 n) (hi : (P.info? ty).map (·.size) = some 1) (t : TypeId) (m : Int) (cs : List Nat) (hr : QRow w g t m cs)
    (h : ∀ W, Hid (QRow W g t n cs) → Hid (∀ k, k ≠ g → W.heap[k]? = w.heap[k]?) → Hid (Below g w W) → wpList P ops Q rest (a.put o.dst undef) W) : wpList P ops Q (o :: rest) a w :=
  wpList_store_row hgd ty x v ho g 0 hx [.int .i64 n] (by rw [hv]; rfl) (by rw [hi]; rfl) (.int .i64 m :: bvals cs) (.int .i64 n :: bvals cs) t hr (by simp) (one_one _ rfl) rfl (h _ (Lib.hid (hr.set n cs)) (Lib.hid fun k hk => setRow_other w g k _ hk) (Lib.hid (setRow_below (Below.refl _ _) (Nat.le_refl _) _)))
/-- One byte of a queue is stored. -/
theorem wpList_store_b {P : Program} {ops : Array Oper} {rest : List Oper} {o : Oper} {a : Act} {w : World} {Q : Exit → Act → World → Prop} (hgd : o.guard = none) (ty : TypeId) (x v : Operand) (ho : o.op = .store ty x v) (g j : Nat) (hx : a.eval x = .pointer (some ⟨g, 1 + j, none⟩))
    (b : Nat) (hv : a.eval v = .int .u8 b) (hi : (P.info? ty).map (·.size) = some 1) (t : TypeId) (m : Int) (cs : List Nat) (hr : QRow w g t m cs) (hj : j < cs.length)
    (h : ∀ W, Hid (QRow W g t m (cs.set j b)) → Hid (∀ k, k ≠ g → W.heap[k]? = w.heap[k]?) → Hid (Below g w W) → wpList P ops Q rest (a.put o.dst undef) W) : wpList P ops Q (o :: rest) a w := by
  refine wpList_store_row hgd ty x v ho g (1 + j) hx [.int .u8 b] (by rw [hv]; rfl) (by rw [hi]; rfl) (.int .i64 m :: bvals cs) (.int .i64 m :: bvals (cs.set j b)) t hr (by simp [bvals]; omega) (one_one _ rfl) ?_ (h _ (Lib.hid (hr.set m _)) (Lib.hid fun k hk => setRow_other w g k _ hk) (Lib.hid (setRow_below (Below.refl _ _) (Nat.le_refl _) _)))
  rw [Nat.add_comm 1 j]
  simp only [List.take_succ_cons, List.length_singleton, List.drop_succ_cons, List.cons_append, bvals, List.map_set]
  congr 1
  rw [List.set_eq_take_append_cons_drop]
  simp [hj]
theorem run_load_q {P : Program} {a : Act} (w : World) (ty : TypeId) (x : Operand) (g : Nat) (hx : a.eval x = .pointer (some ⟨g, 0, none⟩)) (fs : Array Field) (hu : P.underlying ty = some (.struct fs)) (hi : (P.info? ty).map (·.size) = some 9) (t : TypeId) (n : Int) (bs : List Nat) (hr : QRow w g t n bs) (hb : bs.length = 8)
    (dst : Option Tmp) (type : TypeId) (pos : String) (after : Array Edge) (guard : Option (Nat × Bool)) : (execOp a.eval ⟨dst, .load ty x, type, pos, after, guard⟩).run P w = .ok (.value (qv n bs)) w :=
  run_load_at w ty x g 0 hx (.int .i64 n :: bvals bs) _ (row_cells hr) hu rfl (by rw [hi]; simp [bvals, hb]) dst type pos after guard
/-- A result that lies in a cell, a queue. -/
theorem run_loadVar_q {P : Program} (w : World) (g : Nat) (ty : TypeId) (fs : Array Field) (hu : P.underlying ty = some (.struct fs)) (hi : (P.info? ty).map (·.size) = some 9) (t : TypeId) (n : Int) (bs : List Nat) (hr : QRow w g t n bs) (hb : bs.length = 8) :
    (loadVar ty ⟨g, 0, none⟩).run P w = .ok (qv n bs) w :=
  run_loadVar_at w g 0 ty (.int .i64 n :: bvals bs) _ (row_cells hr) hu rfl (by rw [hi]; simp [bvals, hb])
/-- Of a queue's cells, m bytes from byte i on, as a slice. -/
theorem rdb_q {w : World} {g : Nat} {t : TypeId} {n : Int} {bs : List Nat} (h : QRow w g t n bs) (i m : Nat) : RdB w w.heap.size (some ⟨g, 1 + i, none⟩) ((bs.drop i).take m) :=
  ⟨fun h => (by cases h), fun a ha _ => by cases ha; exact h.lt, fun a ha j x hx => by
    cases ha
    have hx' : bs[i + j]? = some x := by
      rw [List.getElem?_take] at hx
      split at hx
      · rwa [List.getElem?_drop] at hx
      · cases hx
    have e : (⟨g, 1 + i, none⟩ : Addr).add j = ⟨g, (i + j) + 1, none⟩ := by
      have : (⟨g, 1 + i, none⟩ : Addr).add j = ⟨g, 1 + i + j, none⟩ := by unfold Addr.add; split <;> simp_all
      rw [this]
      congr 1
      omega
    rw [e]
    exact row_at h (i + j + 1) _ (by simp [bvals, hx'])⟩
theorem run_slice_to (g k : Nat) (w : World) (hk : k ≤ 8) : (Instr.sliceAt 22 (.pointer (some ⟨g, 1, none⟩)) none (some (.int .i64 (k : Int))) none).run Try.prog w = .ok (.slice (some ⟨g, 1, none⟩) k 8) w := by
  have h : k = 0 ∨ k = 1 ∨ k = 2 ∨ k = 3 ∨ k = 4 ∨ k = 5 ∨ k = 6 ∨ k = 7 ∨ k = 8 := by omega
  rcases h with rfl | rfl | rfl | rfl | rfl | rfl | rfl | rfl | rfl <;> (show _ = _; kernel_rfl)
theorem run_slice_one (g k : Nat) (w : World) (hk : k < 8) : (Instr.sliceAt 22 (.pointer (some ⟨g, 1, none⟩)) (some (.int .i64 1)) (some (.int .i64 ((k : Int) + 1))) none).run Try.prog w = .ok (.slice (some ⟨g, 2, none⟩) k 7) w := by
  have h : k = 0 ∨ k = 1 ∨ k = 2 ∨ k = 3 ∨ k = 4 ∨ k = 5 ∨ k = 6 ∨ k = 7 := by omega
  rcases h with rfl | rfl | rfl | rfl | rfl | rfl | rfl | rfl <;> (show _ = _; kernel_rfl)
theorem run_index_arr (g k : Nat) (w : World) (hk : k < 8) : (Instr.indexAt 22 (.pointer (some ⟨g, 1, none⟩)) (.int .i64 (k : Int))).run Try.prog w = .ok (.pointer (some ⟨g, 1 + k, none⟩)) w := by
  have h : k = 0 ∨ k = 1 ∨ k = 2 ∨ k = 3 ∨ k = 4 ∨ k = 5 ∨ k = 6 ∨ k = 7 := by omega
  rcases h with rfl | rfl | rfl | rfl | rfl | rfl | rfl | rfl <;> (show _ = _; kernel_rfl)
/-- A queue that has room: with one byte more. -/
theorem pad_set (l : List Nat) (b : Nat) (h : l.length < 8) : (pad l).set l.length b = pad (l ++ [b]) := by
  rw [pad_le (by omega), pad_le (by simp; omega), List.set_append_right _ _ (Nat.le_refl _), Nat.sub_self, List.append_assoc]
  congr 1
  have : 8 - l.length = (8 - (l ++ [b]).length) + 1 := by simp; omega
  rw [this, List.replicate_succ, List.set_cons_zero]
  rfl
theorem ofV_le (l : List Nat) (h : l.length ≤ 8) : ofV l = qv (l.length : Nat) (pad l) := by rw [ofV, Nat.min_eq_left h]
theorem results_q {fn : Func} {t : Tmp} {ty : TypeId} (h : fn.results = #[.cell t ty]) (tmps : Array Value) (P : Program) (w : World) (a : Addr) (v : Value) (hp : tmps.getD t undef = .pointer (some a)) (hl : (loadVar ty a).run P w = .ok v w) : (results fn tmps).run P w = .ok v w := by
  rw [Array.getD_eq_getD_getElem?] at hp
  simp [results, h, hp, asAddr, hl]
theorem results_qb {fn : Func} {t u : Tmp} {ty : TypeId} (h : fn.results = #[.cell t ty, .tmp u]) (tmps : Array Value) (P : Program) (w : World) (a : Addr) (v x : Value) (hp : tmps.getD t undef = .pointer (some a)) (hl : (loadVar ty a).run P w = .ok v w) (hx : tmps.getD u undef = x) : (results fn tmps).run P w = .ok (.tuple #[v, x]) w := by
  subst hx
  rw [Array.getD_eq_getD_getElem?] at hp
  simp [results, h, hp, asAddr, hl]
theorem results_bqb {fn : Func} {s t u : Tmp} {ty : TypeId} (h : fn.results = #[.tmp s, .cell t ty, .tmp u]) (tmps : Array Value) (P : Program) (w : World) (a : Addr) (v x y : Value) (hp : tmps.getD t undef = .pointer (some a)) (hl : (loadVar ty a).run P w = .ok v w) (hx : tmps.getD s undef = x) (hy : tmps.getD u undef = y) : (results fn tmps).run P w = .ok (.tuple #[x, v, y]) w := by
  subst hx
  subst hy
  rw [Array.getD_eq_getD_getElem?] at hp
  simp [results, h, hp, asAddr, hl]
/-! ### are two values the same? -/
section
variable (w : World)
theorem run_part_i64 (cs : Array Value) (v : Value) (h : cs[0]? = some v) : (part 3 cs 0).run Try.prog w = .ok v w := by
  simp [part, isAgg, run_underlying Try.underlying3, h]
theorem run_part_u8 (cs : Array Value) (i : Nat) (v : Value) (h : cs[i]? = some v) : (part 5 cs i).run Try.prog w = .ok v w := by
  simp [part, isAgg, run_underlying Try.underlying5, h]
theorem run_items (d : Nat) (bs cs : List Nat) (ha : bs.length = 8) (hc : cs.length = 8) : ∀ is : List Nat, (∀ i ∈ is, i < 8) → (Op.eqItems (d + 1) 5 1 (bvals bs).toArray (bvals cs).toArray is).run Try.prog w = .ok (is.all fun i => bs[i]? == cs[i]?) w
  | [], _ => by simp [Op.eqItems]
  | i :: is, h => by
    have hi : i < 8 := h i (by simp)
    have e1 : bs[i]? = some bs[i] := List.getElem?_eq_getElem (by omega)
    have e2 : cs[i]? = some cs[i] := List.getElem?_eq_getElem (by omega)
    have p1 := run_part_u8 w (bvals bs).toArray i (.int .u8 (bs[i] : Nat)) (by simp [bvals, e1])
    have p2 := run_part_u8 w (bvals cs).toArray i (.int .u8 (cs[i] : Nat)) (by simp [bvals, e2])
    have ih := run_items d bs cs ha hc is (fun j hj => h j (by simp [hj]))
    simp only [Op.eqItems, Nat.mul_one, Sem.run_bind, p1, p2, run_equalIn_int w d 5 .u8 .u8 _ _ Try.underlying5, Result.andThen_ok, List.all_cons, e1, e2]
    by_cases hh : bs[i] = cs[i]
    · simp [hh, ih]
    · have hh' : ¬ ((bs[i] : Nat) : Int) = ((cs[i] : Nat) : Int) := by omega
      simp [hh, hh']
theorem all_same (bs cs : List Nat) (ha : bs.length = 8) (hc : cs.length = 8) : ((List.range 8).all fun i => bs[i]? == cs[i]?) = decide (bs = cs) := by
  rw [Bool.eq_iff_iff, List.all_eq_true, decide_eq_true_iff]
  constructor
  · intro h
    apply List.ext_getElem?
    intro i
    by_cases hi : i < 8
    · simpa using h i (by simpa using hi)
    · rw [List.getElem?_eq_none (by omega), List.getElem?_eq_none (by omega)]
  · intro h i _
    simp [h]
theorem run_part_arr (n : Int) (bs : List Nat) (h : bs.length = 8) : (part 22 (.int .i64 n :: bvals bs).toArray 1).run Try.prog w = .ok (.agg (bvals bs).toArray) w := by
  obtain ⟨b0, b1, b2, b3, b4, b5, b6, b7, rfl⟩ := eight h
  simp only [part, isAgg, Sem.run_bind, run_underlying Try.underlying22, Result.andThen_ok, Sem.run_pure, if_true]
  rfl
theorem run_eq_fields (t : TypeId) (ht : Try.prog.underlying t = Try.prog.underlying 24) (hp : Try.prog.stoodInHeld t = false) (n m : Int) (bs cs : List Nat) (hb : bs.length = 8) (hc : cs.length = 8) :
    (Op.equalIn 10000 t (qv n bs) (qv m cs)).run Try.prog w = .ok (decide (n = m ∧ bs = cs)) w := by
  have hf : Try.prog.fieldsOf t = #[⟨"Len", 3, 0, false, "", "", 0⟩, ⟨"Bytes", 22, 1, false, "", "", 8⟩] := by
    unfold Program.fieldsOf
    rw [ht]
    rfl
  obtain ⟨i0, hi0, -⟩ := info_parts u8info
  have hce : Try.prog.cellsOf 5 = 1 := by kernel_rfl
  have harr : ∀ w : World, (Op.equalIn 9999 22 (.agg (bvals bs).toArray) (.agg (bvals cs).toArray)).run Try.prog w = .ok (decide (bs = cs)) w := fun w => by
    rw [run_equalIn_array w 9998 _ _ Try.underlying22 hi0, hce, run_items w 9997 bs cs hb hc _ (fun i hi => by simpa using hi), all_same bs cs hb hc]
  rw [qv, qv, run_equalIn_struct w 9999 t _ _ (by rw [hf, ht]; rfl) hp, hf]
  have p1 := run_part_i64 w (.int .i64 n :: bvals bs).toArray (.int .i64 n) rfl
  have p2 := run_part_i64 w (.int .i64 m :: bvals cs).toArray (.int .i64 m) rfl
  have p3 := run_part_arr w n bs hb
  have p4 := run_part_arr w m cs hc
  simp only [Op.eqFields, ne_eq, Sem.run_bind, Sem.run_ite, p1, p2, p3, p4, run_equalIn_int w 9998 3 .i64 .i64 _ _ Try.underlying3, harr, Result.andThen_ok]
  by_cases h1 : n = m
  · by_cases h2 : bs = cs
    · simp [h1, h2]
    · simp [h1, h2]
  · simp [h1]
theorem run_eql_q (n m : Int) (bs cs : List Nat) (hb : bs.length = 8) (hc : cs.length = 8) : (binOp .eql 24 (qv n bs) (qv m cs)).run Try.prog w = .ok (.bool (decide (n = m ∧ bs = cs))) w := by
  have h := run_eq_fields w 24 rfl (by kernel_rfl) n m bs cs hb hc
  unfold qv at h ⊢
  rw [run_eql_struct, h]
  rfl
theorem run_neq_q (n m : Int) (bs cs : List Nat) (hb : bs.length = 8) (hc : cs.length = 8) : (binOp .neq 24 (qv n bs) (qv m cs)).run Try.prog w = .ok (.bool (!decide (n = m ∧ bs = cs))) w := by
  have h := run_eq_fields w 24 rfl (by kernel_rfl) n m bs cs hb hc
  unfold qv at h ⊢
  rw [run_neq_struct, h]
  rfl
theorem run_eql_r (n m : Int) (bs cs : List Nat) (hb : bs.length = 8) (hc : cs.length = 8) : (binOp .eql 44 (qv n bs) (qv m cs)).run Try.prog w = .ok (.bool (decide (n = m ∧ bs = cs))) w := by
  have h := run_eq_fields w 44 (by rw [Try.underlying44, Try.underlying24]) (by kernel_rfl) n m bs cs hb hc
  unfold qv at h ⊢
  rw [run_eql_struct, h]
  rfl
end
end Go.Proofs.Ytgpgijdciaieaaa
