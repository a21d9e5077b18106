/-
  A stack of expressions in memory: what is pushed, set, and taken away; pieces that came in. No walk.
-/
import Derived.Test.YthmphmndpfkbcaaTyped2
namespace Go.Proofs.Ythmphmndpfkbcaa
open Go.RowKit
set_option linter.unusedVariables false
theorem flatten_len8 : ∀ rows : List (List Value), (∀ r ∈ rows, r.length = 8) → rows.flatten.length = rows.length * 8
  | [], _ => by simp
  | r :: rows, h => by
    rw [List.flatten_cons, List.length_append, h r (by simp), flatten_len8 rows fun r hr => h r (by simp [hr])]
    simp
    omega
theorem flatten_take8 : ∀ (rows : List (List Value)) (m : Nat), (∀ r ∈ rows, r.length = 8) → m ≤ rows.length → rows.flatten.take (m * 8) = (rows.take m).flatten
  | rows, 0, _, _ => by simp
  | [], m + 1, _, h => by simp at h
  | r :: rows, m + 1, h, hm => by
    have h8 := h r (by simp)
    rw [List.flatten_cons, List.take_succ_cons, List.flatten_cons, ← flatten_take8 rows m (fun r hr => h r (by simp [hr])) (by simpa using hm)]
    rw [show (m + 1) * 8 = r.length + m * 8 from by omega, List.take_length_add_append]
theorem flatten_drop8 : ∀ (rows : List (List Value)) (m : Nat), (∀ r ∈ rows, r.length = 8) → m ≤ rows.length → rows.flatten.drop (m * 8) = (rows.drop m).flatten
  | rows, 0, _, _ => by simp
  | [], m + 1, _, h => by simp at h
  | r :: rows, m + 1, h, hm => by
    have h8 := h r (by simp)
    rw [List.flatten_cons, List.drop_succ_cons, ← flatten_drop8 rows m (fun r hr => h r (by simp [hr])) (by simpa using hm)]
    rw [show (m + 1) * 8 = r.length + m * 8 from by omega, List.drop_length_add_append]
theorem flatten_set8 (rows : List (List Value)) (i : Nat) (news : List Value) (h : ∀ r ∈ rows, r.length = 8) (hi : i < rows.length) : (rows.set i news).flatten = rows.flatten.take (i * 8) ++ news ++ rows.flatten.drop (i * 8 + 8) := by
  rw [flatten_take8 rows i h (by omega), show i * 8 + 8 = (i + 1) * 8 from by omega, flatten_drop8 rows (i + 1) h (by omega), List.set_eq_take_append_cons_drop, if_pos hi]
  simp
theorem row_set8 (L news xs : List Value) (m i8 : Nat) (hx : L.take m = xs) (hn : news.length = 8) (hi : i8 + 8 ≤ m) (hm : m ≤ L.length) : (L.take i8 ++ news ++ L.drop (i8 + 8)).take m = xs.take i8 ++ news ++ xs.drop (i8 + 8) := by
  subst hx
  have h1 : (L.take i8).length = i8 := by rw [List.length_take]; omega
  have h2 : (L.take i8 ++ news).length = i8 + 8 := by rw [List.length_append, h1, hn]
  rw [List.take_take, Nat.min_eq_left (by omega), List.drop_take]
  conv => lhs; rw [show m = (L.take i8 ++ news).length + (m - (i8 + 8)) from by omega]
  rw [List.take_length_add_append]
theorem EachK.more {trees : List Ex} {B : Nat} {w : World} {rows : List (List Value)} {S : Nat → Prop} {v : Value} {wr : World} (h : EachK id trees B w trees.length rows S v wr) (x : Ex) : EachK id (trees ++ [x]) B w trees.length rows S v wr :=
  ⟨h.len, h.own, h.eight, fun i r y hr hy => by
    have hi := (List.getElem?_eq_some_iff.1 hr).1
    rw [List.getElem?_append_left (by have := h.len; omega)] at hy
    exact h.tree i r y hr hy, h.low, h.below⟩
theorem EachK.under {f : Ex → Ex} {trees : List Ex} {B : Nat} {w : World} {k : Nat} {rows : List (List Value)} {S : Nat → Prop} {v : Value} {wr W : World} (h : EachK f trees B w k rows S v wr) (hB : B ≤ wr.heap.size) (hb : Below wr.heap.size wr W) : EachK f trees B w k rows S v W := by
  have hs := hb.size
  exact ⟨h.len, ownsRow_below h.own hb, h.eight, fun i r x hr hx => (h.tree i r x hr hx).keep (fun _ h => h) (fun b hS j u hu => by rw [hb.cell (p := ⟨b, j, none⟩) (h.low b hS).2.1]; exact hu), fun b hS => by obtain ⟨h1, h2, h3⟩ := h.low b hS; exact ⟨h1, by omega, h3⟩, h.below.trans (hb.mono hB)⟩
/-- Where the stack lies. -/
theorem EachK.blk {trees : List Ex} {B : Nat} {w : World} {n : Nat} {rows : List (List Value)} {S : Nat → Prop} {v : Value} {wr : World} (h : EachK id trees B w n rows S v wr) (hn : 0 < n) : ∃ (g cap : Nat) (cur : List Value), v = .slice (some ⟨g, 0, none⟩) n cap ∧ B ≤ g ∧ g < wr.heap.size ∧ n ≤ cap ∧ cap ≤ maxLen ∧ wr.heap[g]? = some (.cells cur.toArray 27 (0, 0)) ∧ cur.length = cap * 8 ∧ cur.take (n * 8) = rows.flatten := by
  rcases h.own.2 with ⟨_, h0⟩ | ⟨g, cap, cur, rfl, hbg, hg, hnc, hcm, hcs, ht⟩
  · omega
  · exact ⟨g, cap, cur.toList, rfl, hbg, (Array.getElem?_eq_some_iff.1 hg).1, hnc, hcm, by simpa using hg, by simpa using hcs, ht⟩
theorem EachK.row {trees : List Ex} {B : Nat} {w : World} {n : Nat} {rows : List (List Value)} {S : Nat → Prop} {wr : World} {g cap : Nat} (h : EachK id trees B w n rows S (.slice (some ⟨g, 0, none⟩) n cap) wr) (i : Nat) (hi : i < n) (hn : n = trees.length) :
    ∃ (op at_ : Int) (name field : ByteArray) (m ty ref : Int) (A : Option Nat) (c : Nat) (args : List Ex), trees[i]? = some (.mk op at_ name field m ty ref args) ∧ SlIn S wr A args ∧ CellsAt wr g (i * 8) (exL op at_ name field m ty ref A args.length c) := by
  obtain ⟨r, hr⟩ : ∃ r, rows[i]? = some r := ⟨_, List.getElem?_eq_getElem (by have := h.len; omega)⟩
  obtain ⟨x, hx⟩ : ∃ x, trees[i]? = some x := ⟨_, List.getElem?_eq_getElem (by omega)⟩
  obtain ⟨op, at_, name, field, m, ty, ref, A, c, args, he, rfl, hs⟩ := (h.tree i r x hr hx).sl
  have he2 : x = .mk op at_ name field m ty ref args := he
  subst he2
  refine ⟨op, at_, name, field, m, ty, ref, A, c, args, hx, hs, fun j v hv => ?_⟩
  have hc := h.own.cells (g := g) rfl (i * 8 + j) v (flat8 rows i j _ v h.eight hr hv)
  have hadd : (⟨g, 0, none⟩ : Addr).add (i * 8 + j) = ⟨g, i * 8 + j, none⟩ := by unfold Addr.add; split <;> simp_all
  rw [hadd] at hc
  exact hc
/-- One is set. -/
theorem EachK.put_at {trees : List Ex} {B : Nat} {w : World} {n : Nat} {rows : List (List Value)} {S S' : Nat → Prop} {W : World} {g cap : Nat} {cur news : List Value} {x : Ex} (h : EachK id trees B w n rows S (.slice (some ⟨g, 0, none⟩) n cap) W) (i : Nat) (hi : i < n) (hn : n = trees.length)
    (hg : W.heap[g]? = some (.cells cur.toArray 27 (0, 0))) (hcap : n ≤ cap) (hmax : cap ≤ maxLen) (hcs : cur.length = cap * 8) (ht : cur.take (n * 8) = rows.flatten) (hB : B ≤ g)
    (hnew : ExIn S' W news x) (hS : ∀ b, S b → S' b) (hS' : ∀ b, S' b → B ≤ b ∧ b < W.heap.size ∧ b ≠ g) :
    EachK id (trees.set i x) B w n (rows.set i news) S' (.slice (some ⟨g, 0, none⟩) n cap) (W.setRow g (cur.take (i * 8) ++ news ++ cur.drop (i * 8 + 8)).toArray) := by
  have h8 := hnew.len
  have hlr : i < rows.length := by have := h.len; omega
  have keep : ∀ b, S' b → ∀ j v, W.cell? ⟨b, j, none⟩ = some v → (W.setRow g (cur.take (i * 8) ++ news ++ cur.drop (i * 8 + 8)).toArray).cell? ⟨b, j, none⟩ = some v := fun b hb j v hv => by
    rw [World.cell?_of_block (setRow_other W g b _ (hS' b hb).2.2)]
    exact hv
  refine ⟨by rw [List.length_set]; exact h.len, ⟨?_, .inr ⟨g, cap, _, rfl, hB, setRow_heap _ _ _ _ _ _ hg, hcap, hmax, ?_, ?_⟩⟩, fun r hr => ?_, fun j r y hr hy => ?_, fun b hb => ?_, setRow_below h.below hB _⟩
  · rw [flatten_len8 _ (fun r hr => ?_), List.length_set, h.len]
    rcases List.mem_or_eq_of_mem_set hr with hr | rfl
    · exact h.eight r hr
    · exact h8
  · have hmul : (i + 1) * 8 ≤ cap * 8 := Nat.mul_le_mul_right 8 (by omega)
    simp only [List.size_toArray, List.length_append, List.length_take, List.length_drop, h8, hcs]
    omega
  · show (cur.take (i * 8) ++ news ++ cur.drop (i * 8 + 8)).take (n * 8) = _
    have hmul : (i + 1) * 8 ≤ n * 8 := Nat.mul_le_mul_right 8 (by omega)
    have hmul2 : n * 8 ≤ cap * 8 := Nat.mul_le_mul_right 8 hcap
    rw [row_set8 cur news _ (n * 8) (i * 8) ht h8 (by omega) (by omega), flatten_set8 rows i news h.eight hlr]
  · rcases List.mem_or_eq_of_mem_set hr with hr | rfl
    · exact h.eight r hr
    · exact h8
  · by_cases hij : i = j
    · subst hij
      rw [List.getElem?_set_self hlr] at hr
      rw [List.getElem?_set_self (by omega)] at hy
      obtain rfl := Option.some.inj hr
      obtain rfl := Option.some.inj hy
      exact hnew.keep (fun _ h => h) keep
    · rw [List.getElem?_set_ne hij] at hr hy
      exact ((h.tree j r y hr hy).keep hS (fun _ _ _ _ h => h)).keep (fun _ h => h) keep
  · obtain ⟨h1, h2, h3⟩ := hS' b hb
    exact ⟨h1, by rw [setRow_size]; exact h2, fun e => h3 (by simpa [Value.ownBlock] using e.symm)⟩
/-- The last one is taken away. -/
theorem EachK.pop {trees : List Ex} {B : Nat} {w : World} {m : Nat} {rows : List (List Value)} {S : Nat → Prop} {W : World} {g cap : Nat} (h : EachK id trees B w (m + 1) rows S (.slice (some ⟨g, 0, none⟩) (m + 1) cap) W) : EachK id (trees.take m) B w m (rows.take m) S (.slice (some ⟨g, 0, none⟩) m cap) W := by
  rcases h.own.2 with ⟨_, h0⟩ | ⟨g', cap', cur, hv, hbg, hg, hnc, hcm, hcs, ht⟩
  · omega
  · injection hv with e1 e2 e3
    injection e1 with e1
    injection e1 with e1
    subst e1 e3
    have hl := h.len
    refine ⟨by rw [List.length_take]; omega, ⟨?_, .inr ⟨g, cap, cur, rfl, hbg, hg, by omega, hcm, hcs, ?_⟩⟩, fun r hr => h.eight r (List.mem_of_mem_take hr), fun i r y hr hy => ?_, fun b hb => ?_, h.below⟩
    · rw [flatten_len8 _ (fun r hr => h.eight r (List.mem_of_mem_take hr)), List.length_take]
      congr 1
      omega
    · rw [← flatten_take8 rows m h.eight (by omega), ← ht, List.take_take, Nat.min_eq_left (by omega)]
    · rw [List.getElem?_take] at hr hy
      split at hr
      · rename_i hi
        rw [if_pos hi] at hy
        exact h.tree i r y hr hy
      · cases hr
    · obtain ⟨h1, h2, h3⟩ := h.low b hb
      exact ⟨h1, h2, h3⟩
theorem sizeL_set : ∀ (l : List Ex) (i : Nat) (x y : Ex), l[i]? = some x → sizeL (l.set i y) + sizeT x = sizeL l + sizeT y
  | [], i, x, y, h => by simp at h
  | z :: l, 0, x, y, h => by
    obtain rfl : z = x := by simpa using h
    simp only [List.set_cons_zero, sizeL]
    omega
  | z :: l, i + 1, x, y, h => by
    have := sizeL_set l i x y (by simpa using h)
    simp only [List.set_cons_succ, sizeL]
    omega
theorem sizeL_append : ∀ (l : List Ex) (x : Ex), sizeL (l ++ [x]) = sizeL l + sizeT x
  | [], x => by simp [sizeL]
  | z :: l, x => by
    rw [List.cons_append, sizeL, sizeL, sizeL_append l x]
    omega
/-- The stack behind k pieces. -/
structure Stk (w : World) (k : Nat) (trees : List Ex) (rows : List (List Value)) (S : Nat → Prop) (v : Value) (wr : World) : Prop where
  each : EachK id trees w.heap.size w trees.length rows S v wr
  ok : ∀ x ∈ trees, okT x ∧ (x.ty = 1 ∨ x.ty = 2)
  size : sizeL trees ≤ 2 * k
  len : trees.length ≤ k
theorem Stk.start (w : World) : Stk w 0 [] [] (fun _ => False) (.slice none 0 0) w := ⟨EachK.start _ _ _, fun _ h => by simp at h, by simp [sizeL], by simp⟩
/-- A piece's cells. -/
abbrev pcL (K O T N : Int) : List Value := [.int .u8 K, .int .u8 O, .int .u8 T, .int .i64 N]
def CellsA (w : World) (a : Addr) (cs : List Value) : Prop := ∀ j v, cs[j]? = some v → w.cell? (a.add j) = some v
/-- Pieces that came in. -/
def Pieces (w : World) (v : Value) (len : Nat) : Prop := (len = 0 ∧ ∃ p c, v = .slice p 0 c) ∨ ∃ a c, v = .slice (some a) len c ∧ len ≤ 9223372036854775807 ∧ a.block < w.heap.size ∧
  ∀ i, i < len → ∃ K O T N : Int, (0 ≤ K ∧ K ≤ 255) ∧ (0 ≤ O ∧ O ≤ 255) ∧ (0 ≤ T ∧ T ≤ 255) ∧ (-9223372036854775808 ≤ N ∧ N ≤ 9223372036854775807) ∧ CellsA w (a.add (i * 4)) (pcL K O T N)
theorem add_block (a : Addr) (k : Nat) : (a.add k).block = a.block := by unfold Addr.add; split <;> rfl
theorem CellsA.below {w w' : World} {B : Nat} {a : Addr} {cs : List Value} (h : CellsA w a cs) (hb : Below B w w') (hB : a.block < B) : CellsA w' a cs := fun j v hv => by
  rw [hb.cell (by rw [add_block]; exact hB)]
  exact h j v hv
section
variable {P : Program}
theorem run_loadVar_addr (w : World) (a : Addr) (ty : TypeId) (cs : List Value) (d : TypeDesc) (hc : CellsA w a cs)
    (hu : P.underlying ty = some d) (hd : (match d with | .struct _ | .array _ _ => true | _ => false) = true) (hi : (P.info? ty).map (·.size) = some cs.length) :
    (loadVar ty a).run P w = .ok (.agg cs.toArray) w := by
  have hl : (loadCells a cs.length).run P w = .ok cs.toArray w := run_loadCells_list (P := P) w a cs hc
  cases hq : P.info? ty with
  | none => simp [hq] at hi
  | some i =>
    have hs : i.size = cs.length := by simpa [hq] using hi
    have hagg : (isAgg ty).run P w = .ok true w := by
      unfold isAgg
      rw [Sem.run_bind, run_underlying hu w]
      cases d <;> simp_all
    simp [loadVar, Sem.run_bind, hagg, sizeOf, typeInfo, hq, hs, hl]
theorem wpList_load_addr {ops : Array Oper} {rest : List Oper} {o : Oper} {a : Act} {w : World} {Q : Exit → Act → World → Prop} (hgd : o.guard = none) (ty : TypeId) (x : Operand) (ho : o.op = .load ty x)
    (ad : Addr) (hx : a.eval x = .pointer (some ad)) (cs : List Value) (d : TypeDesc) (hc : CellsA w ad cs)
    (hu : P.underlying ty = some d) (hd : (match d with | .struct _ | .array _ _ => true | _ => false) = true) (hi : (P.info? ty).map (·.size) = some cs.length)
    (h : wpList P ops Q rest (a.put o.dst (.agg cs.toArray)) w) : wpList P ops Q (o :: rest) a w :=
  wpList_plain hgd fun _ hK => by
    unfold Oper.wp execOp
    simp only [ho, hx, Instr.loadAt, Instr.sureAddr, Sem.run_bind, Sem.run_pure, Result.andThen_ok, run_loadVar_addr w ad ty cs d hc hu hd hi]
    exact hK _ _ h
end
end Go.Proofs.Ythmphmndpfkbcaa
