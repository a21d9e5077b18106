/-
  ints: by its contract; what the program's functions must answer, as one condition; loads and stores of pins that lie in rows.
-/
import Derived.Test.YticeeeomhdcffaaRef4
namespace Go.Proofs.Yticeeeomhdcffaa
open Go.RowKit
set_option linter.unusedVariables false
/-- A slice that holds these numbers. -/
def RdN (w : World) (A : Option Addr) (l : List Nat) : Prop := ∀ (j x : Nat), l[j]? = some x → ∃ a, A = some a ∧ w.cell? (a.add j) = some (.int .i64 (x : Int))
theorem OwnN.rd {w : World} {B : Nat} {v : Value} {l : List Nat} (h : OwnN w B v l) : ∃ A c, v = .slice A l.length c ∧ RdN w A l := by
  obtain ⟨A, c, rfl⟩ := h.form
  refine ⟨A, c, rfl, fun j x hj => ?_⟩
  obtain ⟨a, c', e, hc⟩ := h.at j x hj
  injection e with e1
  exact ⟨a, e1, hc⟩
theorem RdN.below {w w' : World} {A : Option Addr} {l : List Nat} (h : RdN w A l) (hb : Below w.heap.size w w') : RdN w' A l := fun j x hj => by
  obtain ⟨a, rfl, hc⟩ := h j x hj
  exact ⟨a, rfl, (hb.cell (World.block_lt_of_cell? w _ hc)).trans hc⟩
theorem RdN.new (W : World) (l : List Nat) (t : TypeId) : RdN (W.alloc (.cells (l.map iv).toArray t)) (some ⟨W.heap.size, 0, none⟩) l := fun j x hj =>
  ⟨_, rfl, new_cells W (l.map iv) t j _ (by simp [List.getElem?_map, hj, iv])⟩
set_option maxRecDepth 100000 in
theorem ints_same (A1 A2 : Option Addr) (c1 c2 : Nat) (l : List Nat) (w : World) (h1 : RdN w A1 l) (h2 : RdN w A2 l) (h64 : l.length ≤ 1000) :
    Calls Try.prog 10 #[.slice A1 l.length c1, .slice A2 l.length c2] w fun x w' => x = .returned (.bool true) ∧ Below w.heap.size w w' := by
  have H1 := Lib.hid h1
  have H2 := Lib.hid h2
  clear h1 h2
  go_enter Try.func10, Try.ntmps10
  go_wp2
  go_loopw [5] (fun kv wr => ∃ k : Nat, k ≤ l.length ∧ kv = .int .i64 k ∧ Below w.heap.size w wr) (fun kv _ => l.length - (intOf kv).toNat)
  case atStart => exact ⟨0, by omega, rfl, Below.refl _ _⟩
  case round =>
    obtain ⟨k, hk, rfl, hb⟩ := hrel
    have HB := Lib.hid hb
    by_cases hlt : k < l.length
    · obtain ⟨x, hx⟩ : ∃ x, l[k]? = some x := ⟨_, List.getElem?_eq_getElem hlt⟩
      obtain ⟨a1, rfl, hc1⟩ := (H1.out.below hb) k x hx
      obtain ⟨a2, rfl, hc2⟩ := (H2.out.below hb) k x hx
      have d1 : (k : Int) < (l.length : Int) := by omega
      clear hx hb
      go_wp2_with fail
      go_quiet (fail)
      go_wp2_with fail
      go_roundw
      case rel => exact ⟨k + 1, by omega, by go_num, Below.drewN' HB.out _⟩
      case measure =>
        simp [intOf]
        omega
    · obtain rfl : k = l.length := by omega
      clear hb
      go_wp2
      go_ret
      exact ⟨rfl, HB.out⟩
/-- What the program's functions answer. -/
structure GpioOk : Prop where
  write : ∀ (o i e : Nat) (reg v : Int) (w : World), o < 256 → i < 256 → e < 256 → -9223372036854775808 ≤ reg → reg ≤ 9223372036854775807 → -2147483648 ≤ v → v ≤ 2147483647 → Calls Try.prog 6 #[gv o i e, .int .i64 reg, .int .i32 v] w fun x w' => x = .returned (gv (outN o reg v) i (edgeN e reg v)) ∧ Below w.heap.size w w'
  peek : ∀ (o i e : Nat) (reg : Int) (w : World), o < 256 → i < 256 → e < 256 → -9223372036854775808 ≤ reg → reg ≤ 9223372036854775807 → Calls Try.prog 13 #[gv o i e, .int .i64 reg] w fun x w' => x = .returned (.int .i32 (peekN o i e reg)) ∧ Below w.heap.size w w'
  pins : ∀ (o i e level : Nat) (w : World), o < 256 → i < 256 → e < 256 → level < 256 → Calls Try.prog 8 #[gv o i e, .int .u8 level] w fun x w' => x = .returned (.tuple #[gv o level e, .bool (asksL e (riseK i level 8))]) ∧ Below w.heap.size w w'
  rising : ∀ (was is : Nat) (w : World), was < 256 → is < 256 → Calls Try.prog 11 #[.int .u8 was, .int .u8 is] w fun x w' => ∃ v, x = .returned v ∧ OwnN w' w.heap.size v (riseK was is 8) ∧ Below w.heap.size w w'
/-! ### pins in rows -/
def GRow (w : World) (g : Nat) (t : TypeId) (o i e : Nat) : Prop := VRow w g t (gc o i e)
theorem GRow.below {w w' : World} {B g : Nat} {t : TypeId} {o i e : Nat} (h : GRow w g t o i e) (hb : Below B w w') (hg : g < B) : GRow w' g t o i e := VRow.below h hb hg
theorem GRow.lt {w : World} {g : Nat} {t : TypeId} {o i e : Nat} (h : GRow w g t o i e) : g < w.heap.size := VRow.lt h
theorem GRow.three {w : World} {g : Nat} {t : TypeId} {o i e : Nat} (h : GRow w g t o i e) : w.cell? ⟨g, 0, none⟩ = some (.int .u8 (o : Int)) ∧ w.cell? ⟨g, 1, none⟩ = some (.int .u8 (i : Int)) ∧ w.cell? ⟨g, 2, none⟩ = some (.int .u8 (e : Int)) := ⟨VRow.cell h 0 _ rfl, VRow.cell h 1 _ rfl, VRow.cell h 2 _ rfl⟩
theorem wpList_load_g {P : Program} {ops : Array Oper} {rest : List Oper} {o : Oper} {a : Act} {w : World} {Q : Exit → Act → World → Prop} (hw : Region.wanted o (yielded ops a.tmps) = true) (ty : TypeId) (x : Operand) (ho : o.op = .load ty x) (g : Nat) (hx : a.eval x = .pointer (some ⟨g, 0, none⟩))
    (fs : Array Field) (hu : P.underlying ty = some (.struct fs)) (hi : (P.info? ty).map (·.size) = some 3) (t : TypeId) (p i e : Nat) (hr : GRow w g t p i e) (h : wpList P ops Q rest (a.put o.dst (gv p i e)) w) : wpList P ops Q (o :: rest) a w :=
  wpList_load_v hw ty x ho g hx fs hu t (gc p i e) hr hi h
theorem wpList_store_g {P : Program} {ops : Array Oper} {rest : List Oper} {o : Oper} {a : Act} {w : World} {Q : Exit → Act → World → Prop} (hgd : o.guard = none) (ty : TypeId) (x v : Operand) (ho : o.op = .store ty x v) (g : Nat) (hx : a.eval x = .pointer (some ⟨g, 0, none⟩))
    (p i e : Nat) (hv : a.eval v = gv p i e) (hi : (P.info? ty).map (·.size) = some 3) (t : TypeId) (p' i' e' : Nat) (hr : GRow w g t p' i' e')
    (h : ∀ W, Hid (GRow W g t p i e) → Hid (∀ k, k ≠ g → W.heap[k]? = w.heap[k]?) → Hid (Below g w W) → wpList P ops Q rest (a.put o.dst undef) W) : wpList P ops Q (o :: rest) a w :=
  wpList_store_v hgd ty x v ho g hx (gc p i e) hv hi (gc_one _ _ _) t (gc p' i' e') hr rfl h
theorem wp_store_g {P : Program} {o : Oper} {a : Act} {w : World} {K : Act → World → Prop} {Q : Exit → Act → World → Prop} (ty : TypeId) (x v : Operand) (ho : o.op = .store ty x v) (g : Nat) (hx : a.eval x = .pointer (some ⟨g, 0, none⟩))
    (p i e : Nat) (hv : a.eval v = gv p i e) (hi : (P.info? ty).map (·.size) = some 3) (t : TypeId) (p' i' e' : Nat) (hr : GRow w g t p' i' e')
    (h : ∀ W, Hid (GRow W g t p i e) → Hid (∀ k, k ≠ g → W.heap[k]? = w.heap[k]?) → Hid (Below g w W) → K (a.put o.dst undef) W) : o.wp P a w K Q :=
  wp_store_v ty x v ho g hx (gc p i e) hv hi (gc_one _ _ _) t (gc p' i' e') hr rfl h
theorem run_load_g {P : Program} {a : Act} (w : World) (ty : TypeId) (x : Operand) (g : Nat) (hx : a.eval x = .pointer (some ⟨g, 0, none⟩)) (fs : Array Field) (hu : P.underlying ty = some (.struct fs)) (hi : (P.info? ty).map (·.size) = some 3) (t : TypeId) (p i e : Nat) (hr : GRow w g t p i e)
    (dst : Option Tmp) (type : TypeId) (pos : String) (after : Array Edge) (guard : Option (Nat × Bool)) : (execOp a.eval ⟨dst, .load ty x, type, pos, after, guard⟩).run P w = .ok (.value (gv p i e)) w :=
  run_load_v w ty x g hx fs hu t (gc p i e) hr hi dst type pos after guard
end Go.Proofs.Yticeeeomhdcffaa
