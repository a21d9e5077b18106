/-
  Fold by its contract: any tree. Made by wip/genfoldfold.py.
-/
import Derived.Test.YthmphmndpfkbcaaExpr
namespace Go.Proofs.Ythmphmndpfkbcaa
open Go.RowKit
section
variable {P : Program}
theorem run_load_at {a : Act} (w : World) (ty : TypeId) (x : Operand) (b off : Nat) (hx : a.eval x = .pointer (some ⟨b, off, none⟩)) (cs : List Value) (d : TypeDesc) (hc : CellsAt w b off cs)
    (hu : P.underlying ty = some d) (hd : (match d with | .struct _ | .array _ _ => true | _ => false) = true) (hi : (P.info? ty).map (·.size) = some cs.length)
    (dst : Option Tmp) (type : TypeId) (pos : String) (after : Array Edge) (guard : Option (Nat × Bool)) : (execOp a.eval ⟨dst, .load ty x, type, pos, after, guard⟩).run P w = .ok (.value (.agg cs.toArray)) w := by
  unfold execOp
  simp only [hx, Instr.loadAt, Instr.sureAddr, Sem.run_bind, Sem.run_pure, Result.andThen_ok, run_loadVar_at w b off ty cs d hc hu hd hi]
theorem wp_store_row {o : Oper} {a : Act} {w : World} {K : Act → World → Prop} {Q : Exit → Act → World → Prop} (_ : o.guard = o.guard) (ty : TypeId) (x v : Operand) (ho : o.op = .store ty x v)
    (g off : Nat) (hx : a.eval x = .pointer (some ⟨g, off, none⟩)) (cs : List Value) (hv : (a.eval v).cells = cs.toArray) (hi : (P.info? ty).map (·.size) = some cs.length)
    (cur new : List Value) (t : TypeId) (hrow : w.heap[g]? = some (.cells cur.toArray t (0, 0))) (hfit : off + cs.length ≤ cur.length) (h1 : ∀ u ∈ cs, u.oneCell' = true) (hnew : cur.take off ++ cs ++ cur.drop (off + cs.length) = new)
    (h : K (a.put o.dst undef) (w.setRow g new.toArray)) : o.wp P a w K Q := by
  have hst := run_storeCells_at P g off t cs 0 cur.toArray w hrow (by simpa using hfit) h1
  simp only [Nat.add_zero] at hst
  rw [hnew] at hst
  cases hq : P.info? ty with
  | none => simp [hq] at hi
  | some i =>
    have hs : i.size = cs.length := by simpa [hq] using hi
    have hsv : (storeVar ty ⟨g, off, none⟩ (a.eval v)).run P w = .ok () (w.setRow g new.toArray) := by
      simp [storeVar, Sem.run_bind, sizeOf, typeInfo, hq, hs, hv, hst]
    unfold Oper.wp execOp
    simp only [ho, hx, Instr.storeAt, Instr.sureAddr, Sem.run_bind, Sem.run_pure, Result.andThen_ok, hsv]
    exact h
end
/-- Ahead of the folding. -/
structure Pre (w : World) (cs : List Value) (A : Option Nat) (args : List Ex) (S : Nat → Prop) (W : World) : Prop where
  cells : CellsAt W w.heap.size 0 cs
  res : W.heap[w.heap.size + 1]? = some (.cells zeroL.toArray 27 (0, 0))
  sl : SlIn S W A args
  lt : ∀ b, S b → b < W.heap.size
  below : Below w.heap.size w W
  size : w.heap.size + 2 ≤ W.heap.size
theorem Pre.under {w : World} {cs : List Value} {A : Option Nat} {args : List Ex} {S : Nat → Prop} {W W' : World} (h : Pre w cs A args S W) (hb : Below W.heap.size W W') : Pre w cs A args S W' := by
  have hs := hb.size
  have hz := h.size
  refine ⟨h.cells.below hb (by omega), ?_, h.sl.under hb h.lt, fun b hb => by have := h.lt b hb; omega, h.below.trans (hb.mono (by omega)), by omega⟩
  rw [hb.block _ (by omega)]
  exact h.res
theorem Pre.drew {w : World} {cs : List Value} {A : Option Nat} {args : List Ex} {S : Nat → Prop} {W : World} (h : Pre w cs A args S W) : Pre w cs A args S W.drew := h.under (Below.refl _ _).drew
theorem Pre.of {x : Ex} {w w' : World} {e : Ending} (h : ExprAns x w e w') : Below w.heap.size w w' := by
  obtain ⟨_, _, _, _, _, _, _, _, _, _, _, _, _, _, _, h⟩ := h
  exact h
theorem Pre.start (w : World) (cs zs : List Value) (A : Option Nat) (args : List Ex) (S : Nat → Prop) (hz : zs = zeroL) (hsl : SlIn S w A args) (hlow : ∀ b, S b → b < w.heap.size) :
    Pre w cs A args S ((w.alloc (.cells cs.toArray 27)).alloc (.cells zs.toArray 27)) := by
  subst hz
  have hs1 : (w.alloc (.cells cs.toArray 27)).heap.size = w.heap.size + 1 := by simp
  have hbw : Below w.heap.size w ((w.alloc (.cells cs.toArray 27)).alloc (.cells zeroL.toArray 27)) := ((Below.refl _ _).alloc (Nat.le_refl _) _).alloc (by omega) _
  refine ⟨?_, ?_, hsl.under hbw hlow, fun b hb => by have := hlow b hb; simp; omega, hbw, by simp⟩
  · refine row_cells (t := 27) ?_
    rw [Below.heap_alloc _ _ _ (by omega)]
    exact alloc_at w _
  · have h2 := alloc_at (w.alloc (.cells cs.toArray 27)) (.cells zeroL.toArray 27)
    rw [hs1] at h2
    exact h2
theorem Pre.cells2 {w : World} {cs : List Value} {A : Option Nat} {args : List Ex} {S : Nat → Prop} {W : World} {new : Array Value} (h : Pre w cs A args S W) : CellsAt (W.setRow (w.heap.size + 1) new) w.heap.size 0 cs := fun j v hv => by
  rw [World.cell?_of_block (setRow_other W (w.heap.size + 1) w.heap.size _ (by omega))]
  exact h.cells j v hv
theorem newFolder_some (w : World) : Calls Try.prog 20 #[] w fun e w' => ∃ fp, e = .returned (.pointer (some ⟨fp, 0, none⟩)) ∧ Folder w' fp ∧ Below w.heap.size w w' :=
  (newFolder_any w).mono fun _ _ ⟨h1, h2, h3⟩ => ⟨_, h1, h2, h3⟩
theorem expr_call (op at_ : Int) (name field : ByteArray) (n ty ref : Int) (A : Option Nat) (c : Nat) (args : List Ex) (fp : Nat) (S : Nat → Prop) (w : World) (hf : Folder w fp) (hsl : SlIn S w A args) (hlow : ∀ b, S b → b < w.heap.size) :
    Calls Try.prog 21 #[.pointer (some ⟨fp, 0, none⟩), .agg (exL op at_ name field n ty ref A args.length c).toArray] w (ExprAns (.mk op at_ name field n ty ref args) w) :=
  expr_any (.mk op at_ name field n ty ref args) op at_ name field n ty ref A c args fp S w rfl hf hsl hlow
set_option maxRecDepth 100000 in
set_option maxHeartbeats 1000000 in
theorem fold_any (op at_ : Int) (name field : ByteArray) (n ty ref : Int) (A : Option Nat) (c : Nat) (args : List Ex) (S : Nat → Prop) (w : World) (hsl : SlIn S w A args) (hlow : ∀ b, S b → b < w.heap.size) :
    Calls Try.prog 8 #[.agg (exL op at_ name field n ty ref A args.length c).toArray] w (ExprAns (.mk op at_ name field n ty ref args) w) := by
  have HM0 := Lib.hid (Pre.start w (exL op at_ name field n ty ref A args.length c) zeroL A args S rfl hsl hlow)
  clear hsl hlow
  go_enter Try.func8, Try.ntmps8
  go_wp2_with fail
  refine wp_region_noPanic ?_
  refine wp_region_held_drew (S := (fun W => CellsAt W w.heap.size 0 (exL op at_ name field n ty ref A args.length c))) (by kernel_rfl) (by first | exact HM0.out.cells | exact HM0.out.drew.cells) (fun hHeld => ?_)
  refine' take_ 1 rfl (by kernel_rfl) (by kernel_rfl) (by kernel_rfl) (fun _ _ _ h => h) (by rfl) (fun wS hSw => run_load_at wS 27 _ w.heap.size 0 rfl _ _ hSw Try.underlying27 rfl (by kernel_rfl) _ _ _ _ _) hHeld ?_
  try simp only [Act.put, List.setIfInBounds_toArray, List.set_cons_zero, List.set_cons_succ]
  refine only_ 0 rfl (by kernel_rfl) (by rfl) (fun K hK => ?_)
  go_simp
  refine (newFolder_some _).mono ?_
  rintro e w1 ⟨fp, rfl, hfo, hb1⟩
  have HM1 := Lib.hid (HM0.out.drew.under hb1)
  have HFO := Lib.hid hfo
  clear hfo
  go_simp
  refine hK.out _ _ (HM1.out.cells) (fun hHeld2 => ?_)
  clear hK K hHeld
  have hHeld := hHeld2
  clear hHeld2
  try simp only [Act.put, List.setIfInBounds_toArray, List.set_cons_zero, List.set_cons_succ]
  refine only_ 2 rfl (by kernel_rfl) (by rfl) (fun K hK => ?_)
  go_simp
  refine (expr_call op at_ name field n ty ref A c args fp S _ HFO.out HM1.out.sl HM1.out.lt).mono ?_
  rintro e w2 hans
  have HM2 := Lib.hid (HM1.out.under (Pre.of hans))
  obtain ⟨op2, at2, name2, field2, n2, ty2, ref2, A2, c2, args2, S2, rfl, hfx, hsl2, hS2, hb2⟩ := hans
  go_simp
  refine hK.out _ _ (HM2.out.cells) (fun hHeld2 => ?_)
  clear hK K hHeld
  have hHeld := hHeld2
  clear hHeld2
  try simp only [Act.put, List.setIfInBounds_toArray, List.set_cons_zero, List.set_cons_succ]
  refine only_ 3 rfl (by kernel_rfl) (by rfl) (fun K hK => ?_)
  refine wp_store_row rfl 27 _ _ rfl (w.heap.size + 1) 0 rfl (exL op2 at2 name2 field2 n2 ty2 ref2 A2 args2.length c2) rfl (by kernel_rfl) zeroL (exL op2 at2 name2 field2 n2 ty2 ref2 A2 args2.length c2) 27 HM2.out.res (by show 0 + 8 ≤ 8; omega) (exL_one _ _ _ _ _ _ _ _ _ _) rfl ?_
  refine hK.out _ _ HM2.out.cells2 (fun hHeld2 => ?_)
  clear hK K hHeld hHeld2
  try simp only [Act.put]
  refine wpAnyH_done (by kernel_rfl) ?_ _
  refine NoPanic.normal ?_
  have HR := Lib.hid (setRow_heap _ _ _ (exL op2 at2 name2 field2 n2 ty2 ref2 A2 args2.length c2).toArray _ _ HM2.out.res)
  have HF : Hid (ExprAns (.mk op at_ name field n ty ref args) w (.returned (.agg (exL op2 at2 name2 field2 n2 ty2 ref2 A2 args2.length c2).toArray)) (w2.setRow (w.heap.size + 1) (exL op2 at2 name2 field2 n2 ty2 ref2 A2 args2.length c2).toArray)) := by
    have hz := HM1.out.size
    refine ⟨op2, at2, name2, field2, n2, ty2, ref2, A2, c2, args2, S2, rfl, hfx, hsl2.keep (fun _ h => h) (fun b hb j v hv => ?_), fun b hb => by rw [setRow_size]; have := hS2 b hb; omega, setRow_below HM2.out.below (by omega) _⟩
    rw [World.cell?_of_block (setRow_other w2 (w.heap.size + 1) b _ (by have := hS2 b hb; omega))]
    exact hv
  generalize w2.setRow (w.heap.size + 1) (exL op2 at2 name2 field2 n2 ty2 ref2 A2 args2.length c2).toArray = WF at *
  have q0 := row_at HR.out 0 _ rfl
  have q1 := row_at HR.out 1 _ rfl
  have q2 := row_at HR.out 2 _ rfl
  have q3 := row_at HR.out 3 _ rfl
  have q4 := row_at HR.out 4 _ rfl
  have q5 := row_at HR.out 5 _ rfl
  have q6 := row_at HR.out 6 _ rfl
  have q7 := row_at HR.out 7 _ rfl
  clear hfx hsl2 hS2 hb2
  go_wp2
  exact bodyPost_ret (v := .agg (exL op2 at2 name2 field2 n2 ty2 ref2 A2 args2.length c2).toArray) (by simp [results, Try.results8, go_sem, q0, q1, q2, q3, q4, q5, q6, q7]) rfl HF.out
end Go.Proofs.Ythmphmndpfkbcaa
