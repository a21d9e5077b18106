/-
  The document's Eval by its contract: any tree that is made. Made by wip/genfoldeval.py.
-/
import Derived.Test.YthmphmndpfkbcaaEvalF
import Derived.Test.YthmphmndpfkbcaaAt
namespace Go.Proofs.Ythmphmndpfkbcaa
open Go.RowKit
set_option linter.unusedVariables false
/-- What lies in memory while Eval runs: the variables, the expression, both values. -/
structure EvW (w : World) (lv wv : Value) (cs : List Value) (a0 a1 : Int) (W : World) : Prop where
  seen : W.heap[w.heap.size]? = some (.cells [lv, wv].toArray 31 (0, 0))
  box : W.heap[w.heap.size + 1]? = some (.cells cs.toArray 27 (0, 0))
  arr : W.heap[w.heap.size + 2]? = some (.cells [.int .i32 a0, .int .i32 a1].toArray 61 (0, 0))
  below : Below w.heap.size w W
  size : w.heap.size + 3 ≤ W.heap.size
theorem EvW.start (w : World) (lv wv : Value) (cs : List Value) : EvW w lv wv cs 0 0 (((w.alloc (.cells [lv, wv].toArray 31)).alloc (.cells cs.toArray 27)).alloc (.cells [.int .i32 0, .int .i32 0].toArray 61)) := by
  have hs1 : (w.alloc (.cells [lv, wv].toArray 31)).heap.size = w.heap.size + 1 := by simp
  have hs2 : ((w.alloc (.cells [lv, wv].toArray 31)).alloc (.cells cs.toArray 27)).heap.size = w.heap.size + 2 := by simp
  have h1 := alloc_at w (.cells [lv, wv].toArray 31)
  have h2 := alloc_at (w.alloc (.cells [lv, wv].toArray 31)) (.cells cs.toArray 27)
  have h3 := alloc_at ((w.alloc (.cells [lv, wv].toArray 31)).alloc (.cells cs.toArray 27)) (.cells [.int .i32 0, .int .i32 0].toArray 61)
  rw [hs1] at h2
  rw [hs2] at h3
  refine ⟨?_, ?_, h3, (((Below.refl _ _).alloc (Nat.le_refl _) _).alloc (by omega) _).alloc (by omega) _, by simp⟩
  · rw [Below.heap_alloc _ _ _ (by omega), Below.heap_alloc _ _ _ (by omega)]
    exact h1
  · rw [Below.heap_alloc _ _ _ (by omega)]
    exact h2
theorem EvW.under {w : World} {lv wv : Value} {cs : List Value} {a0 a1 : Int} {W W' : World} (h : EvW w lv wv cs a0 a1 W) (hb : Below W.heap.size W W') : EvW w lv wv cs a0 a1 W' := by
  have hs := hb.size
  have hz := h.size
  refine ⟨?_, ?_, ?_, h.below.trans (hb.mono (by omega)), by omega⟩
  · rw [hb.block _ (by omega)]
    exact h.seen
  · rw [hb.block _ (by omega)]
    exact h.box
  · rw [hb.block _ (by omega)]
    exact h.arr
theorem EvW.put {w : World} {lv wv : Value} {cs : List Value} {a0 a1 : Int} {W : World} (b0 b1 : Int) (h : EvW w lv wv cs a0 a1 W) : EvW w lv wv cs b0 b1 (W.setRow (w.heap.size + 2) [.int .i32 b0, .int .i32 b1].toArray) := by
  refine ⟨?_, ?_, setRow_heap _ _ _ _ _ _ h.arr, setRow_below h.below (by omega) _, by rw [setRow_size]; exact h.size⟩
  · rw [setRow_other _ _ _ _ (by omega)]
    exact h.seen
  · rw [setRow_other _ _ _ _ (by omega)]
    exact h.box
theorem row_setCell {w : World} {b i : Nat} {l : List Value} {u : Value} {t : TypeId} (h : w.heap[b]? = some (.cells l.toArray t (0, 0))) : (w.setCell ⟨b, i, none⟩ u).heap[b]? = some (.cells (l.set i u).toArray t (0, 0)) := by
  have hlt := (Array.getElem?_eq_some_iff.1 h).1
  have h' : w.heap[b] = .cells l.toArray t (0, 0) := by simpa [Array.getElem?_eq_getElem hlt] using h
  show (w.heap.modify b _)[b]? = _
  rw [Array.getElem?_eq_getElem (by simpa using hlt), Array.getElem_modify_self, h']
  simp
theorem row_free {w : World} {b i : Nat} {l : List Value} {t : TypeId} (h : w.heap[b]? = some (.cells l.toArray t (0, 0))) : w.frozen? ⟨b, i, none⟩ = false := by simp [World.frozen?, h]
theorem EvW.put0 {w : World} {lv wv : Value} {cs : List Value} {a0 a1 : Int} {W : World} (v : Int) (h : EvW w lv wv cs a0 a1 W) : EvW w lv wv cs v a1 (W.setCell ⟨w.heap.size + 2, 0, none⟩ (.int .i32 v)) :=
  ⟨by rw [Below.heap_setCell _ _ _ _ (by show w.heap.size ≠ w.heap.size + 2; omega)]; exact h.seen, by rw [Below.heap_setCell _ _ _ _ (by show w.heap.size + 1 ≠ w.heap.size + 2; omega)]; exact h.box, row_setCell h.arr, h.below.setCell (by show w.heap.size ≤ w.heap.size + 2; omega) _, by simpa [World.setCell] using h.size⟩
theorem EvW.put1 {w : World} {lv wv : Value} {cs : List Value} {a0 a1 : Int} {W : World} (v : Int) (h : EvW w lv wv cs a0 a1 W) : EvW w lv wv cs a0 v (W.setCell ⟨w.heap.size + 2, 1, none⟩ (.int .i32 v)) :=
  ⟨by rw [Below.heap_setCell _ _ _ _ (by show w.heap.size ≠ w.heap.size + 2; omega)]; exact h.seen, by rw [Below.heap_setCell _ _ _ _ (by show w.heap.size + 1 ≠ w.heap.size + 2; omega)]; exact h.box, row_setCell h.arr, h.below.setCell (by show w.heap.size ≤ w.heap.size + 2; omega) _, by simpa [World.setCell] using h.size⟩
/-- The first k operands have these values. -/
def ValsK (L Wd : Int → Int) (args : List Ex) (k : Nat) (a0 a1 : Int) : Prop := (∀ x, args[0]? = some x → 0 < k → evalT L Wd x = (a0, 0)) ∧ (∀ x, args[1]? = some x → 1 < k → evalT L Wd x = (a1, 0)) ∧ (k = 0 → a0 = 0) ∧ (k ≤ 1 → a1 = 0) ∧ (-2147483648 ≤ a0 ∧ a0 ≤ 2147483647) ∧ (-2147483648 ≤ a1 ∧ a1 ≤ 2147483647)
theorem ok_two {op n ty ref : Int} {args : List Ex} (h : okTop op n ty ref args) : args.length ≤ 2 := by
  match args, h with
  | [], _ => simp
  | [x], _ => simp
  | [x, y], _ => simp
theorem vals_all (L Wd : Int → Int) (op at_ : Int) (name field : ByteArray) (n ty ref : Int) (args : List Ex) (a0 a1 : Int) (hok : okTop op n ty ref args) (h : ValsK L Wd args args.length a0 a1) :
    evalT L Wd (.mk op at_ name field n ty ref args) = topE L Wd op n ty ref (ty0 args) a0 a1 := by
  obtain ⟨h0, h1, z0, z1, _, _⟩ := h
  rw [evalT]
  match args, hok with
  | [], _ =>
    rw [z0 rfl, z1 (by simp)]
    simp [evalL]
  | [x], _ =>
    rw [z1 (by simp)]
    simp [evalL, h0 x rfl (by simp)]
  | [x, y], _ => simp [evalL, h0 x rfl (by simp), h1 y rfl (by simp)]
theorem vals_trap (L Wd : Int → Int) (op at_ : Int) (name field : ByteArray) (n ty ref : Int) (args : List Ex) (a0 a1 v o : Int) (k : Nat) (x : Ex) (hx : args[k]? = some x) (hk2 : k < 2) (hv : evalT L Wd x = (v, o)) (ho : o ≠ 0) (h : ValsK L Wd args k a0 a1) :
    evalT L Wd (.mk op at_ name field n ty ref args) = (0, o) := by
  obtain ⟨h0, h1, z0, z1, _, _⟩ := h
  have he : (evalL L Wd args).2 = o := by
    rcases (by omega : k = 0 ∨ k = 1) with rfl | rfl
    · match args, hx with
      | y :: l, hx =>
        obtain rfl : y = x := by simpa using hx
        rw [evalL, hv]
        simp [ho]
    · match args, hx with
      | y :: z :: l, hx =>
        obtain rfl : z = x := by simpa using hx
        rw [evalL, h0 y rfl (by omega), evalL, hv]
        simp [ho]
  rw [evalT, he, if_neg ho]
theorem vals_next (L Wd : Int → Int) (args : List Ex) (a0 a1 v : Int) (k : Nat) (x : Ex) (hx : args[k]? = some x) (hk2 : k < 2) (hv : evalT L Wd x = (v, 0)) (hbd : -2147483648 ≤ v ∧ v ≤ 2147483647) (h : ValsK L Wd args k a0 a1) :
    ValsK L Wd args (k + 1) (if k = 0 then v else a0) (if k = 0 then a1 else v) := by
  obtain ⟨h0, h1, z0, z1, d0, d1⟩ := h
  rcases (by omega : k = 0 ∨ k = 1) with rfl | rfl
  · exact ⟨fun y hy _ => Option.some.inj (hx.symm.trans hy) ▸ hv, fun y _ h => by omega, fun h => by omega, fun _ => z1 (by omega), hbd, d1⟩
  · exact ⟨fun y hy _ => h0 y hy (by omega), fun y hy _ => Option.some.inj (hx.symm.trans hy) ▸ hv, fun h => by omega, fun h => by omega, d0, hbd⟩
def EvalAns (L Wd : Int → Int) (x : Ex) (e : Ending) : Prop := ∃ v o : Int, evalT L Wd x = (v, o) ∧ e = .returned (.tuple #[.int .i32 v, .int .i64 o])
def EvalOK (x : Ex) : Prop := ∀ (op at_ : Int) (name field : ByteArray) (n ty ref : Int) (A : Option Nat) (c : Nat) (args : List Ex) (S : Nat → Prop) (lv wv : Value) (ls ws : List Int) (w : World), x = .mk op at_ name field n ty ref args → okT x → SlIn S w A args → (∀ b, S b → b < w.heap.size) → Ints w lv ls → Ints w wv ws → lv.oneCell' = true → wv.oneCell' = true →
  Calls Try.prog 9 #[.agg [lv, wv].toArray, .agg (exL op at_ name field n ty ref A args.length c).toArray] w fun e w' => EvalAns (atV ls) (atV ws) x e ∧ Below w.heap.size w w'
set_option maxRecDepth 100000 in
set_option maxHeartbeats 4000000 in
theorem eval_tree : ∀ x, EvalOK x := by
  refine Ex.ind fun op at_ name field n ty ref args IH => ?_
  rintro _ _ _ _ _ _ _ A c _ S lv wv ls ws w h hok hsl hlow hls hws one1 one2
  injection h with e1 e2 e3 e4 e5 e6 e7 e8
  subst e1 e2 e3 e4 e5 e6 e7 e8
  rw [okT] at hok
  obtain ⟨hr, hn, hok, hokl⟩ := hok
  rw [okL_iff] at hokl
  have HOKL := Lib.hid hokl
  have HOK := Lib.hid hok
  have hlen2 := ok_two hok
  have HLS := Lib.hid hls
  have HWS := Lib.hid hws
  have HSL := Lib.hid hsl
  have HLOW := Lib.hid hlow
  have HIH := Lib.hid IH
  clear hok hokl hls hws hsl hlow IH
  go_enter Try.func9, Try.ntmps9
  go_wp2
  go_loopw [7] (fun iv wr => ∃ (k : Nat) (a0 a1 : Int), k ≤ args.length ∧ iv = .int .i64 k ∧ Hid (ValsK (atV ls) (atV ws) args k a0 a1) ∧ EvW w lv wv (exL op at_ name field n ty ref A args.length c) a0 a1 wr) (fun iv _ => args.length - (intOf iv).toNat)
  case atStart => exact ⟨0, 0, 0, by omega, rfl, ⟨fun _ _ h => by omega, fun _ _ h => by omega, fun _ => rfl, fun _ => rfl, by omega, by omega⟩, EvW.start _ _ _ _⟩
  case round =>
    obtain ⟨k, a0, a1, hk, rfl, HV, hev⟩ := hrel
    have HE := Lib.hid hev
    have hz := hev.size
    clear hev
    by_cases hlt : k < args.length
    · obtain ⟨b, rfl⟩ := HSL.out.blk hlt
      have hk2 : k < 2 := by omega
      obtain ⟨x, hx⟩ : ∃ x, args[k]? = some x := ⟨_, List.getElem?_eq_getElem hlt⟩
      obtain ⟨hSb, op1, at1, name1, field1, n1, ty1, ref1, A1, c1, l1, hx1, hs1, hc1⟩ := HSL.out.at k x hx
      have hbb := HLOW.out b hSb
      have HS : Hid (∀ W, Below wr.heap.size wr W → CellsAt W w.heap.size 0 [lv, wv] ∧ W.cell? ⟨w.heap.size + 1, 7, none⟩ = some (.slice (some ⟨b, 0, none⟩) args.length c) ∧ CellsAt W b (k * 8) (exL op1 at1 name1 field1 n1 ty1 ref1 A1 l1.length c1)) := fun W hW =>
        ⟨row_cells (HE.out.under hW).seen, row_at (HE.out.under hW).box 7 _ rfl, (hc1.below HE.out.below hbb).below hW (by omega)⟩
      have HI : Hid (∀ W, Below wr.heap.size wr W → Calls Try.prog 9 #[.agg [lv, wv].toArray, .agg (exL op1 at1 name1 field1 n1 ty1 ref1 A1 l1.length c1).toArray] W fun e w' => EvalAns (atV ls) (atV ws) x e ∧ Below W.heap.size W w') := fun W hW => by
        have hW2 := HE.out.below.trans (hW.mono (show w.heap.size ≤ wr.heap.size by omega))
        exact HIH.out x (List.mem_of_getElem? hx) op1 at1 name1 field1 n1 ty1 ref1 A1 c1 l1 S lv wv ls ws W hx1 (HOKL.out x (List.mem_of_getElem? hx)) (hs1.under hW2 HLOW.out) (fun b hb => by have := HLOW.out b hb; have := hW2.size; omega) (HLS.out.under hW2) (HWS.out.under hW2) one1 one2
      have HX := Lib.hid hx
      have c7 : wr.cell? ⟨w.heap.size + 1, 7, none⟩ = some (.slice (some ⟨b, 0, none⟩) args.length c) := row_at HE.out.box 7 _ rfl
      clear hc1 hx hx1 hs1
      go_wp2
      refine wp_region_noPanic ?_
      refine wp_region_held_drew (S := (fun W => CellsAt W w.heap.size 0 [lv, wv] ∧ W.cell? ⟨w.heap.size + 1, 7, none⟩ = some (.slice (some ⟨b, 0, none⟩) args.length c) ∧ CellsAt W b (k * 8) (exL op1 at1 name1 field1 n1 ty1 ref1 A1 l1.length c1))) (by kernel_rfl) (HS.out _ (by repeat (first | exact Below.refl _ _ | refine Below.drew ?_))) (fun hHeld => ?_)
      refine' take_ 0 rfl (by kernel_rfl) (by kernel_rfl) (by kernel_rfl) (fun _ _ _ h => h) (by rfl) (fun wS hSw => run_load_at wS 31 _ w.heap.size 0 rfl _ _ hSw.1 Try.underlying31 rfl (by kernel_rfl) _ _ _ _ _) hHeld ?_
      try simp only [Act.put, List.setIfInBounds_toArray, List.set_cons_zero, List.set_cons_succ]
      refine' take_ 1 rfl (by kernel_rfl) (by kernel_rfl) (by kernel_rfl) (fun _ _ _ h => h) (by rfl) (fun wS hSw => ?_) hHeld ?_
      rotate_left
      focus (obtain ⟨_, k7, _⟩ := hSw; go_simp; (try with_reducible rfl); done)
      try simp only [Act.put, List.setIfInBounds_toArray, List.set_cons_zero, List.set_cons_succ]
      refine' take_ 2 rfl (by kernel_rfl) (by kernel_rfl) (by kernel_rfl) (fun _ _ _ h => h) (by rfl) (fun wS hSw => ?_) hHeld ?_
      rotate_left
      focus (obtain ⟨_, k7, _⟩ := hSw; go_simp; (try with_reducible rfl); done)
      try simp only [Act.put, List.setIfInBounds_toArray, List.set_cons_zero, List.set_cons_succ]
      refine' take_ 3 rfl (by kernel_rfl) (by kernel_rfl) (by kernel_rfl) (fun _ _ _ h => h) (by rfl) (fun wS hSw => ?_) hHeld ?_
      rotate_left
      focus (obtain ⟨_, k7, _⟩ := hSw; go_simp; (try with_reducible rfl); done)
      try simp only [Act.put, List.setIfInBounds_toArray, List.set_cons_zero, List.set_cons_succ]
      refine' take_ 4 rfl (by kernel_rfl) (by kernel_rfl) (by kernel_rfl) (fun _ _ _ h => h) (by rfl) (fun wS hSw => ?_) hHeld ?_
      rotate_left
      focus (obtain ⟨_, k7, _⟩ := hSw; go_simp; (try with_reducible rfl); done)
      try simp only [Act.put, List.setIfInBounds_toArray, List.set_cons_zero, List.set_cons_succ]
      refine' take_ 5 rfl (by kernel_rfl) (by kernel_rfl) (by kernel_rfl) (fun _ _ _ h => h) (by rfl) (fun wS hSw => run_load_at wS 27 _ b (k * 8) rfl _ _ hSw.2.2 Try.underlying27 rfl (by kernel_rfl) _ _ _ _ _) hHeld ?_
      try simp only [Act.put, List.setIfInBounds_toArray, List.set_cons_zero, List.set_cons_succ]
      refine only_ 6 rfl (by kernel_rfl) (by rfl) (fun K hK => ?_)
      go_simp
      refine (HI.out _ (by repeat (first | exact Below.refl _ _ | refine Below.drew ?_))).mono ?_
      rintro e w1 ⟨⟨v, o, hvo, rfl⟩, hb1⟩
      have HVO := Lib.hid hvo
      have HB1 : Hid (Below wr.heap.size wr w1) := Below.trans (by repeat (first | exact Below.refl _ _ | refine Below.drew ?_)) (hb1.mono (Nat.le_refl _))
      have HE1 := Lib.hid (HE.out.under HB1.out)
      have hbd := evalT_bd (atV ls) (atV ws) (atV_bd HLS.out.2.1) (atV_bd HWS.out.2.1) x
      rw [hvo] at hbd
      obtain ⟨bd1, bd2⟩ := hbd
      clear hvo hb1
      go_simp
      refine hK.out _ _ (HS.out _ HB1.out) (fun hHeld2 => ?_)
      clear hK K hHeld
      have hHeld := hHeld2
      clear hHeld2
      try simp only [Act.put, List.setIfInBounds_toArray, List.set_cons_zero, List.set_cons_succ]
      refine' take_ 7 rfl (by kernel_rfl) (by kernel_rfl) (by kernel_rfl) (fun _ _ _ h => h) (by rfl) (fun wS hSw => ?_) hHeld ?_
      rotate_left
      focus (obtain ⟨_, k7, _⟩ := hSw; go_simp; (try with_reducible rfl); done)
      try simp only [Act.put, List.setIfInBounds_toArray, List.set_cons_zero, List.set_cons_succ]
      refine' take_ 8 rfl (by kernel_rfl) (by kernel_rfl) (by kernel_rfl) (fun _ _ _ h => h) (by rfl) (fun wS hSw => ?_) hHeld ?_
      rotate_left
      focus (obtain ⟨_, k7, _⟩ := hSw; go_simp; (try with_reducible rfl); done)
      try simp only [Act.put, List.setIfInBounds_toArray, List.set_cons_zero, List.set_cons_succ]
      refine' take_ 9 rfl (by kernel_rfl) (by kernel_rfl) (by kernel_rfl) (fun _ _ _ h => h) (by rfl) (fun wS hSw => ?_) hHeld ?_
      rotate_left
      focus (obtain ⟨_, k7, _⟩ := hSw; go_simp; (try with_reducible rfl); done)
      try simp only [Act.put, List.setIfInBounds_toArray, List.set_cons_zero, List.set_cons_succ]
      refine' take_ 10 rfl (by kernel_rfl) (by kernel_rfl) (by kernel_rfl) (fun _ _ _ h => h) (by rfl) (fun wS hSw => ?_) hHeld ?_
      rotate_left
      focus (obtain ⟨_, k7, _⟩ := hSw; go_simp; (try with_reducible rfl); done)
      try simp only [Act.put, List.setIfInBounds_toArray, List.set_cons_zero, List.set_cons_succ]
      refine' take_ 11 rfl (by kernel_rfl) (by kernel_rfl) (by kernel_rfl) (fun _ _ _ h => h) (by rfl) (fun wS hSw => ?_) hHeld ?_
      rotate_left
      focus (obtain ⟨_, k7, _⟩ := hSw; go_simp; (try with_reducible rfl); done)
      try simp only [Act.put, List.setIfInBounds_toArray, List.set_cons_zero, List.set_cons_succ]
      refine wpAnyH_done (by kernel_rfl) ?_ _
      refine NoPanic.normal ?_
      cases ho : (o != 0)
      · have ho2 : o = 0 := by simpa using ho
        subst ho2
        have HN := Lib.hid (vals_next _ _ args a0 a1 v k x HX.out hk2 HVO.out ⟨bd1, bd2⟩ HV.out)
        rcases (by omega : k = 0 ∨ k = 1) with rfl | rfl
        · have r0 : w1.cell? ⟨w.heap.size + 1 + 1, 0, none⟩ = some (.int .i32 a0) := row_at HE1.out.arr 0 _ rfl
          have r1 : w1.frozen? ⟨w.heap.size + 1 + 1, 0, none⟩ = false := row_free HE1.out.arr
          go_wp2
          go_roundw
          case rel => exact ⟨1, v, a1, by omega, by go_num, HN.out, HE1.out.put0 v⟩
          case measure =>
            simp [intOf]
            omega
        · have r0 : w1.cell? ⟨w.heap.size + 1 + 1, 1, none⟩ = some (.int .i32 a1) := row_at HE1.out.arr 1 _ rfl
          have r1 : w1.frozen? ⟨w.heap.size + 1 + 1, 1, none⟩ = false := row_free HE1.out.arr
          go_wp2
          go_roundw
          case rel => exact ⟨2, a0, v, by omega, by go_num, HN.out, HE1.out.put1 v⟩
          case measure =>
            simp [intOf]
            omega
      · have ho2 : o ≠ 0 := by simpa using ho
        have HT := Lib.hid (vals_trap (atV ls) (atV ws) op at_ name field n ty ref args a0 a1 v o k x HX.out hk2 HVO.out ho2 HV.out)
        clear HV HVO
        go_wp2
        go_ret2
        exact ⟨⟨0, o, HT.out, rfl⟩, HE1.out.below⟩
    · obtain rfl : k = args.length := by omega
      have HT := Lib.hid (vals_all (atV ls) (atV ws) op at_ name field n ty ref args a0 a1 HOK.out HV.out)
      obtain ⟨⟨d00, d01⟩, d10, d11⟩ := HV.out.2.2.2.2
      have q0 := row_at HE.out.box 0 _ rfl
      have q4 := row_at HE.out.box 4 _ rfl
      have q5 := row_at HE.out.box 5 _ rfl
      have q6 := row_at HE.out.box 6 _ rfl
      have q7 := row_at HE.out.box 7 _ rfl
      have s0 := row_at HE.out.seen 0 _ rfl
      have s1 := row_at HE.out.seen 1 _ rfl
      have r0 : wr.cell? ⟨w.heap.size + 1 + 1, 0, none⟩ = some (.int .i32 a0) := row_at HE.out.arr 0 _ rfl
      have r1 : wr.cell? ⟨w.heap.size + 1 + 1, 1, none⟩ = some (.int .i32 a1) := row_at HE.out.arr 1 _ rfl
      have HAT : Hid (∀ i : Int, Calls Try.prog 23 #[lv, .int .i64 i] wr fun e w' => e = .returned (.int .i32 (atV ls i)) ∧ w' = wr) := fun i => at_any lv ls i wr (HLS.out.under HE.out.below)
      have HAW : Hid (∀ i : Int, Calls Try.prog 23 #[wv, .int .i64 i] wr fun e w' => e = .returned (.int .i32 (atV ws i)) ∧ w' = wr) := fun i => at_any wv ws i wr (HWS.out.under HE.out.below)
      obtain ⟨hr1, hr2⟩ := hr
      obtain ⟨hn1, hn2⟩ := hn
      obtain rfl | ⟨x, rfl⟩ | ⟨x, y, rfl⟩ : args = [] ∨ (∃ x, args = [x]) ∨ ∃ x y, args = [x, y] := by
        rcases args with _ | ⟨x, _ | ⟨y, _ | ⟨z, l⟩⟩⟩
        · exact .inl rfl
        · exact .inr (.inl ⟨_, rfl⟩)
        · exact .inr (.inr ⟨_, _, rfl⟩)
        · simp at hlen2
      · rcases HOK.out with rfl | rfl | rfl
        · go_wp2_with (go_at_call 22; refine (refWrap_any _ _ _ hn1 hn2).mono ?_; rintro e w' ⟨rfl, rfl⟩)
          go_ret2
          exact ⟨⟨_, _, HT.out, rfl⟩, HE.out.below⟩
        · go_wp2_with (go_at_call 23; refine (HAT.out _).mono ?_; rintro e w' ⟨rfl, rfl⟩)
          go_ret2
          exact ⟨⟨_, _, HT.out, rfl⟩, HE.out.below⟩
        · go_wp2_with (go_at_call 23; refine (HAW.out _).mono ?_; rintro e w' ⟨rfl, rfl⟩)
          go_ret2
          exact ⟨⟨_, _, HT.out, rfl⟩, HE.out.below⟩
      · rcases HOK.out with rfl | ⟨h4, h8, _⟩
        · have ht : topE (atV ls) (atV ws) 28 n ty ref (ty0 [x]) a0 a1 = if a0 < 0 ∨ n ≤ a0 then (0, 3) else (atV ws (ref + a0), 0) := by simp [topE]
          by_cases g1 : a0 < 0
          · have g2 : decide (a0 < 0) = true := decide_eq_true g1
            rw [if_pos (.inl g1)] at ht
            have HTT := Lib.hid (HT.out.trans ht)
            clear ht
            go_wp2
            go_ret2
            exact ⟨⟨_, _, HTT.out, rfl⟩, HE.out.below⟩
          · by_cases g3 : n ≤ a0
            · rw [if_pos (.inr g3)] at ht
              have HTT := Lib.hid (HT.out.trans ht)
              clear ht
              go_wp2
              go_ret2
              exact ⟨⟨_, _, HTT.out, rfl⟩, HE.out.below⟩
            · rw [if_neg (by omega)] at ht
              have HTT := Lib.hid (HT.out.trans ht)
              clear ht
              go_wp2_with (go_at_call 23; refine (HAW.out _).mono ?_; rintro e w' ⟨rfl, rfl⟩)
              go_ret2
              exact ⟨⟨_, _, HTT.out, rfl⟩, HE.out.below⟩
        · have ht : topE (atV ls) (atV ws) op n ty ref (ty0 [x]) a0 a1 = (unV op ty a0, 0) := by
            unfold topE
            rw [if_neg (by omega), if_neg (by omega), if_neg (by omega), if_neg (by omega), if_pos h8]
          have HTT := Lib.hid (HT.out.trans ht)
          clear ht
          have o0 : (op == 0) = false := by simp; omega
          have o1 : (op == 26) = false := by simp; omega
          have o2 : (op == 27) = false := by simp; omega
          have o3 : (op == 28) = false := by simp; omega
          go_wp2_with (go_at_call 24; refine (refUn_any op ty a0 _ h4 h8 d00 d01).mono ?_; rintro e w' ⟨rfl, rfl⟩)
          go_ret2
          exact ⟨⟨_, _, HTT.out, rfl⟩, HE.out.below⟩
      · obtain ⟨h9, h24, _⟩ := HOK.out
        obtain ⟨b, rfl⟩ := HSL.out.blk (k := 0) (by simp)
        have c7 : wr.cell? ⟨w.heap.size + 1, 7, none⟩ = some (.slice (some ⟨b, 0, none⟩) 2 c) := row_at HE.out.box 7 _ rfl
        clear q7
        obtain ⟨hSb, op1, at1, name1, field1, n1, ty1, ref1, A1, c1, l1, hx1, hs1, hc1⟩ := HSL.out.at 0 x rfl
        have k5 : wr.cell? ⟨b, 5, none⟩ = some (.int .i64 ty1) := (hc1.below HE.out.below (HLOW.out b hSb)) 5 _ rfl
        have hty : ty0 [x, y] = ty1 := by rw [hx1]; rfl
        rw [hty] at HT
        clear hc1 hs1 hx1 hty
        have o0 : (op == 0) = false := by simp; omega
        have o1 : (op == 26) = false := by simp; omega
        have o2 : (op == 27) = false := by simp; omega
        have o3 : (op == 28) = false := by simp; omega
        have ht : topE (atV ls) (atV ws) op n ty ref ty1 a0 a1 = if (op = 10 ∨ op = 11) ∧ a1 = 0 then (0, 2) else (binV op ty1 a0 a1, 0) := by
          unfold topE
          rw [if_neg (by omega), if_neg (by omega), if_neg (by omega), if_neg (by omega), if_neg (by omega)]
        by_cases hz0 : (op = 10 ∨ op = 11) ∧ a1 = 0
        · rw [if_pos hz0] at ht
          have HTT := Lib.hid (HT.out.trans ht)
          have HB := Lib.hid (refBin_no op ty1 a0 a1 · hz0)
          clear ht hz0 HT
          go_wp2
          go_quiet ((go_at_call 25; exact (HB.out _).mono fun e w' h => ⟨h.1, ((Drawn.refl _).more _).trans h.2⟩))
          go_wp2
          go_ret2
          exact ⟨⟨_, _, HTT.out, rfl⟩, by first | exact HE.out.below | exact Below.drewN' HE.out.below _⟩
        · rw [if_neg hz0] at ht
          have HTT := Lib.hid (HT.out.trans ht)
          have HB := Lib.hid (refBin_yes op ty1 a0 a1 · h9 h24 hz0 d00 d01 d10 d11)
          clear ht hz0 HT
          go_wp2
          go_quiet ((go_at_call 25; exact (HB.out _).mono fun e w' h => ⟨h.1, ((Drawn.refl _).more _).trans h.2⟩))
          go_wp2
          go_ret2
          exact ⟨⟨_, _, HTT.out, rfl⟩, by first | exact HE.out.below | exact Below.drewN' HE.out.below _⟩
end Go.Proofs.Ythmphmndpfkbcaa
