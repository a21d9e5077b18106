/-
  The folder's statement by its contract, by induction on the tree. Made by wip/genststmt.py.
-/
import Derived.Test.YthmphmndpfkbcaaStEach
namespace Go.Proofs.Ythmphmndpfkbcaa
open Go.RowKit
abbrev zeroS : List Value := [.int .i64 0, .int .i64 0, .int .i64 0, .string ⟨#[]⟩, .string ⟨#[]⟩, .string ⟨#[]⟩, .int .i64 0, .int .i64 0, .int .i64 0, .slice none 0 0, .slice none 0 0, .slice none 0 0]
/-- The box and the result's cells of statement. -/
structure MidS (w : World) (cs : List Value) (W : World) : Prop where
  box : W.heap[w.heap.size]? = some (.cells cs.toArray 53 (0, 0))
  res : W.heap[w.heap.size + 1]? = some (.cells zeroS.toArray 53 (0, 0))
  below : Below w.heap.size w W
  size : w.heap.size + 2 ≤ W.heap.size
theorem MidS.under {w : World} {cs : List Value} {W W' : World} (h : MidS w cs W) (hb : Below W.heap.size W W') : MidS w cs W' := by
  have hs := hb.size
  have hz := h.size
  refine ⟨?_, ?_, h.below.trans (hb.mono (by omega)), by omega⟩
  · rw [hb.block _ (by omega)]
    exact h.box
  · rw [hb.block _ (by omega)]
    exact h.res
theorem MidS.drew {w : World} {cs : List Value} {W : World} (h : MidS w cs W) : MidS w cs W.drew := h.under (Below.refl _ _).drew
theorem MidS.put {w : World} {cs cs' : List Value} {W : World} (h : MidS w cs W) : MidS w cs' (W.setRow w.heap.size cs'.toArray) := by
  refine ⟨setRow_heap _ _ _ _ _ _ h.box, ?_, setRow_below h.below (Nat.le_refl _) _, by rw [setRow_size]; exact h.size⟩
  rw [setRow_other _ _ _ _ (by omega)]
  exact h.res
theorem MidS.start (w : World) (l zs : List Value) (hz : zs = zeroS) : MidS w l ((w.alloc (.cells l.toArray 53)).alloc (.cells zs.toArray 53)) := by
  subst hz
  have hs1 : (w.alloc (.cells l.toArray 53)).heap.size = w.heap.size + 1 := by simp
  refine ⟨?_, ?_, ((Below.refl _ _).alloc (Nat.le_refl _) _).alloc (by omega) _, by simp⟩
  · rw [Below.heap_alloc _ _ _ (by omega)]
    exact alloc_at w _
  · have h2 := alloc_at (w.alloc (.cells l.toArray 53)) (.cells zeroS.toArray 53)
    rw [hs1] at h2
    exact h2
/-- What has been made lies behind the box and the result. -/
def New (w : World) (W : World) (S : Nat → Prop) : Prop := ∀ b, S b → w.heap.size + 2 ≤ b ∧ b < W.heap.size
theorem New.later {w W W' : World} {S : Nat → Prop} (h : New w W S) (hs : W.heap.size ≤ W'.heap.size) : New w W' S := fun b hb => by have := h b hb; omega
theorem SlIn.set {S : Nat → Prop} {W : World} {A : Option Nat} {l : List Ex} {g : Nat} {cs : Array Value} (h : SlIn S W A l) (hne : ∀ b, S b → b ≠ g) : SlIn S (W.setRow g cs) A l :=
  h.keep (fun _ h => h) fun b hb j v hv => by
    rw [World.cell?_of_block (setRow_other W g b _ (hne b hb))]
    exact hv
theorem SsIn.set {S : Nat → Prop} {W : World} {A : Option Nat} {l : List St} {g : Nat} {cs : Array Value} (h : SsIn S W A l) (hne : ∀ b, S b → b ≠ g) : SsIn S (W.setRow g cs) A l :=
  h.keep (fun _ h => h) fun b hb j v hv => by
    rw [World.cell?_of_block (setRow_other W g b _ (hne b hb))]
    exact hv
theorem foldS_mk (op at_ line : Int) (name field func : ByteArray) (reg ty end_ : Int) (e : List Ex) (body els : List St) : foldS (.mk op at_ line name field func reg ty end_ e body els) = .mk op at_ line name field func reg ty end_ (e.map foldT) (body.map foldS) (els.map foldS) := by
  rw [foldS, foldSL_eq, foldSL_eq]
theorem StAns.fin {x : St} {w W : World} {op at_ line : Int} {name field func : ByteArray} {reg ty end_ : Int} {A B C : Option Nat} {ca cb cc : Nat} {e : List Ex} {b c : List St} {Se Sb Sc : Nat → Prop} {f : Ex → Ex} {g : St → St} {cs : List Value} (hm : MidS w cs W) (h1 : SlIn Se W A (e.map f)) (h2 : SsIn Sb W B (b.map g)) (h3 : SsIn Sc W C (c.map g)) (n1 : New w W Se) (n2 : New w W Sb) (n3 : New w W Sc)
    (hx : foldS x = .mk op at_ line name field func reg ty end_ (e.map f) (b.map g) (c.map g)) :
    StAns x w (.returned (.agg (stL op at_ line name field func reg ty end_ A e.length ca B b.length cb C c.length cc).toArray)) (W.setRow (w.heap.size + 1) (stL op at_ line name field func reg ty end_ A e.length ca B b.length cb C c.length cc).toArray) := by
  have ne : ∀ {S : Nat → Prop}, New w W S → ∀ b, S b → b ≠ w.heap.size + 1 := fun hn b hb => (by have := hn b hb; omega)
  refine ⟨op, at_, line, name, field, func, reg, ty, end_, A, ca, B, cb, C, cc, e.map f, b.map g, c.map g, fun x => Se x ∨ (Sb x ∨ Sc x), by simp only [List.length_map], hx, (h1.set (ne n1)).keep (fun _ h => .inl h) (fun _ _ _ _ h => h), (h2.set (ne n2)).keep (fun _ h => .inr (.inl h)) (fun _ _ _ _ h => h), (h3.set (ne n3)).keep (fun _ h => .inr (.inr h)) (fun _ _ _ _ h => h), fun b hb => ?_, setRow_below hm.below (by omega) _⟩
  rw [setRow_size]
  rcases hb with h | h | h
  · have := n1 b h
    omega
  · have := n2 b h
    omega
  · have := n3 b h
    omega
set_option maxRecDepth 100000 in
set_option maxHeartbeats 4000000 in
theorem stmt_step (op at_ line : Int) (name field func : ByteArray) (reg ty end_ : Int) (A : Option Nat) (ca : Nat) (B : Option Nat) (cb : Nat) (C : Option Nat) (cc : Nat) (es : List Ex) (body els : List St) (IH1 : ∀ x ∈ body, StOK x) (IH2 : ∀ x ∈ els, StOK x) (fp : Nat) (S : Nat → Prop) (w : World)
    (hf : Folder w fp) (hse : SlIn S w A es) (hsb : SsIn S w B body) (hsc : SsIn S w C els) (hlow : ∀ b, S b → b < w.heap.size) :
    Calls Try.prog 74 #[.pointer (some ⟨fp, 0, none⟩), .agg (stL op at_ line name field func reg ty end_ A es.length ca B body.length cb C els.length cc).toArray] w (StAns (.mk op at_ line name field func reg ty end_ es body els) w) := by
  have HSE := Lib.hid hse
  have HSB := Lib.hid hsb
  have HSC := Lib.hid hsc
  have HLOW := Lib.hid hlow
  have HM := Lib.hid (MidS.start w (stL op at_ line name field func reg ty end_ A es.length ca B body.length cb C els.length cc) zeroS rfl)
  clear hse hsb hsc hlow
  go_enter Try.func74, Try.ntmps74
  go_wp2_with (first | (go_at_call 32; refine (each_any es (fun x _ => expr_any x) A ca fp S _ (hf.below HM.out.below (Nat.le_refl _)) (HSE.out.under HM.out.below HLOW.out) (fun b hb => by have := HLOW.out b hb; simp; omega)).mono ?_; rintro e w1 ⟨A1, ca1, Se, rfl, hse, hSe, hb1⟩; have HM1 := Lib.hid (HM.out.under hb1); have HE := Lib.hid hse; have HN : Hid (New w w1 Se) := fun b hb => (by have h := hSe b hb; simp at h; omega); clear hse hSe hb1 HM; have HM := HM1; clear HM1) | (refine wpList_store_row rfl 25 _ _ rfl w.heap.size 9 rfl [slV A1 es.length ca1] rfl (by kernel_rfl) (stL op at_ line name field func reg ty end_ A es.length ca B body.length cb C els.length cc) (stL op at_ line name field func reg ty end_ A1 es.length ca1 B body.length cb C els.length cc) 53 HM.out.box (by show 9 + 1 ≤ 12; omega) (one_one _ rfl) rfl ?_; have HM2 := Lib.hid (HM.out.put (cs' := (stL op at_ line name field func reg ty end_ A1 es.length ca1 B body.length cb C els.length cc))); have HE2 := Lib.hid (HE.out.set (g := w.heap.size) (cs := (stL op at_ line name field func reg ty end_ A1 es.length ca1 B body.length cb C els.length cc).toArray) (fun b hb => by have := HN.out b hb; omega)); have HN2 : Hid (New w (w1.setRow w.heap.size (stL op at_ line name field func reg ty end_ A1 es.length ca1 B body.length cb C els.length cc).toArray) Se) := HN.out.later (by rw [setRow_size]; exact Nat.le_refl _); generalize w1.setRow w.heap.size (stL op at_ line name field func reg ty end_ A1 es.length ca1 B body.length cb C els.length cc).toArray = w2 at *; clear HM HE HN))
  have HM := Lib.hid HM2.out.drew
  have HE : Hid (SlIn Se w2.drew A1 (es.map foldT)) := HE2.out.under (Below.refl _ _).drew (fun b hb => (HN2.out b hb).2)
  have HN : Hid (New w w2.drew Se) := HN2.out
  clear HM2 HE2 HN2
  refine wp_region_noPanic ?_
  refine wp_region_held_drew (S := (fun _ => True)) (by kernel_rfl) trivial (fun hHeld => ?_)
  refine' take_ 0 rfl (by kernel_rfl) (by kernel_rfl) (by kernel_rfl) (fun _ _ _ h => h) (by rfl) (fun wS _ => ?_) hHeld ?_
  rotate_left
  focus (go_simp; (try with_reducible rfl); done)
  try simp only [Act.put, List.setIfInBounds_toArray, List.set_cons_zero, List.set_cons_succ]
  refine' take_ 2 rfl (by kernel_rfl) (by kernel_rfl) (by kernel_rfl) (fun _ _ _ h => h) (by rfl) (fun wS _ => ?_) hHeld ?_
  rotate_left
  focus (go_simp; (try with_reducible rfl); done)
  try simp only [Act.put, List.setIfInBounds_toArray, List.set_cons_zero, List.set_cons_succ]
  refine' take_ 3 rfl (by kernel_rfl) (by kernel_rfl) (by kernel_rfl) (fun _ _ _ h => h) (by rfl) (fun wS _ => ?_) hHeld ?_
  rotate_left
  focus (go_simp; (try with_reducible rfl); done)
  try simp only [Act.put, List.setIfInBounds_toArray, List.set_cons_zero, List.set_cons_succ]
  refine' take_ 5 rfl (by kernel_rfl) (by kernel_rfl) (by kernel_rfl) (fun _ _ _ h => h) (by rfl) (fun wS _ => ?_) hHeld ?_
  rotate_left
  focus (go_simp; (try with_reducible rfl); done)
  try simp only [Act.put, List.setIfInBounds_toArray, List.set_cons_zero, List.set_cons_succ]
  refine' take_ 7 rfl (by kernel_rfl) (by kernel_rfl) (by kernel_rfl) (fun _ _ _ h => h) (by rfl) (fun wS _ => ?_) hHeld ?_
  rotate_left
  focus (go_simp; (try with_reducible rfl); done)
  try simp only [Act.put, List.setIfInBounds_toArray, List.set_cons_zero, List.set_cons_succ]
  refine' take_ 8 rfl (by kernel_rfl) (by kernel_rfl) (by kernel_rfl) (fun _ _ _ h => h) (by rfl) (fun wS _ => ?_) hHeld ?_
  rotate_left
  focus (go_simp; (try with_reducible rfl); done)
  try simp only [Act.put, List.setIfInBounds_toArray, List.set_cons_zero, List.set_cons_succ]
  refine both_ 1 6 rfl rfl (by kernel_rfl) (by rfl) (by rfl) (fun K hK => ?_) (fun K hK => ?_)
  · have cx := row_at HM.out.box 10 _ rfl
    go_simp
    clear cx
    refine hK.out _ _ trivial (fun hHeld2 => ?_)
    clear hK K hHeld hHeld2
    have hHeld : True := trivial
    try simp only [Act.put, List.setIfInBounds_toArray, List.set_cons_zero, List.set_cons_succ]
    refine both_ 4 6 rfl rfl (by kernel_rfl) (by rfl) (by rfl) (fun K hK => ?_) (fun K hK => ?_)
    · go_simp
      refine (eachS_any body IH1 B cb fp S _ (hf.below HM.out.below (Nat.le_refl _)) (HSB.out.under HM.out.below HLOW.out) (fun b hb => (by have := HLOW.out b hb; have := HM.out.below.size; omega))).mono ?_
      rintro e w3 ⟨B1, cb1, Sb, rfl, hsb, hSb, hb3⟩
      have HB := Lib.hid hsb
      have hz := HM.out.size
      have HNb : Hid (New w w3 Sb) := fun b hb => (by have := hSb b hb; omega)
      have HMx := Lib.hid (HM.out.under hb3)
      clear HM
      have HM := HMx
      clear HMx
      have Hx := Lib.hid (HE.out.under hb3 (fun b hb => (HN.out b hb).2))
      have Nx : Hid (New w w3 Se) := HN.out.later hb3.size
      clear HE
      have HE := Hx
      clear Hx
      clear HN
      have HN := Nx
      clear Nx
      clear hsb hSb hb3 hz
      go_simp
      refine hK.out _ _ trivial (fun hHeld2 => ?_)
      clear hK K hHeld hHeld2
      have hHeld : True := trivial
      try simp only [Act.put, List.setIfInBounds_toArray, List.set_cons_zero, List.set_cons_succ]
      refine only_ 6 rfl (by kernel_rfl) (by rfl) (fun K hK => ?_)
      have cx := row_at HM.out.box 11 _ rfl
      go_simp
      clear cx
      refine hK.out _ _ trivial (fun hHeld2 => ?_)
      clear hK K hHeld hHeld2
      have hHeld : True := trivial
      try simp only [Act.put, List.setIfInBounds_toArray, List.set_cons_zero, List.set_cons_succ]
      refine' take_ 10 rfl (by kernel_rfl) (by kernel_rfl) (by kernel_rfl) (fun _ _ _ h => h) (by rfl) (fun wS _ => ?_) hHeld ?_
      rotate_left
      focus (go_simp; (try with_reducible rfl); done)
      try simp only [Act.put, List.setIfInBounds_toArray, List.set_cons_zero, List.set_cons_succ]
      refine only_ 9 rfl (by kernel_rfl) (by rfl) (fun K hK => ?_)
      go_simp
      refine (eachS_any els IH2 C cc fp S _ (hf.below HM.out.below (Nat.le_refl _)) (HSC.out.under HM.out.below HLOW.out) (fun b hb => (by have := HLOW.out b hb; have := HM.out.below.size; omega))).mono ?_
      rintro e w4 ⟨C1, cc1, Sc, rfl, hsc, hSc, hb4⟩
      have HC := Lib.hid hsc
      have hz := HM.out.size
      have HNc : Hid (New w w4 Sc) := fun b hb => (by have := hSc b hb; omega)
      have HMx := Lib.hid (HM.out.under hb4)
      clear HM
      have HM := HMx
      clear HMx
      have Hx := Lib.hid (HE.out.under hb4 (fun b hb => (HN.out b hb).2))
      have Nx : Hid (New w w4 Se) := HN.out.later hb4.size
      clear HE
      have HE := Hx
      clear Hx
      clear HN
      have HN := Nx
      clear Nx
      have Hx := Lib.hid (HB.out.under hb4 (fun b hb => (HNb.out b hb).2))
      have Nx : Hid (New w w4 Sb) := HNb.out.later hb4.size
      clear HB
      have HB := Hx
      clear Hx
      clear HNb
      have HNb := Nx
      clear Nx
      clear hsc hSc hb4 hz
      go_simp
      refine hK.out _ _ trivial (fun hHeld2 => ?_)
      clear hK K hHeld hHeld2
      have hHeld : True := trivial
      try simp only [Act.put, List.setIfInBounds_toArray, List.set_cons_zero, List.set_cons_succ]
      refine only_ 11 rfl (by kernel_rfl) (by rfl) (fun K hK => ?_)
      refine wp_store_row rfl 51 _ _ rfl w.heap.size 10 rfl [slV B1 body.length cb1] rfl (by kernel_rfl) (stL op at_ line name field func reg ty end_ A1 es.length ca1 B body.length cb C els.length cc) (stL op at_ line name field func reg ty end_ A1 es.length ca1 B1 body.length cb1 C els.length cc) 53 HM.out.box (by show 10 + 1 ≤ 12; omega) (one_one _ rfl) rfl ?_
      have HMx := Lib.hid (HM.out.put (cs' := (stL op at_ line name field func reg ty end_ A1 es.length ca1 B1 body.length cb1 C els.length cc)))
      have HEx := Lib.hid (HE.out.set (g := w.heap.size) (cs := (stL op at_ line name field func reg ty end_ A1 es.length ca1 B1 body.length cb1 C els.length cc).toArray) (fun b hb => (by have := HN.out b hb; omega)))
      have HNx : Hid (New w (w4.setRow w.heap.size (stL op at_ line name field func reg ty end_ A1 es.length ca1 B1 body.length cb1 C els.length cc).toArray) Se) := HN.out.later (by rw [setRow_size]; exact Nat.le_refl _)
      have HBx := Lib.hid (HB.out.set (g := w.heap.size) (cs := (stL op at_ line name field func reg ty end_ A1 es.length ca1 B1 body.length cb1 C els.length cc).toArray) (fun b hb => (by have := HNb.out b hb; omega)))
      have HNbx : Hid (New w (w4.setRow w.heap.size (stL op at_ line name field func reg ty end_ A1 es.length ca1 B1 body.length cb1 C els.length cc).toArray) Sb) := HNb.out.later (by rw [setRow_size]; exact Nat.le_refl _)
      have HCx := Lib.hid (HC.out.set (g := w.heap.size) (cs := (stL op at_ line name field func reg ty end_ A1 es.length ca1 B1 body.length cb1 C els.length cc).toArray) (fun b hb => (by have := HNc.out b hb; omega)))
      have HNcx : Hid (New w (w4.setRow w.heap.size (stL op at_ line name field func reg ty end_ A1 es.length ca1 B1 body.length cb1 C els.length cc).toArray) Sc) := HNc.out.later (by rw [setRow_size]; exact Nat.le_refl _)
      generalize w4.setRow w.heap.size (stL op at_ line name field func reg ty end_ A1 es.length ca1 B1 body.length cb1 C els.length cc).toArray = w5 at *
      clear HM
      have HM := HMx
      clear HMx
      clear HE
      have HE := HEx
      clear HEx
      clear HN
      have HN := HNx
      clear HNx
      clear HB
      have HB := HBx
      clear HBx
      clear HNb
      have HNb := HNbx
      clear HNbx
      clear HC
      have HC := HCx
      clear HCx
      clear HNc
      have HNc := HNcx
      clear HNcx
      refine hK.out _ _ trivial (fun hHeld2 => ?_)
      clear hK K hHeld hHeld2
      have hHeld : True := trivial
      try simp only [Act.put]
      refine' take_ 12 rfl (by kernel_rfl) (by kernel_rfl) (by kernel_rfl) (fun _ _ _ h => h) (by rfl) (fun wS _ => ?_) hHeld ?_
      rotate_left
      focus (go_simp; (try with_reducible rfl); done)
      try simp only [Act.put, List.setIfInBounds_toArray, List.set_cons_zero, List.set_cons_succ]
      refine only_ 13 rfl (by kernel_rfl) (by rfl) (fun K hK => ?_)
      refine wp_store_row rfl 51 _ _ rfl w.heap.size 11 rfl [slV C1 els.length cc1] rfl (by kernel_rfl) (stL op at_ line name field func reg ty end_ A1 es.length ca1 B1 body.length cb1 C els.length cc) (stL op at_ line name field func reg ty end_ A1 es.length ca1 B1 body.length cb1 C1 els.length cc1) 53 HM.out.box (by show 11 + 1 ≤ 12; omega) (one_one _ rfl) rfl ?_
      have HMx := Lib.hid (HM.out.put (cs' := (stL op at_ line name field func reg ty end_ A1 es.length ca1 B1 body.length cb1 C1 els.length cc1)))
      have HEx := Lib.hid (HE.out.set (g := w.heap.size) (cs := (stL op at_ line name field func reg ty end_ A1 es.length ca1 B1 body.length cb1 C1 els.length cc1).toArray) (fun b hb => (by have := HN.out b hb; omega)))
      have HNx : Hid (New w (w5.setRow w.heap.size (stL op at_ line name field func reg ty end_ A1 es.length ca1 B1 body.length cb1 C1 els.length cc1).toArray) Se) := HN.out.later (by rw [setRow_size]; exact Nat.le_refl _)
      have HBx := Lib.hid (HB.out.set (g := w.heap.size) (cs := (stL op at_ line name field func reg ty end_ A1 es.length ca1 B1 body.length cb1 C1 els.length cc1).toArray) (fun b hb => (by have := HNb.out b hb; omega)))
      have HNbx : Hid (New w (w5.setRow w.heap.size (stL op at_ line name field func reg ty end_ A1 es.length ca1 B1 body.length cb1 C1 els.length cc1).toArray) Sb) := HNb.out.later (by rw [setRow_size]; exact Nat.le_refl _)
      have HCx := Lib.hid (HC.out.set (g := w.heap.size) (cs := (stL op at_ line name field func reg ty end_ A1 es.length ca1 B1 body.length cb1 C1 els.length cc1).toArray) (fun b hb => (by have := HNc.out b hb; omega)))
      have HNcx : Hid (New w (w5.setRow w.heap.size (stL op at_ line name field func reg ty end_ A1 es.length ca1 B1 body.length cb1 C1 els.length cc1).toArray) Sc) := HNc.out.later (by rw [setRow_size]; exact Nat.le_refl _)
      generalize w5.setRow w.heap.size (stL op at_ line name field func reg ty end_ A1 es.length ca1 B1 body.length cb1 C1 els.length cc1).toArray = w6 at *
      clear HM
      have HM := HMx
      clear HMx
      clear HE
      have HE := HEx
      clear HEx
      clear HN
      have HN := HNx
      clear HNx
      clear HB
      have HB := HBx
      clear HBx
      clear HNb
      have HNb := HNbx
      clear HNbx
      clear HC
      have HC := HCx
      clear HCx
      clear HNc
      have HNc := HNcx
      clear HNcx
      refine hK.out _ _ trivial (fun hHeld2 => ?_)
      clear hK K hHeld hHeld2
      have hHeld : True := trivial
      try simp only [Act.put]
      refine wpAnyH_done (by kernel_rfl) ?_ _
      refine NoPanic.normal ?_
      have HR := Lib.hid (setRow_heap _ _ _ (stL op at_ line name field func reg ty end_ A1 es.length ca1 B1 body.length cb1 C1 els.length cc1).toArray _ _ HM.out.res)
      have HF := Lib.hid (StAns.fin (ca := ca1) (cb := cb1) (cc := cc1) HM.out HE.out HB.out HC.out HN.out HNb.out HNc.out (foldS_mk op at_ line name field func reg ty end_ es body els))
      go_wp2_with (first | (refine wpList_load_at rfl 53 _ rfl w.heap.size 0 rfl _ _ (row_cells HM.out.box) Try.underlying53 rfl (by kernel_rfl) ?_) | (refine wpList_store_row rfl 53 _ _ rfl (w.heap.size + 1) 0 rfl (stL op at_ line name field func reg ty end_ A1 es.length ca1 B1 body.length cb1 C1 els.length cc1) rfl (by kernel_rfl) zeroS (stL op at_ line name field func reg ty end_ A1 es.length ca1 B1 body.length cb1 C1 els.length cc1) 53 HM.out.res (by show 0 + 12 ≤ 12; omega) (stL_one _ _ _ _ _ _ _ _ _ _ _ _ _ _ _ _ _ _) rfl ?_; generalize w6.setRow (w.heap.size + 1) (stL op at_ line name field func reg ty end_ A1 es.length ca1 B1 body.length cb1 C1 els.length cc1).toArray = WF at *; have q0 := row_at HR.out 0 _ rfl; have q1 := row_at HR.out 1 _ rfl; have q2 := row_at HR.out 2 _ rfl; have q3 := row_at HR.out 3 _ rfl; have q4 := row_at HR.out 4 _ rfl; have q5 := row_at HR.out 5 _ rfl; have q6 := row_at HR.out 6 _ rfl; have q7 := row_at HR.out 7 _ rfl; have q8 := row_at HR.out 8 _ rfl; have q9 := row_at HR.out 9 _ rfl; have q10 := row_at HR.out 10 _ rfl; have q11 := row_at HR.out 11 _ rfl))
      exact bodyPost_ret (v := .agg (stL op at_ line name field func reg ty end_ A1 es.length ca1 B1 body.length cb1 C1 els.length cc1).toArray) (by simp [results, Try.results74, go_sem, q0, q1, q2, q3, q4, q5, q6, q7, q8, q9, q10, q11]) rfl HF.out
    · have cx := row_at HM.out.box 11 _ rfl
      go_simp
      clear cx
      refine hK.out _ _ trivial (fun hHeld2 => ?_)
      clear hK K hHeld hHeld2
      have hHeld : True := trivial
      try simp only [Act.put, List.setIfInBounds_toArray, List.set_cons_zero, List.set_cons_succ]
      refine only_ 4 rfl (by kernel_rfl) (by rfl) (fun K hK => ?_)
      go_simp
      refine (eachS_any body IH1 B cb fp S _ (hf.below HM.out.below (Nat.le_refl _)) (HSB.out.under HM.out.below HLOW.out) (fun b hb => (by have := HLOW.out b hb; have := HM.out.below.size; omega))).mono ?_
      rintro e w3 ⟨B1, cb1, Sb, rfl, hsb, hSb, hb3⟩
      have HB := Lib.hid hsb
      have hz := HM.out.size
      have HNb : Hid (New w w3 Sb) := fun b hb => (by have := hSb b hb; omega)
      have HMx := Lib.hid (HM.out.under hb3)
      clear HM
      have HM := HMx
      clear HMx
      have Hx := Lib.hid (HE.out.under hb3 (fun b hb => (HN.out b hb).2))
      have Nx : Hid (New w w3 Se) := HN.out.later hb3.size
      clear HE
      have HE := Hx
      clear Hx
      clear HN
      have HN := Nx
      clear Nx
      clear hsb hSb hb3 hz
      go_simp
      refine hK.out _ _ trivial (fun hHeld2 => ?_)
      clear hK K hHeld hHeld2
      have hHeld : True := trivial
      try simp only [Act.put, List.setIfInBounds_toArray, List.set_cons_zero, List.set_cons_succ]
      refine' take_ 10 rfl (by kernel_rfl) (by kernel_rfl) (by kernel_rfl) (fun _ _ _ h => h) (by rfl) (fun wS _ => ?_) hHeld ?_
      rotate_left
      focus (go_simp; (try with_reducible rfl); done)
      try simp only [Act.put, List.setIfInBounds_toArray, List.set_cons_zero, List.set_cons_succ]
      refine only_ 9 rfl (by kernel_rfl) (by rfl) (fun K hK => ?_)
      go_simp
      refine (eachS_any els IH2 C cc fp S _ (hf.below HM.out.below (Nat.le_refl _)) (HSC.out.under HM.out.below HLOW.out) (fun b hb => (by have := HLOW.out b hb; have := HM.out.below.size; omega))).mono ?_
      rintro e w4 ⟨C1, cc1, Sc, rfl, hsc, hSc, hb4⟩
      have HC := Lib.hid hsc
      have hz := HM.out.size
      have HNc : Hid (New w w4 Sc) := fun b hb => (by have := hSc b hb; omega)
      have HMx := Lib.hid (HM.out.under hb4)
      clear HM
      have HM := HMx
      clear HMx
      have Hx := Lib.hid (HE.out.under hb4 (fun b hb => (HN.out b hb).2))
      have Nx : Hid (New w w4 Se) := HN.out.later hb4.size
      clear HE
      have HE := Hx
      clear Hx
      clear HN
      have HN := Nx
      clear Nx
      have Hx := Lib.hid (HB.out.under hb4 (fun b hb => (HNb.out b hb).2))
      have Nx : Hid (New w w4 Sb) := HNb.out.later hb4.size
      clear HB
      have HB := Hx
      clear Hx
      clear HNb
      have HNb := Nx
      clear Nx
      clear hsc hSc hb4 hz
      go_simp
      refine hK.out _ _ trivial (fun hHeld2 => ?_)
      clear hK K hHeld hHeld2
      have hHeld : True := trivial
      try simp only [Act.put, List.setIfInBounds_toArray, List.set_cons_zero, List.set_cons_succ]
      refine only_ 11 rfl (by kernel_rfl) (by rfl) (fun K hK => ?_)
      refine wp_store_row rfl 51 _ _ rfl w.heap.size 10 rfl [slV B1 body.length cb1] rfl (by kernel_rfl) (stL op at_ line name field func reg ty end_ A1 es.length ca1 B body.length cb C els.length cc) (stL op at_ line name field func reg ty end_ A1 es.length ca1 B1 body.length cb1 C els.length cc) 53 HM.out.box (by show 10 + 1 ≤ 12; omega) (one_one _ rfl) rfl ?_
      have HMx := Lib.hid (HM.out.put (cs' := (stL op at_ line name field func reg ty end_ A1 es.length ca1 B1 body.length cb1 C els.length cc)))
      have HEx := Lib.hid (HE.out.set (g := w.heap.size) (cs := (stL op at_ line name field func reg ty end_ A1 es.length ca1 B1 body.length cb1 C els.length cc).toArray) (fun b hb => (by have := HN.out b hb; omega)))
      have HNx : Hid (New w (w4.setRow w.heap.size (stL op at_ line name field func reg ty end_ A1 es.length ca1 B1 body.length cb1 C els.length cc).toArray) Se) := HN.out.later (by rw [setRow_size]; exact Nat.le_refl _)
      have HBx := Lib.hid (HB.out.set (g := w.heap.size) (cs := (stL op at_ line name field func reg ty end_ A1 es.length ca1 B1 body.length cb1 C els.length cc).toArray) (fun b hb => (by have := HNb.out b hb; omega)))
      have HNbx : Hid (New w (w4.setRow w.heap.size (stL op at_ line name field func reg ty end_ A1 es.length ca1 B1 body.length cb1 C els.length cc).toArray) Sb) := HNb.out.later (by rw [setRow_size]; exact Nat.le_refl _)
      have HCx := Lib.hid (HC.out.set (g := w.heap.size) (cs := (stL op at_ line name field func reg ty end_ A1 es.length ca1 B1 body.length cb1 C els.length cc).toArray) (fun b hb => (by have := HNc.out b hb; omega)))
      have HNcx : Hid (New w (w4.setRow w.heap.size (stL op at_ line name field func reg ty end_ A1 es.length ca1 B1 body.length cb1 C els.length cc).toArray) Sc) := HNc.out.later (by rw [setRow_size]; exact Nat.le_refl _)
      generalize w4.setRow w.heap.size (stL op at_ line name field func reg ty end_ A1 es.length ca1 B1 body.length cb1 C els.length cc).toArray = w5 at *
      clear HM
      have HM := HMx
      clear HMx
      clear HE
      have HE := HEx
      clear HEx
      clear HN
      have HN := HNx
      clear HNx
      clear HB
      have HB := HBx
      clear HBx
      clear HNb
      have HNb := HNbx
      clear HNbx
      clear HC
      have HC := HCx
      clear HCx
      clear HNc
      have HNc := HNcx
      clear HNcx
      refine hK.out _ _ trivial (fun hHeld2 => ?_)
      clear hK K hHeld hHeld2
      have hHeld : True := trivial
      try simp only [Act.put]
      refine' take_ 12 rfl (by kernel_rfl) (by kernel_rfl) (by kernel_rfl) (fun _ _ _ h => h) (by rfl) (fun wS _ => ?_) hHeld ?_
      rotate_left
      focus (go_simp; (try with_reducible rfl); done)
      try simp only [Act.put, List.setIfInBounds_toArray, List.set_cons_zero, List.set_cons_succ]
      refine only_ 13 rfl (by kernel_rfl) (by rfl) (fun K hK => ?_)
      refine wp_store_row rfl 51 _ _ rfl w.heap.size 11 rfl [slV C1 els.length cc1] rfl (by kernel_rfl) (stL op at_ line name field func reg ty end_ A1 es.length ca1 B1 body.length cb1 C els.length cc) (stL op at_ line name field func reg ty end_ A1 es.length ca1 B1 body.length cb1 C1 els.length cc1) 53 HM.out.box (by show 11 + 1 ≤ 12; omega) (one_one _ rfl) rfl ?_
      have HMx := Lib.hid (HM.out.put (cs' := (stL op at_ line name field func reg ty end_ A1 es.length ca1 B1 body.length cb1 C1 els.length cc1)))
      have HEx := Lib.hid (HE.out.set (g := w.heap.size) (cs := (stL op at_ line name field func reg ty end_ A1 es.length ca1 B1 body.length cb1 C1 els.length cc1).toArray) (fun b hb => (by have := HN.out b hb; omega)))
      have HNx : Hid (New w (w5.setRow w.heap.size (stL op at_ line name field func reg ty end_ A1 es.length ca1 B1 body.length cb1 C1 els.length cc1).toArray) Se) := HN.out.later (by rw [setRow_size]; exact Nat.le_refl _)
      have HBx := Lib.hid (HB.out.set (g := w.heap.size) (cs := (stL op at_ line name field func reg ty end_ A1 es.length ca1 B1 body.length cb1 C1 els.length cc1).toArray) (fun b hb => (by have := HNb.out b hb; omega)))
      have HNbx : Hid (New w (w5.setRow w.heap.size (stL op at_ line name field func reg ty end_ A1 es.length ca1 B1 body.length cb1 C1 els.length cc1).toArray) Sb) := HNb.out.later (by rw [setRow_size]; exact Nat.le_refl _)
      have HCx := Lib.hid (HC.out.set (g := w.heap.size) (cs := (stL op at_ line name field func reg ty end_ A1 es.length ca1 B1 body.length cb1 C1 els.length cc1).toArray) (fun b hb => (by have := HNc.out b hb; omega)))
      have HNcx : Hid (New w (w5.setRow w.heap.size (stL op at_ line name field func reg ty end_ A1 es.length ca1 B1 body.length cb1 C1 els.length cc1).toArray) Sc) := HNc.out.later (by rw [setRow_size]; exact Nat.le_refl _)
      generalize w5.setRow w.heap.size (stL op at_ line name field func reg ty end_ A1 es.length ca1 B1 body.length cb1 C1 els.length cc1).toArray = w6 at *
      clear HM
      have HM := HMx
      clear HMx
      clear HE
      have HE := HEx
      clear HEx
      clear HN
      have HN := HNx
      clear HNx
      clear HB
      have HB := HBx
      clear HBx
      clear HNb
      have HNb := HNbx
      clear HNbx
      clear HC
      have HC := HCx
      clear HCx
      clear HNc
      have HNc := HNcx
      clear HNcx
      refine hK.out _ _ trivial (fun hHeld2 => ?_)
      clear hK K hHeld hHeld2
      have hHeld : True := trivial
      try simp only [Act.put]
      refine wpAnyH_done (by kernel_rfl) ?_ _
      refine NoPanic.normal ?_
      have HR := Lib.hid (setRow_heap _ _ _ (stL op at_ line name field func reg ty end_ A1 es.length ca1 B1 body.length cb1 C1 els.length cc1).toArray _ _ HM.out.res)
      have HF := Lib.hid (StAns.fin (ca := ca1) (cb := cb1) (cc := cc1) HM.out HE.out HB.out HC.out HN.out HNb.out HNc.out (foldS_mk op at_ line name field func reg ty end_ es body els))
      go_wp2_with (first | (refine wpList_load_at rfl 53 _ rfl w.heap.size 0 rfl _ _ (row_cells HM.out.box) Try.underlying53 rfl (by kernel_rfl) ?_) | (refine wpList_store_row rfl 53 _ _ rfl (w.heap.size + 1) 0 rfl (stL op at_ line name field func reg ty end_ A1 es.length ca1 B1 body.length cb1 C1 els.length cc1) rfl (by kernel_rfl) zeroS (stL op at_ line name field func reg ty end_ A1 es.length ca1 B1 body.length cb1 C1 els.length cc1) 53 HM.out.res (by show 0 + 12 ≤ 12; omega) (stL_one _ _ _ _ _ _ _ _ _ _ _ _ _ _ _ _ _ _) rfl ?_; generalize w6.setRow (w.heap.size + 1) (stL op at_ line name field func reg ty end_ A1 es.length ca1 B1 body.length cb1 C1 els.length cc1).toArray = WF at *; have q0 := row_at HR.out 0 _ rfl; have q1 := row_at HR.out 1 _ rfl; have q2 := row_at HR.out 2 _ rfl; have q3 := row_at HR.out 3 _ rfl; have q4 := row_at HR.out 4 _ rfl; have q5 := row_at HR.out 5 _ rfl; have q6 := row_at HR.out 6 _ rfl; have q7 := row_at HR.out 7 _ rfl; have q8 := row_at HR.out 8 _ rfl; have q9 := row_at HR.out 9 _ rfl; have q10 := row_at HR.out 10 _ rfl; have q11 := row_at HR.out 11 _ rfl))
      exact bodyPost_ret (v := .agg (stL op at_ line name field func reg ty end_ A1 es.length ca1 B1 body.length cb1 C1 els.length cc1).toArray) (by simp [results, Try.results74, go_sem, q0, q1, q2, q3, q4, q5, q6, q7, q8, q9, q10, q11]) rfl HF.out
  · have cx := row_at HM.out.box 11 _ rfl
    go_simp
    clear cx
    refine hK.out _ _ trivial (fun hHeld2 => ?_)
    clear hK K hHeld hHeld2
    have hHeld : True := trivial
    try simp only [Act.put, List.setIfInBounds_toArray, List.set_cons_zero, List.set_cons_succ]
    refine only_ 1 rfl (by kernel_rfl) (by rfl) (fun K hK => ?_)
    have cx := row_at HM.out.box 10 _ rfl
    go_simp
    clear cx
    refine hK.out _ _ trivial (fun hHeld2 => ?_)
    clear hK K hHeld hHeld2
    have hHeld : True := trivial
    try simp only [Act.put, List.setIfInBounds_toArray, List.set_cons_zero, List.set_cons_succ]
    refine only_ 4 rfl (by kernel_rfl) (by rfl) (fun K hK => ?_)
    go_simp
    refine (eachS_any body IH1 B cb fp S _ (hf.below HM.out.below (Nat.le_refl _)) (HSB.out.under HM.out.below HLOW.out) (fun b hb => (by have := HLOW.out b hb; have := HM.out.below.size; omega))).mono ?_
    rintro e w3 ⟨B1, cb1, Sb, rfl, hsb, hSb, hb3⟩
    have HB := Lib.hid hsb
    have hz := HM.out.size
    have HNb : Hid (New w w3 Sb) := fun b hb => (by have := hSb b hb; omega)
    have HMx := Lib.hid (HM.out.under hb3)
    clear HM
    have HM := HMx
    clear HMx
    have Hx := Lib.hid (HE.out.under hb3 (fun b hb => (HN.out b hb).2))
    have Nx : Hid (New w w3 Se) := HN.out.later hb3.size
    clear HE
    have HE := Hx
    clear Hx
    clear HN
    have HN := Nx
    clear Nx
    clear hsb hSb hb3 hz
    go_simp
    refine hK.out _ _ trivial (fun hHeld2 => ?_)
    clear hK K hHeld hHeld2
    have hHeld : True := trivial
    try simp only [Act.put, List.setIfInBounds_toArray, List.set_cons_zero, List.set_cons_succ]
    refine' take_ 10 rfl (by kernel_rfl) (by kernel_rfl) (by kernel_rfl) (fun _ _ _ h => h) (by rfl) (fun wS _ => ?_) hHeld ?_
    rotate_left
    focus (go_simp; (try with_reducible rfl); done)
    try simp only [Act.put, List.setIfInBounds_toArray, List.set_cons_zero, List.set_cons_succ]
    refine only_ 9 rfl (by kernel_rfl) (by rfl) (fun K hK => ?_)
    go_simp
    refine (eachS_any els IH2 C cc fp S _ (hf.below HM.out.below (Nat.le_refl _)) (HSC.out.under HM.out.below HLOW.out) (fun b hb => (by have := HLOW.out b hb; have := HM.out.below.size; omega))).mono ?_
    rintro e w4 ⟨C1, cc1, Sc, rfl, hsc, hSc, hb4⟩
    have HC := Lib.hid hsc
    have hz := HM.out.size
    have HNc : Hid (New w w4 Sc) := fun b hb => (by have := hSc b hb; omega)
    have HMx := Lib.hid (HM.out.under hb4)
    clear HM
    have HM := HMx
    clear HMx
    have Hx := Lib.hid (HE.out.under hb4 (fun b hb => (HN.out b hb).2))
    have Nx : Hid (New w w4 Se) := HN.out.later hb4.size
    clear HE
    have HE := Hx
    clear Hx
    clear HN
    have HN := Nx
    clear Nx
    have Hx := Lib.hid (HB.out.under hb4 (fun b hb => (HNb.out b hb).2))
    have Nx : Hid (New w w4 Sb) := HNb.out.later hb4.size
    clear HB
    have HB := Hx
    clear Hx
    clear HNb
    have HNb := Nx
    clear Nx
    clear hsc hSc hb4 hz
    go_simp
    refine hK.out _ _ trivial (fun hHeld2 => ?_)
    clear hK K hHeld hHeld2
    have hHeld : True := trivial
    try simp only [Act.put, List.setIfInBounds_toArray, List.set_cons_zero, List.set_cons_succ]
    refine only_ 11 rfl (by kernel_rfl) (by rfl) (fun K hK => ?_)
    refine wp_store_row rfl 51 _ _ rfl w.heap.size 10 rfl [slV B1 body.length cb1] rfl (by kernel_rfl) (stL op at_ line name field func reg ty end_ A1 es.length ca1 B body.length cb C els.length cc) (stL op at_ line name field func reg ty end_ A1 es.length ca1 B1 body.length cb1 C els.length cc) 53 HM.out.box (by show 10 + 1 ≤ 12; omega) (one_one _ rfl) rfl ?_
    have HMx := Lib.hid (HM.out.put (cs' := (stL op at_ line name field func reg ty end_ A1 es.length ca1 B1 body.length cb1 C els.length cc)))
    have HEx := Lib.hid (HE.out.set (g := w.heap.size) (cs := (stL op at_ line name field func reg ty end_ A1 es.length ca1 B1 body.length cb1 C els.length cc).toArray) (fun b hb => (by have := HN.out b hb; omega)))
    have HNx : Hid (New w (w4.setRow w.heap.size (stL op at_ line name field func reg ty end_ A1 es.length ca1 B1 body.length cb1 C els.length cc).toArray) Se) := HN.out.later (by rw [setRow_size]; exact Nat.le_refl _)
    have HBx := Lib.hid (HB.out.set (g := w.heap.size) (cs := (stL op at_ line name field func reg ty end_ A1 es.length ca1 B1 body.length cb1 C els.length cc).toArray) (fun b hb => (by have := HNb.out b hb; omega)))
    have HNbx : Hid (New w (w4.setRow w.heap.size (stL op at_ line name field func reg ty end_ A1 es.length ca1 B1 body.length cb1 C els.length cc).toArray) Sb) := HNb.out.later (by rw [setRow_size]; exact Nat.le_refl _)
    have HCx := Lib.hid (HC.out.set (g := w.heap.size) (cs := (stL op at_ line name field func reg ty end_ A1 es.length ca1 B1 body.length cb1 C els.length cc).toArray) (fun b hb => (by have := HNc.out b hb; omega)))
    have HNcx : Hid (New w (w4.setRow w.heap.size (stL op at_ line name field func reg ty end_ A1 es.length ca1 B1 body.length cb1 C els.length cc).toArray) Sc) := HNc.out.later (by rw [setRow_size]; exact Nat.le_refl _)
    generalize w4.setRow w.heap.size (stL op at_ line name field func reg ty end_ A1 es.length ca1 B1 body.length cb1 C els.length cc).toArray = w5 at *
    clear HM
    have HM := HMx
    clear HMx
    clear HE
    have HE := HEx
    clear HEx
    clear HN
    have HN := HNx
    clear HNx
    clear HB
    have HB := HBx
    clear HBx
    clear HNb
    have HNb := HNbx
    clear HNbx
    clear HC
    have HC := HCx
    clear HCx
    clear HNc
    have HNc := HNcx
    clear HNcx
    refine hK.out _ _ trivial (fun hHeld2 => ?_)
    clear hK K hHeld hHeld2
    have hHeld : True := trivial
    try simp only [Act.put]
    refine' take_ 12 rfl (by kernel_rfl) (by kernel_rfl) (by kernel_rfl) (fun _ _ _ h => h) (by rfl) (fun wS _ => ?_) hHeld ?_
    rotate_left
    focus (go_simp; (try with_reducible rfl); done)
    try simp only [Act.put, List.setIfInBounds_toArray, List.set_cons_zero, List.set_cons_succ]
    refine only_ 13 rfl (by kernel_rfl) (by rfl) (fun K hK => ?_)
    refine wp_store_row rfl 51 _ _ rfl w.heap.size 11 rfl [slV C1 els.length cc1] rfl (by kernel_rfl) (stL op at_ line name field func reg ty end_ A1 es.length ca1 B1 body.length cb1 C els.length cc) (stL op at_ line name field func reg ty end_ A1 es.length ca1 B1 body.length cb1 C1 els.length cc1) 53 HM.out.box (by show 11 + 1 ≤ 12; omega) (one_one _ rfl) rfl ?_
    have HMx := Lib.hid (HM.out.put (cs' := (stL op at_ line name field func reg ty end_ A1 es.length ca1 B1 body.length cb1 C1 els.length cc1)))
    have HEx := Lib.hid (HE.out.set (g := w.heap.size) (cs := (stL op at_ line name field func reg ty end_ A1 es.length ca1 B1 body.length cb1 C1 els.length cc1).toArray) (fun b hb => (by have := HN.out b hb; omega)))
    have HNx : Hid (New w (w5.setRow w.heap.size (stL op at_ line name field func reg ty end_ A1 es.length ca1 B1 body.length cb1 C1 els.length cc1).toArray) Se) := HN.out.later (by rw [setRow_size]; exact Nat.le_refl _)
    have HBx := Lib.hid (HB.out.set (g := w.heap.size) (cs := (stL op at_ line name field func reg ty end_ A1 es.length ca1 B1 body.length cb1 C1 els.length cc1).toArray) (fun b hb => (by have := HNb.out b hb; omega)))
    have HNbx : Hid (New w (w5.setRow w.heap.size (stL op at_ line name field func reg ty end_ A1 es.length ca1 B1 body.length cb1 C1 els.length cc1).toArray) Sb) := HNb.out.later (by rw [setRow_size]; exact Nat.le_refl _)
    have HCx := Lib.hid (HC.out.set (g := w.heap.size) (cs := (stL op at_ line name field func reg ty end_ A1 es.length ca1 B1 body.length cb1 C1 els.length cc1).toArray) (fun b hb => (by have := HNc.out b hb; omega)))
    have HNcx : Hid (New w (w5.setRow w.heap.size (stL op at_ line name field func reg ty end_ A1 es.length ca1 B1 body.length cb1 C1 els.length cc1).toArray) Sc) := HNc.out.later (by rw [setRow_size]; exact Nat.le_refl _)
    generalize w5.setRow w.heap.size (stL op at_ line name field func reg ty end_ A1 es.length ca1 B1 body.length cb1 C1 els.length cc1).toArray = w6 at *
    clear HM
    have HM := HMx
    clear HMx
    clear HE
    have HE := HEx
    clear HEx
    clear HN
    have HN := HNx
    clear HNx
    clear HB
    have HB := HBx
    clear HBx
    clear HNb
    have HNb := HNbx
    clear HNbx
    clear HC
    have HC := HCx
    clear HCx
    clear HNc
    have HNc := HNcx
    clear HNcx
    refine hK.out _ _ trivial (fun hHeld2 => ?_)
    clear hK K hHeld hHeld2
    have hHeld : True := trivial
    try simp only [Act.put]
    refine wpAnyH_done (by kernel_rfl) ?_ _
    refine NoPanic.normal ?_
    have HR := Lib.hid (setRow_heap _ _ _ (stL op at_ line name field func reg ty end_ A1 es.length ca1 B1 body.length cb1 C1 els.length cc1).toArray _ _ HM.out.res)
    have HF := Lib.hid (StAns.fin (ca := ca1) (cb := cb1) (cc := cc1) HM.out HE.out HB.out HC.out HN.out HNb.out HNc.out (foldS_mk op at_ line name field func reg ty end_ es body els))
    go_wp2_with (first | (refine wpList_load_at rfl 53 _ rfl w.heap.size 0 rfl _ _ (row_cells HM.out.box) Try.underlying53 rfl (by kernel_rfl) ?_) | (refine wpList_store_row rfl 53 _ _ rfl (w.heap.size + 1) 0 rfl (stL op at_ line name field func reg ty end_ A1 es.length ca1 B1 body.length cb1 C1 els.length cc1) rfl (by kernel_rfl) zeroS (stL op at_ line name field func reg ty end_ A1 es.length ca1 B1 body.length cb1 C1 els.length cc1) 53 HM.out.res (by show 0 + 12 ≤ 12; omega) (stL_one _ _ _ _ _ _ _ _ _ _ _ _ _ _ _ _ _ _) rfl ?_; generalize w6.setRow (w.heap.size + 1) (stL op at_ line name field func reg ty end_ A1 es.length ca1 B1 body.length cb1 C1 els.length cc1).toArray = WF at *; have q0 := row_at HR.out 0 _ rfl; have q1 := row_at HR.out 1 _ rfl; have q2 := row_at HR.out 2 _ rfl; have q3 := row_at HR.out 3 _ rfl; have q4 := row_at HR.out 4 _ rfl; have q5 := row_at HR.out 5 _ rfl; have q6 := row_at HR.out 6 _ rfl; have q7 := row_at HR.out 7 _ rfl; have q8 := row_at HR.out 8 _ rfl; have q9 := row_at HR.out 9 _ rfl; have q10 := row_at HR.out 10 _ rfl; have q11 := row_at HR.out 11 _ rfl))
    exact bodyPost_ret (v := .agg (stL op at_ line name field func reg ty end_ A1 es.length ca1 B1 body.length cb1 C1 els.length cc1).toArray) (by simp [results, Try.results74, go_sem, q0, q1, q2, q3, q4, q5, q6, q7, q8, q9, q10, q11]) rfl HF.out
theorem stmt_any : ∀ x, StOK x := by
  refine St.ind fun op at_ line name field func reg ty end_ es body els IH1 IH2 => ?_
  rintro _ _ _ _ _ _ _ _ _ A ca B cb C cc _ _ _ fp S w h hf h1 h2 h3 hlow
  injection h with e1 e2 e3 e4 e5 e6 e7 e8 e9 e10 e11 e12
  subst e1 e2 e3 e4 e5 e6 e7 e8 e9 e10 e11 e12
  exact stmt_step op at_ line name field func reg ty end_ A ca B cb C cc es body els IH1 IH2 fp S w hf h1 h2 h3 hlow
end Go.Proofs.Ythmphmndpfkbcaa
