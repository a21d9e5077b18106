/-
  The folder's program, and Prog, at one function. Made by wip/genprog.py.
-/
import Derived.Test.YthmphmndpfkbcaaFuncs
namespace Go.Proofs.Ythmphmndpfkbcaa
open Go.RowKit
/-- What is made of a program of one function. -/
def PrAns (name : ByteArray) (at_ line end_ vector prio result : Int) (body : List St) (w : World) (e : Ending) (w' : World) : Prop := ∃ (g c : Nat) (B : Option Nat) (cb : Nat) (S' : Nat → Prop), e = .returned (.agg ([.slice none 0 0, .slice none 0 0, .slice (some ⟨g, 0, none⟩) 1 c] : List Value).toArray) ∧ CellsAt w' g 0 (fnL name at_ line end_ vector prio result B body.length cb) ∧ SsIn S' w' B (body.map foldS) ∧ (w.heap.size ≤ g ∧ g < w'.heap.size) ∧ (∀ b, S' b → w.heap.size ≤ b ∧ b < w'.heap.size) ∧ Below w.heap.size w w'
abbrev zeroP : List Value := [.slice none 0 0, .slice none 0 0, .slice none 0 0]
/-- The program's box, the result's cells, and the function ahead of its folding. -/
structure PrIn (name : ByteArray) (at_ line end_ vector prio result : Int) (body : List St) (w : World) (b c : Nat) (B : Option Nat) (cb : Nat) (S : Nat → Prop) (W : World) : Prop where
  cells : CellsAt W w.heap.size 0 ([.slice none 0 0, .slice none 0 0, .slice (some ⟨b, 0, none⟩) 1 c] : List Value)
  res : W.heap[w.heap.size + 1]? = some (.cells zeroP.toArray 49 (0, 0))
  fn : CellsAt W b 0 (fnL name at_ line end_ vector prio result B body.length cb)
  sl : SsIn S W B body
  lt : ∀ b, S b → b < W.heap.size
  bl : b < W.heap.size
  below : Below w.heap.size w W
  size : w.heap.size + 2 ≤ W.heap.size
theorem PrIn.under {name : ByteArray} {at_ line end_ vector prio result : Int} {body : List St} {w : World} {b c : Nat} {B : Option Nat} {cb : Nat} {S : Nat → Prop} {W W' : World} (h : PrIn name at_ line end_ vector prio result body w b c B cb S W) (hb : Below W.heap.size W W') : PrIn name at_ line end_ vector prio result body w b c B cb S W' := by
  have hs := hb.size
  have hz := h.size
  refine ⟨h.cells.below hb (by omega), ?_, h.fn.below hb h.bl, h.sl.under hb h.lt, fun b hb => by have := h.lt b hb; omega, by have := h.bl; omega, h.below.trans (hb.mono (by omega)), by omega⟩
  rw [hb.block _ (by omega)]
  exact h.res
theorem PrIn.drew {name : ByteArray} {at_ line end_ vector prio result : Int} {body : List St} {w : World} {b c : Nat} {B : Option Nat} {cb : Nat} {S : Nat → Prop} {W : World} (h : PrIn name at_ line end_ vector prio result body w b c B cb S W) : PrIn name at_ line end_ vector prio result body w b c B cb S W.drew := h.under (Below.refl _ _).drew
theorem PrIn.start (name : ByteArray) (at_ line end_ vector prio result : Int) (body : List St) (w : World) (b c : Nat) (B : Option Nat) (cb : Nat) (S : Nat → Prop) (zs : List Value) (hz : zs = zeroP) (hb : b < w.heap.size) (hc : CellsAt w b 0 (fnL name at_ line end_ vector prio result B body.length cb)) (hsb : SsIn S w B body) (hlow : ∀ b, S b → b < w.heap.size) :
    PrIn name at_ line end_ vector prio result body w b c B cb S ((w.alloc (.cells ([.slice none 0 0, .slice none 0 0, .slice (some ⟨b, 0, none⟩) 1 c] : List Value).toArray 49)).alloc (.cells zs.toArray 49)) := by
  subst hz
  have hM := MidG.start w 49 ([.slice none 0 0, .slice none 0 0, .slice (some ⟨b, 0, none⟩) 1 c] : List Value) zeroP
  have hB := hM.below
  exact ⟨row_cells hM.box, hM.res, hc.below hB hb, hsb.under hB hlow, fun b hb => by have := hlow b hb; have := hB.size; omega, by have := hB.size; omega, hB, hM.size⟩
theorem PrIn.set {name : ByteArray} {at_ line end_ vector prio result : Int} {body : List St} {w : World} {b c : Nat} {B : Option Nat} {cb : Nat} {S : Nat → Prop} {W : World} {new : Array Value} (h : PrIn name at_ line end_ vector prio result body w b c B cb S W) : CellsAt (W.setRow (w.heap.size + 1) new) w.heap.size 0 ([.slice none 0 0, .slice none 0 0, .slice (some ⟨b, 0, none⟩) 1 c] : List Value) := fun j v hv => by
  rw [World.cell?_of_block (setRow_other W (w.heap.size + 1) w.heap.size _ (by omega))]
  exact h.cells j v hv
theorem three_one (a b c : Value) (ha : a.oneCell' = true) (hb : b.oneCell' = true) (hc : c.oneCell' = true) : ∀ u ∈ [a, b, c], u.oneCell' = true := by
  intro u hu
  simp only [List.mem_cons, List.not_mem_nil, or_false] at hu
  rcases hu with rfl | rfl | rfl
  · exact ha
  · exact hb
  · exact hc
set_option maxRecDepth 100000 in
set_option maxHeartbeats 2000000 in
theorem program_one (name : ByteArray) (at_ line end_ vector prio result : Int) (body : List St) (b c : Nat) (B : Option Nat) (cb : Nat) (S : Nat → Prop) (fp : Nat) (w : World) (hf : Folder w fp) (hb : b < w.heap.size) (hc : CellsAt w b 0 (fnL name at_ line end_ vector prio result B body.length cb)) (hsb : SsIn S w B body) (hlow : ∀ b, S b → b < w.heap.size) :
    Calls Try.prog 31 #[.pointer (some ⟨fp, 0, none⟩), .agg ([.slice none 0 0, .slice none 0 0, .slice (some ⟨b, 0, none⟩) 1 c] : List Value).toArray] w (PrAns name at_ line end_ vector prio result body w) := by
  have HM := Lib.hid (PrIn.start name at_ line end_ vector prio result body w b c B cb S zeroP rfl hb hc hsb hlow)
  clear hb hc hsb hlow
  go_enter Try.func31, Try.ntmps31
  go_wp2_with fail
  have HM1 := Lib.hid HM.out.drew
  clear HM
  have HM := HM1
  clear HM1
  refine wp_region_noPanic ?_
  refine wp_region_held_drew (S := (fun W => CellsAt W w.heap.size 0 ([.slice none 0 0, .slice none 0 0, .slice (some ⟨b, 0, none⟩) 1 c] : List Value))) (by kernel_rfl) HM.out.cells (fun hHeld => ?_)
  refine' take_ 0 rfl (by kernel_rfl) (by kernel_rfl) (by kernel_rfl) (fun _ _ _ h => h) (by rfl) (fun wS hSw => ?_) hHeld ?_
  rotate_left
  focus (have c0 := hSw 0 _ rfl; have c1 := hSw 1 _ rfl; have c2 := hSw 2 _ rfl; go_simp; (try with_reducible rfl); done)
  try simp only [Act.put, List.setIfInBounds_toArray, List.set_cons_zero, List.set_cons_succ]
  refine' take_ 1 rfl (by kernel_rfl) (by kernel_rfl) (by kernel_rfl) (fun _ _ _ h => h) (by rfl) (fun wS hSw => ?_) hHeld ?_
  rotate_left
  focus (have c0 := hSw 0 _ rfl; have c1 := hSw 1 _ rfl; have c2 := hSw 2 _ rfl; go_simp; (try with_reducible rfl); done)
  try simp only [Act.put, List.setIfInBounds_toArray, List.set_cons_zero, List.set_cons_succ]
  refine' take_ 3 rfl (by kernel_rfl) (by kernel_rfl) (by kernel_rfl) (fun _ _ _ h => h) (by rfl) (fun wS hSw => ?_) hHeld ?_
  rotate_left
  focus (have c0 := hSw 0 _ rfl; have c1 := hSw 1 _ rfl; have c2 := hSw 2 _ rfl; go_simp; (try with_reducible rfl); done)
  try simp only [Act.put, List.setIfInBounds_toArray, List.set_cons_zero, List.set_cons_succ]
  refine' take_ 4 rfl (by kernel_rfl) (by kernel_rfl) (by kernel_rfl) (fun _ _ _ h => h) (by rfl) (fun wS hSw => ?_) hHeld ?_
  rotate_left
  focus (have c0 := hSw 0 _ rfl; have c1 := hSw 1 _ rfl; have c2 := hSw 2 _ rfl; go_simp; (try with_reducible rfl); done)
  try simp only [Act.put, List.setIfInBounds_toArray, List.set_cons_zero, List.set_cons_succ]
  refine' take_ 6 rfl (by kernel_rfl) (by kernel_rfl) (by kernel_rfl) (fun _ _ _ h => h) (by rfl) (fun wS hSw => ?_) hHeld ?_
  rotate_left
  focus (have c0 := hSw 0 _ rfl; have c1 := hSw 1 _ rfl; have c2 := hSw 2 _ rfl; go_simp; (try with_reducible rfl); done)
  try simp only [Act.put, List.setIfInBounds_toArray, List.set_cons_zero, List.set_cons_succ]
  refine' take_ 7 rfl (by kernel_rfl) (by kernel_rfl) (by kernel_rfl) (fun _ _ _ h => h) (by rfl) (fun wS hSw => ?_) hHeld ?_
  rotate_left
  focus (have c0 := hSw 0 _ rfl; have c1 := hSw 1 _ rfl; have c2 := hSw 2 _ rfl; go_simp; (try with_reducible rfl); done)
  try simp only [Act.put, List.setIfInBounds_toArray, List.set_cons_zero, List.set_cons_succ]
  refine' take_ 8 rfl (by kernel_rfl) (by kernel_rfl) (by kernel_rfl) (fun _ _ _ h => h) (by rfl) (fun wS hSw => ?_) hHeld ?_
  rotate_left
  focus (have c0 := hSw 0 _ rfl; have c1 := hSw 1 _ rfl; have c2 := hSw 2 _ rfl; go_simp; (try with_reducible rfl); done)
  try simp only [Act.put, List.setIfInBounds_toArray, List.set_cons_zero, List.set_cons_succ]
  refine' take_ 9 rfl (by kernel_rfl) (by kernel_rfl) (by kernel_rfl) (fun _ _ _ h => h) (by rfl) (fun wS hSw => ?_) hHeld ?_
  rotate_left
  focus (have c0 := hSw 0 _ rfl; have c1 := hSw 1 _ rfl; have c2 := hSw 2 _ rfl; go_simp; (try with_reducible rfl); done)
  try simp only [Act.put, List.setIfInBounds_toArray, List.set_cons_zero, List.set_cons_succ]
  refine only_ 2 rfl (by kernel_rfl) (by rfl) (fun K hK => ?_)
  go_simp
  refine (eachT_nil _).mono ?_
  rintro e w' ⟨rfl, rfl⟩
  go_simp
  refine hK.out _ _ (HM.out.cells) (fun hHeld2 => ?_)
  clear hK K hHeld hHeld2
  have hHeld := HM.out.cells
  try simp only [Act.put, List.setIfInBounds_toArray, List.set_cons_zero, List.set_cons_succ]
  refine only_ 5 rfl (by kernel_rfl) (by rfl) (fun K hK => ?_)
  go_simp
  refine (cloneG_nil _).mono ?_
  rintro e w' ⟨rfl, rfl⟩
  go_simp
  refine hK.out _ _ (HM.out.cells) (fun hHeld2 => ?_)
  clear hK K hHeld hHeld2
  have hHeld := HM.out.cells
  try simp only [Act.put, List.setIfInBounds_toArray, List.set_cons_zero, List.set_cons_succ]
  refine only_ 10 rfl (by kernel_rfl) (by rfl) (fun K hK => ?_)
  go_simp
  refine (eachF_one name at_ line end_ vector prio result B cb body b c fp S _ (hf.below HM.out.below (Nat.le_refl _)) HM.out.fn HM.out.sl HM.out.lt).mono ?_
  rintro e w3 ⟨v, rfl, g, c2, B2, cb2, S2, rfl, hg, hs2, hgl, hl2, hb3⟩
  have hz := HM.out.size
  have HM3 := Lib.hid (HM.out.under hb3)
  clear HM
  have HM := HM3
  clear HM3
  go_simp
  refine hK.out _ _ (HM.out.cells) (fun hHeld2 => ?_)
  clear hK K hHeld hHeld2
  have hHeld := HM.out.cells
  try simp only [Act.put, List.setIfInBounds_toArray, List.set_cons_zero, List.set_cons_succ]
  refine' take_ 11 rfl (by kernel_rfl) (by kernel_rfl) (by kernel_rfl) (fun _ _ _ h => h) (by rfl) (fun wS hSw => ?_) hHeld ?_
  rotate_left
  focus (have c0 := hSw 0 _ rfl; have c1 := hSw 1 _ rfl; have c2 := hSw 2 _ rfl; go_simp; (try with_reducible rfl); done)
  try simp only [Act.put, List.setIfInBounds_toArray, List.set_cons_zero, List.set_cons_succ]
  refine only_ 12 rfl (by kernel_rfl) (by rfl) (fun K hK => ?_)
  refine wp_store_row rfl 49 _ _ rfl (w.heap.size + 1) 0 rfl ([.slice none 0 0, .slice none 0 0, .slice (some ⟨g, 0, none⟩) 1 c2] : List Value) rfl (by kernel_rfl) zeroP ([.slice none 0 0, .slice none 0 0, .slice (some ⟨g, 0, none⟩) 1 c2] : List Value) 49 HM.out.res (by show 0 + 3 ≤ 3; omega) (three_one _ _ _ rfl rfl rfl) rfl ?_
  refine hK.out _ _ HM.out.set (fun hHeld2 => ?_)
  clear hK K hHeld hHeld2
  try simp only [Act.put]
  refine wpAnyH_done (by kernel_rfl) ?_ _
  refine NoPanic.normal ?_
  have HR := Lib.hid (setRow_heap _ _ _ ([.slice none 0 0, .slice none 0 0, .slice (some ⟨g, 0, none⟩) 1 c2] : List Value).toArray _ _ HM.out.res)
  have HF : Hid (PrAns name at_ line end_ vector prio result body w (.returned (.agg ([.slice none 0 0, .slice none 0 0, .slice (some ⟨g, 0, none⟩) 1 c2] : List Value).toArray)) (w3.setRow (w.heap.size + 1) ([.slice none 0 0, .slice none 0 0, .slice (some ⟨g, 0, none⟩) 1 c2] : List Value).toArray)) := by
    refine ⟨g, c2, B2, cb2, S2, rfl, fun j v hv => ?_, hs2.set (fun b hb => by have := hl2 b hb; omega), ⟨by omega, by rw [setRow_size]; exact hgl.2⟩, fun b hb => by rw [setRow_size]; have := hl2 b hb; omega, setRow_below HM.out.below (by omega) _⟩
    rw [World.cell?_of_block (setRow_other w3 (w.heap.size + 1) g _ (by omega))]
    exact hg j v hv
  change Exit.then _ _ _ _ (w3.setRow (w.heap.size + 1) ([.slice none 0 0, .slice none 0 0, .slice (some ⟨g, 0, none⟩) 1 c2] : List Value).toArray)
  generalize w3.setRow (w.heap.size + 1) ([.slice none 0 0, .slice none 0 0, .slice (some ⟨g, 0, none⟩) 1 c2] : List Value).toArray = WF at *
  have q0 := row_at HR.out 0 _ rfl
  have q1 := row_at HR.out 1 _ rfl
  have q2 := row_at HR.out 2 _ rfl
  clear hg hs2 hgl hl2 hb3 hz
  go_wp2
  exact bodyPost_ret (v := .agg ([.slice none 0 0, .slice none 0 0, .slice (some ⟨g, 0, none⟩) 1 c2] : List Value).toArray) (by simp [results, Try.results31, go_sem, q0, q1, q2]) rfl HF.out
end Go.Proofs.Ythmphmndpfkbcaa
