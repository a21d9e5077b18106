/-
  Prog, at one function. Made by wip/genprog2.py.
-/
import Derived.Test.YthmphmndpfkbcaaProgram
namespace Go.Proofs.Ythmphmndpfkbcaa
open Go.RowKit
set_option maxRecDepth 100000 in
set_option maxHeartbeats 2000000 in
theorem prog_one (name : ByteArray) (at_ line end_ vector prio result : Int) (body : List St) (b c : Nat) (B : Option Nat) (cb : Nat) (S : Nat → Prop) (w : World) (hb : b < w.heap.size) (hc : CellsAt w b 0 (fnL name at_ line end_ vector prio result B body.length cb)) (hsb : SsIn S w B body) (hlow : ∀ b, S b → b < w.heap.size) :
    Calls Try.prog 18 #[.agg ([.slice none 0 0, .slice none 0 0, .slice (some ⟨b, 0, none⟩) 1 c] : List Value).toArray] w (PrAns name at_ line end_ vector prio result body w) := by
  have HM := Lib.hid (PrIn.start name at_ line end_ vector prio result body w b c B cb S zeroP rfl hb hc hsb hlow)
  clear hb hc hsb hlow
  go_enter Try.func18, Try.ntmps18
  go_wp2_with fail
  have HM1 := Lib.hid HM.out.drew
  clear HM
  have HM := HM1
  clear HM1
  refine wp_region_noPanic ?_
  refine wp_region_held_drew (S := (fun W => CellsAt W w.heap.size 0 ([.slice none 0 0, .slice none 0 0, .slice (some ⟨b, 0, none⟩) 1 c] : List Value))) (by kernel_rfl) HM.out.cells (fun hHeld => ?_)
  refine' take_ 1 rfl (by kernel_rfl) (by kernel_rfl) (by kernel_rfl) (fun _ _ _ h => h) (by rfl) (fun wS hSw => run_load_at wS 49 _ w.heap.size 0 rfl _ _ hSw Try.underlying49 rfl (by kernel_rfl) _ _ _ _ _) hHeld ?_
  try simp only [Act.put, List.setIfInBounds_toArray, List.set_cons_zero, List.set_cons_succ]
  refine only_ 0 rfl (by kernel_rfl) (by rfl) (fun K hK => ?_)
  go_simp
  refine (newFolder_some _).mono ?_
  rintro e w1 ⟨fp, rfl, hfo, hb1⟩
  have HM1 := Lib.hid (HM.out.under hb1)
  have HFO := Lib.hid hfo
  clear hfo HM
  have HM := HM1
  clear HM1
  go_simp
  refine hK.out _ _ HM.out.cells (fun hHeld2 => ?_)
  clear hK K hHeld hHeld2
  have hHeld := HM.out.cells
  try simp only [Act.put, List.setIfInBounds_toArray, List.set_cons_zero, List.set_cons_succ]
  refine only_ 2 rfl (by kernel_rfl) (by rfl) (fun K hK => ?_)
  go_simp
  refine (program_one name at_ line end_ vector prio result body b c B cb S fp _ HFO.out HM.out.bl HM.out.fn HM.out.sl HM.out.lt).mono ?_
  rintro e w3 ⟨g, c2, B2, cb2, S2, rfl, hg, hs2, hgl, hl2, hb3⟩
  have hz := HM.out.size
  have hz1 := HM.out.size
  have HM3 := Lib.hid (HM.out.under hb3)
  clear HM
  have HM := HM3
  clear HM3
  go_simp
  refine hK.out _ _ HM.out.cells (fun hHeld2 => ?_)
  clear hK K hHeld hHeld2
  have hHeld := HM.out.cells
  try simp only [Act.put, List.setIfInBounds_toArray, List.set_cons_zero, List.set_cons_succ]
  refine only_ 3 rfl (by kernel_rfl) (by rfl) (fun K hK => ?_)
  refine wp_store_row rfl 49 _ _ rfl (w.heap.size + 1) 0 rfl ([.slice none 0 0, .slice none 0 0, .slice (some ⟨g, 0, none⟩) 1 c2] : List Value) rfl (by kernel_rfl) zeroP ([.slice none 0 0, .slice none 0 0, .slice (some ⟨g, 0, none⟩) 1 c2] : List Value) 49 HM.out.res (by show 0 + 3 ≤ 3; omega) (three_one _ _ _ rfl rfl rfl) rfl ?_
  refine hK.out _ _ HM.out.set (fun hHeld2 => ?_)
  clear hK K hHeld hHeld2
  try simp only [Act.put]
  refine wpAnyH_done (by kernel_rfl) ?_ _
  refine NoPanic.normal ?_
  have HR := Lib.hid (setRow_heap _ _ _ ([.slice none 0 0, .slice none 0 0, .slice (some ⟨g, 0, none⟩) 1 c2] : List Value).toArray _ _ HM.out.res)
  have HF : Hid (PrAns name at_ line end_ vector prio result body w (.returned (.agg ([.slice none 0 0, .slice none 0 0, .slice (some ⟨g, 0, none⟩) 1 c2] : List Value).toArray)) (w3.setRow (w.heap.size + 1) ([.slice none 0 0, .slice none 0 0, .slice (some ⟨g, 0, none⟩) 1 c2] : List Value).toArray)) := by
    refine ⟨g, c2, B2, cb2, S2, rfl, fun j v hv => ?_, hs2.set (fun b hb => by have := hl2 b hb; omega), ⟨by omega, by rw [setRow_size]; exact hgl.2⟩, fun b hb => by rw [setRow_size]; have := hl2 b hb; omega, setRow_below HM.out.below (by omega) _⟩
    rw [World.cell?_of_block (setRow_other w3 (w.heap.size + 1) g _ (by omega))]
    exact hg j v hv
  change Exit.then _ _ _ _ (w3.setRow (w.heap.size + 1) ([.slice none 0 0, .slice none 0 0, .slice (some ⟨g, 0, none⟩) 1 c2] : List Value).toArray)
  generalize w3.setRow (w.heap.size + 1) ([.slice none 0 0, .slice none 0 0, .slice (some ⟨g, 0, none⟩) 1 c2] : List Value).toArray = WF at *
  have q0 := row_at HR.out 0 _ rfl
  have q1 := row_at HR.out 1 _ rfl
  have q2 := row_at HR.out 2 _ rfl
  clear hg hs2 hgl hl2 hb3 hz hz1
  go_wp2
  exact bodyPost_ret (v := .agg ([.slice none 0 0, .slice none 0 0, .slice (some ⟨g, 0, none⟩) 1 c2] : List Value).toArray) (by simp [results, Try.results18, go_sem, q0, q1, q2]) rfl HF.out
end Go.Proofs.Ythmphmndpfkbcaa
