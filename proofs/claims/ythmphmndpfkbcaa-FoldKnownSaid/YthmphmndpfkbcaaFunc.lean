/-
  The folder's function, and each at one function; Clone and each at nothing.
-/
import Derived.Test.YthmphmndpfkbcaaStmt
import Derived.Lib.SliceRun
namespace Go.Proofs.Ythmphmndpfkbcaa
open Go.RowKit
set_option maxRecDepth 100000 in
theorem cloneP_nil (w : World) : Calls Try.prog 72 #[.slice none 0 0] w fun e w' => e = .returned (.slice none 0 0) ∧ w = w' := by
  have hq := Lib.run_eql_slice_nil (P := Try.prog) w 54 _ none 0 0 0 0 Try.underlying54
  go_enter Try.func72, Try.ntmps72
  go_wp2
  go_ret
  exact ⟨rfl, rfl⟩
set_option maxRecDepth 100000 in
theorem cloneG_nil (w : World) : Calls Try.prog 51 #[.slice none 0 0] w fun e w' => e = .returned (.slice none 0 0) ∧ w = w' := by
  have hq := Lib.run_eql_slice_nil (P := Try.prog) w 46 _ none 0 0 0 0 Try.underlying46
  go_enter Try.func51, Try.ntmps51
  go_wp2
  go_ret
  exact ⟨rfl, rfl⟩
set_option maxRecDepth 100000 in
theorem eachT_nil (w : World) : Calls Try.prog 49 #[.slice none 0 0, fnV 50] w fun e w' => e = .returned (.slice none 0 0) ∧ w = w' := by
  go_enter Try.func49, Try.ntmps49
  go_wp2
  go_loopw [5, 10] (fun v iv wr => v = .slice none 0 0 ∧ iv = .int .i64 0 ∧ w = wr) (fun _ _ _ => 0)
  case atStart => exact ⟨rfl, rfl, rfl⟩
  case round =>
    obtain ⟨rfl, rfl, rfl⟩ := hrel
    go_wp2
    go_ret
    exact ⟨rfl, rfl⟩
/-- A box and the result's cells, of whatever type. -/
structure MidG (w : World) (t : TypeId) (zs cs : List Value) (W : World) : Prop where
  box : W.heap[w.heap.size]? = some (.cells cs.toArray t (0, 0))
  res : W.heap[w.heap.size + 1]? = some (.cells zs.toArray t (0, 0))
  below : Below w.heap.size w W
  size : w.heap.size + 2 ≤ W.heap.size
theorem MidG.under {w : World} {t : TypeId} {zs cs : List Value} {W W' : World} (h : MidG w t zs cs W) (hb : Below W.heap.size W W') : MidG w t zs cs W' := by
  have hs := hb.size
  have hz := h.size
  refine ⟨?_, ?_, h.below.trans (hb.mono (by omega)), by omega⟩
  · rw [hb.block _ (by omega)]
    exact h.box
  · rw [hb.block _ (by omega)]
    exact h.res
theorem MidG.drew {w : World} {t : TypeId} {zs cs : List Value} {W : World} (h : MidG w t zs cs W) : MidG w t zs cs W.drew := h.under (Below.refl _ _).drew
theorem MidG.put {w : World} {t : TypeId} {zs cs cs' : List Value} {W : World} (h : MidG w t zs cs W) : MidG w t zs cs' (W.setRow w.heap.size cs'.toArray) := by
  refine ⟨setRow_heap _ _ _ _ _ _ h.box, ?_, setRow_below h.below (Nat.le_refl _) _, by rw [setRow_size]; exact h.size⟩
  rw [setRow_other _ _ _ _ (by omega)]
  exact h.res
theorem MidG.start (w : World) (t : TypeId) (l zs : List Value) : MidG w t zs l ((w.alloc (.cells l.toArray t)).alloc (.cells zs.toArray t)) := by
  have hs1 : (w.alloc (.cells l.toArray t)).heap.size = w.heap.size + 1 := by simp
  refine ⟨?_, ?_, ((Below.refl _ _).alloc (Nat.le_refl _) _).alloc (by omega) _, by simp⟩
  · rw [Below.heap_alloc _ _ _ (by omega)]
    exact alloc_at w _
  · have h2 := alloc_at (w.alloc (.cells l.toArray t)) (.cells zs.toArray t)
    rw [hs1] at h2
    exact h2
/-- The cells of a function without parameters. -/
abbrev fnL (name : ByteArray) (at_ line end_ vector prio result : Int) (B : Option Nat) (lb cb : Nat) : List Value :=
  [.string name, .int .i64 at_, .int .i64 line, .int .i64 end_, .int .i64 vector, .int .i64 prio, .slice none 0 0, .int .i64 result, slV B lb cb]
abbrev zeroF : List Value := [.string ⟨#[]⟩, .int .i64 0, .int .i64 0, .int .i64 0, .int .i64 0, .int .i64 0, .slice none 0 0, .int .i64 0, .slice none 0 0]
/-- What function answers. -/
def FnAns (name : ByteArray) (at_ line end_ vector prio result : Int) (body : List St) (w : World) (e : Ending) (w' : World) : Prop := ∃ (B : Option Nat) (c : Nat) (S' : Nat → Prop),
  e = .returned (.agg (fnL name at_ line end_ vector prio result B body.length c).toArray) ∧ SsIn S' w' B (body.map foldS) ∧ (∀ b, S' b → w.heap.size ≤ b ∧ b < w'.heap.size) ∧ Below w.heap.size w w'
theorem fnL_one (name : ByteArray) (at_ line end_ vector prio result : Int) (B : Option Nat) (lb cb : Nat) : ∀ u ∈ fnL name at_ line end_ vector prio result B lb cb, u.oneCell' = true := by
  intro u hu
  simp only [fnL, List.mem_cons, List.not_mem_nil, or_false] at hu
  rcases hu with rfl | rfl | rfl | rfl | rfl | rfl | rfl | rfl | rfl <;> rfl
theorem FnAns.fin {name : ByteArray} {at_ line end_ vector prio result : Int} {body : List St} {w W : World} {B : Option Nat} {c : Nat} {S : Nat → Prop} {cs : List Value} (hm : MidG w 56 zeroF cs W) (h : SsIn S W B (body.map foldS)) (hn : New w W S) :
    FnAns name at_ line end_ vector prio result body w (.returned (.agg (fnL name at_ line end_ vector prio result B body.length c).toArray)) (W.setRow (w.heap.size + 1) (fnL name at_ line end_ vector prio result B body.length c).toArray) :=
  ⟨B, c, S, rfl, h.set (fun b hb => by have := hn b hb; omega), fun b hb => by rw [setRow_size]; have := hn b hb; omega, setRow_below hm.below (by omega) _⟩
set_option maxRecDepth 100000 in
set_option maxHeartbeats 1000000 in
theorem fn_any (name : ByteArray) (at_ line end_ vector prio result : Int) (B : Option Nat) (cb : Nat) (body : List St) (fp : Nat) (S : Nat → Prop) (w : World) (hf : Folder w fp) (hsb : SsIn S w B body) (hlow : ∀ b, S b → b < w.heap.size) :
    Calls Try.prog 53 #[.pointer (some ⟨fp, 0, none⟩), .agg (fnL name at_ line end_ vector prio result B body.length cb).toArray] w (FnAns name at_ line end_ vector prio result body w) := by
  have HSB := Lib.hid hsb
  have HLOW := Lib.hid hlow
  have HM := Lib.hid (MidG.start w 56 (fnL name at_ line end_ vector prio result B body.length cb) zeroF)
  clear hsb hlow
  go_enter Try.func53, Try.ntmps53
  go_wp2_with (first | (go_at_call 72; refine (cloneP_nil _).mono ?_; rintro e w' ⟨rfl, rfl⟩) | (go_at_call 73; refine (eachS_any body (fun x _ => stmt_any x) B cb fp S _ (hf.below HM.out.below (Nat.le_refl _)) (HSB.out.under HM.out.below HLOW.out) (fun b hb => by have := HLOW.out b hb; simp; omega)).mono ?_; rintro e w2 ⟨B1, cb1, Sb, rfl, hsb, hSb, hb2⟩; have HM3 := Lib.hid (HM.out.under hb2); have HB := Lib.hid hsb; have HN : Hid (New w w2 Sb) := fun b hb => (by have h := hSb b hb; simp at h; omega); clear hsb hSb hb2 HM) | (refine wpList_store_row rfl 51 _ _ rfl w.heap.size 8 rfl [slV B1 body.length cb1] rfl (by kernel_rfl) (fnL name at_ line end_ vector prio result B body.length cb) (fnL name at_ line end_ vector prio result B1 body.length cb1) 56 HM3.out.box (by show 8 + 1 ≤ 9; omega) (one_one _ rfl) rfl ?_; have HM4 := Lib.hid (HM3.out.put (cs' := (fnL name at_ line end_ vector prio result B1 body.length cb1))); have HB4 := Lib.hid (HB.out.set (g := w.heap.size) (cs := (fnL name at_ line end_ vector prio result B1 body.length cb1).toArray) (fun b hb => (by have := HN.out b hb; omega))); have HN4 : Hid (New w (w2.setRow w.heap.size (fnL name at_ line end_ vector prio result B1 body.length cb1).toArray) Sb) := HN.out.later (by rw [setRow_size]; exact Nat.le_refl _); generalize w2.setRow w.heap.size (fnL name at_ line end_ vector prio result B1 body.length cb1).toArray = w3 at *; have HR := Lib.hid (setRow_heap _ _ _ (fnL name at_ line end_ vector prio result B1 body.length cb1).toArray _ _ HM4.out.res); have HF := Lib.hid (FnAns.fin (name := name) (at_ := at_) (line := line) (end_ := end_) (vector := vector) (prio := prio) (result := result) (c := cb1) HM4.out HB4.out HN4.out); clear HM3 HB HN) | (refine wpList_load_at rfl 56 _ rfl w.heap.size 0 rfl _ _ (row_cells HM4.out.box) Try.underlying56 rfl (by kernel_rfl) ?_) | (refine wpList_store_row rfl 56 _ _ rfl (w.heap.size + 1) 0 rfl (fnL name at_ line end_ vector prio result B1 body.length cb1) rfl (by kernel_rfl) zeroF (fnL name at_ line end_ vector prio result B1 body.length cb1) 56 HM4.out.res (by show 0 + 9 ≤ 9; omega) (fnL_one _ _ _ _ _ _ _ _ _ _) rfl ?_; generalize w3.setRow (w.heap.size + 1) (fnL name at_ line end_ vector prio result B1 body.length cb1).toArray = WF at *; have q0 := row_at HR.out 0 _ rfl; have q1 := row_at HR.out 1 _ rfl; have q2 := row_at HR.out 2 _ rfl; have q3 := row_at HR.out 3 _ rfl; have q4 := row_at HR.out 4 _ rfl; have q5 := row_at HR.out 5 _ rfl; have q6 := row_at HR.out 6 _ rfl; have q7 := row_at HR.out 7 _ rfl; have q8 := row_at HR.out 8 _ rfl))
  exact bodyPost_ret (v := .agg (fnL name at_ line end_ vector prio result B1 body.length cb1).toArray) (by simp [results, Try.results53, go_sem, q0, q1, q2, q3, q4, q5, q6, q7, q8]) rfl HF.out
end Go.Proofs.Ythmphmndpfkbcaa
