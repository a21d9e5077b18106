/-
  each at one function. Made by wip/genfunc2.py.
-/
import Derived.Test.YthmphmndpfkbcaaFunc
namespace Go.Proofs.Ythmphmndpfkbcaa
open Go.RowKit
/-- One function lies there. -/
def OneFn (name : ByteArray) (at_ line end_ vector prio result : Int) (body : List St) (w : World) (v : Value) (w' : World) : Prop := ∃ (g c : Nat) (B : Option Nat) (cb : Nat) (S' : Nat → Prop), v = .slice (some ⟨g, 0, none⟩) 1 c ∧ CellsAt w' g 0 (fnL name at_ line end_ vector prio result B body.length cb) ∧ SsIn S' w' B (body.map foldS) ∧ (w.heap.size ≤ g ∧ g < w'.heap.size) ∧ (∀ b, S' b → w.heap.size ≤ b ∧ b < w'.heap.size) ∧ Below w.heap.size w w'
theorem info_fn : (Try.prog.info? 56).map (fun i => (i.zero, i.size, i.bytes)) = some (some (.agg #[.string ⟨#[]⟩, .int .i64 0, .int .i64 0, .int .i64 0, .int .i64 0, .int .i64 0, .slice none 0 0, .int .i64 0, .slice none 0 0]), 9, 112) := by kernel_rfl
theorem OneFn.of {name : ByteArray} {at_ line end_ vector prio result : Int} {body : List St} {w w2 w3 : World} {B : Option Nat} {cb : Nat} {S : Nat → Prop} {v' : Value} (hb : Below w.heap.size w w2) (hs : SsIn S w2 B (body.map foldS)) (hS : ∀ b, S b → w.heap.size ≤ b ∧ b < w2.heap.size)
    (hown : w3.ownsRow w.heap.size 56 9 v' (0 + 1) ([] ++ fnL name at_ line end_ vector prio result B body.length cb)) (hg : w2.grownBy w3 (Value.ownBlock (.slice none 0 0))) : OneFn name at_ line end_ vector prio result body w v' w3 := by
  have hk : ∀ b, S b → ∀ j v, w2.cell? ⟨b, j, none⟩ = some v → w3.cell? ⟨b, j, none⟩ = some v := fun b _ j v hv => hg.cell (a := ⟨b, j, none⟩) hv (by simp [Value.ownBlock])
  rcases hown.2 with ⟨_, h0⟩ | ⟨g, cap, cur, rfl, hbg, hgg, _⟩
  · omega
  · refine ⟨g, cap, B, cb, S, rfl, fun j v hv => ?_, hs.keep (fun _ h => h) hk, ⟨hbg, (Array.getElem?_eq_some_iff.1 hgg).1⟩, fun b hb => ⟨(hS b hb).1, Nat.lt_of_lt_of_le (hS b hb).2 hg.size⟩, hb.grown hg hb.size (fun k hk => by simp [Value.ownBlock] at hk)⟩
    have hc := hown.cells (g := g) rfl j v hv
    have hadd : (⟨g, 0, none⟩ : Addr).add j = ⟨g, j, none⟩ := by unfold Addr.add; split <;> simp_all
    rw [hadd] at hc
    rw [Nat.zero_add]
    exact hc
set_option maxRecDepth 100000 in
set_option maxHeartbeats 1000000 in
theorem eachF_one (name : ByteArray) (at_ line end_ vector prio result : Int) (B : Option Nat) (cb : Nat) (body : List St) (b c fp : Nat) (S : Nat → Prop) (w : World) (hf : Folder w fp) (hc : CellsAt w b 0 (fnL name at_ line end_ vector prio result B body.length cb)) (hsb : SsIn S w B body) (hlow : ∀ b, S b → b < w.heap.size) :
    Calls Try.prog 52 #[.slice (some ⟨b, 0, none⟩) 1 c, .func (.func 53) #[.pointer (some ⟨fp, 0, none⟩)] #[]] w fun e w' => ∃ v, e = .returned v ∧ OneFn name at_ line end_ vector prio result body w v w' := by
  obtain ⟨i0, hi, hz0, hz1, hz2⟩ := info_parts info_fn
  have HC := Lib.hid hc
  have HSB := Lib.hid hsb
  have HLOW := Lib.hid hlow
  clear hc hsb hlow
  go_enter Try.func52, Try.ntmps52
  go_wp2
  go_loopw [5, 10] (fun v iv wr => (iv = .int .i64 0 ∧ v = .slice none 0 0 ∧ w = wr) ∨ (iv = .int .i64 1 ∧ OneFn name at_ line end_ vector prio result body w v wr)) (fun _ iv _ => (1 - intOf iv).toNat)
  case atStart => exact .inl ⟨rfl, rfl, rfl⟩
  case round =>
    rcases hrel with ⟨rfl, rfl, rfl⟩ | ⟨rfl, hone⟩
    · go_wp2_with (first | (refine wpList_load_at rfl 56 _ rfl b 0 rfl _ _ HC.out Try.underlying56 rfl (by kernel_rfl) ?_) | (go_at_call 53; refine (fn_any name at_ line end_ vector prio result B cb body fp S _ (hf.below ((Below.refl w.heap.size w).alloc (Nat.le_refl _) _) (Nat.le_refl _)) (HSB.out.under ((Below.refl w.heap.size w).alloc (Nat.le_refl _) _) HLOW.out) (fun b hb => by have := HLOW.out b hb; simp; omega)).mono ?_; rintro e w1 ⟨B1, cb1, S1, rfl, hs1, hS1, hb1⟩; have HB1 : Hid (Below w.heap.size w w1) := ((Below.refl w.heap.size w).alloc (Nat.le_refl _) _).trans (hb1.mono (by simp)); have HS1 := Lib.hid hs1; have HL1 := Lib.hid hS1; have hsz1 := HB1.out.size; clear hs1 hS1 hb1) | (at_builtin; refine wpList_append_blk _ rfl _ _ 47 rfl w.heap.size 56 i0 _ 9 112 Try.underlying47 hi hz0 hz1 hz2 rfl (by decide) _ 0 [] rfl (World.ownsRow_nil _ _ _ _) ⟨w1.heap.size, 0, none⟩ 1 1 (fnL name at_ line end_ vector prio result B1 body.length cb1) rfl rfl ?c2 ?c3 ?c4 ?c5 ?c6 ?_; (case c2 => exact new_cells w1 (fnL name at_ line end_ vector prio result B1 body.length cb1) _); (case c3 => exact fnL_one _ _ _ _ _ _ _ _ _ _); (case c4 => unfold maxLen; omega); (case c5 => omega); (case c6 => simp; omega); intro v' w3 hown3 hg3 hbl3; have HO := Lib.hid (OneFn.of (HB1.out.alloc HB1.out.size _) (HS1.out.under ((Below.refl w1.heap.size w1).alloc (Nat.le_refl _) _) (fun b hb => (HL1.out b hb).2)) (fun b hb => by have h := HL1.out b hb; simp at h; simp; omega) hown3 hg3); clear hown3 hg3 hbl3))
      go_roundw
      case rel => exact .inr ⟨rfl, HO.out⟩
      case measure => simp [intOf]
    · have HO := Lib.hid hone
      clear hone
      go_wp2
      go_ret
      exact ⟨_, rfl, HO.out⟩
end Go.Proofs.Ythmphmndpfkbcaa
