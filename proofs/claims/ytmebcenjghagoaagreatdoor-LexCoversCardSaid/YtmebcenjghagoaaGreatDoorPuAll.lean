/-
  The public strconv.ParseUint(t, b, 32), b 10 or 16, at a row of digits to that base, by contracts. Condition: the listed variable strconv.ErrRange holds an error.
-/
import Derived.Test.YtmebcenjghagoaaGreatDoorPu16
namespace Go.Proofs.YtmebcenjghagoaaGreatDoor
open Go.RowKit

/-- What ParseUint answers: the number; or an error that is not nil. -/
def PuAns (r : Option Nat) (w : World) (e : Ending) (w' : World) : Prop :=
  match r with
  | some v => e = .returned (.tuple #[.int .u64 (v : Int), .nilIface]) ∧ Below w.heap.size w w'
  | none => ∃ (x : Int) (N : Nat), e = .returned (.tuple #[.int .u64 x, .iface 134 (.pointer (some ⟨N, 0, none⟩))]) ∧ Below w.heap.size w w'
theorem pu10 (t : ByteArray) (hne : t.size ≠ 0) (hmax : t.size ≤ 70368744177664) (hd : ∀ i, i < t.size → isD (bAt t i) = true) (w : World) (er : ∃ te pe, w.cell? ⟨4, 0, none⟩ = some (.iface te pe)) :
    Calls Tryz.prog 79 #[.string t, .int .i64 10, .int .i64 32] w (PuAns (puS t 10 0 t.size 0) w) := by
  have hp := parse_pu t 0 0 (by omega) (fun i _ h => hd i h)
  rw [List.drop_zero] at hp
  have hb : Lib.parseUintB 32 t.data.toList = match puS t 10 0 t.size 0 with | some v => .ok v | none => .range := by
    refine Eq.trans ?_ hp
    unfold Lib.parseUintB
    rw [if_neg]
    intro h
    have := congrArg List.length h
    simp at this
    exact hne (by rw [this]; rfl)
  obtain ⟨te, pe, hv⟩ := er
  cases hr : puS t 10 0 t.size 0 with
  | some v =>
    simp only [hr] at hb
    refine (Tryz.strconv_ParseUint_10_at32_ok t (by omega) v hb w).mono ?_
    rintro e w' ⟨rfl, h⟩
    refine ⟨rfl, ?_⟩
    rcases h with rfl | rfl
    · exact Below.refl _ _
    · exact Lib.bytesWorld_below _ _ _
  | none =>
    simp only [hr] at hb
    refine (Tryz.strconv_ParseUint_10_at32_range t (by omega) hb _ w hv (Or.inr ⟨te, pe, rfl⟩)).mono ?_
    rintro e w' ⟨N, rfl, _, _, h⟩
    exact ⟨_, N, rfl, h⟩
set_option maxHeartbeats 4000000 in
set_option maxRecDepth 100000 in
theorem pu16 (t : ByteArray) (hne : t.size ≠ 0) (hmax : t.size ≤ 70368744177664) (hd : ∀ i, i < t.size → ofK 8 (bAt t i) = true) (w : World) (er : ∃ te pe, w.cell? ⟨4, 0, none⟩ = some (.iface te pe)) :
    Calls Tryz.prog 79 #[.string t, .int .i64 16, .int .i64 32] w (PuAns (puS t 16 0 t.size 0) w) := by
  have HI := ipu16 t hne hmax hd w
  obtain ⟨te, pe, hv⟩ := er
  have hb := Lib.bytesWorld_below w 5 t
  have hG : 4 < w.heap.size := World.block_lt_of_cell? w _ hv
  have hv1 : (Lib.bytesWorld w 5 t).cell? ⟨4, 0, none⟩ = some (.iface te pe) := (hb.cell (p := ⟨4, 0, none⟩) hG).trans hv
  generalize Lib.bytesWorld w 5 t = W1 at *
  have HB := Lib.hid hb
  have HT := Lib.hid (Tryz.strconv_toError_range ⟨#[80, 97, 114, 115, 101, 85, 105, 110, 116]⟩ t 16 32 (.iface te pe) W1 (by omega) hv1 (Or.inr ⟨te, pe, rfl⟩))
  clear hb hv1 hv hd
  cases hr : puS t 16 0 t.size 0 with
  | some v =>
    rw [hr] at HI
    have HI2 : Hid (Calls Tryz.prog 82 #[.string t, .int .i64 16, .int .i64 32] w fun e w' => e = .returned (.tuple #[.int .u64 (v : Int), .nilIface]) ∧ w' = W1) := HI
    clear HI hr
    go_enter Tryz.func79, Tryz.ntmps79
    go_wp2_with (go_at_call 82; refine HI2.out.mono ?_; rintro e w' ⟨rfl, rfl⟩)
    go_ret2
    exact ⟨rfl, HB.out⟩
  | none =>
    rw [hr] at HI
    have HI2 : Hid (Calls Tryz.prog 82 #[.string t, .int .i64 16, .int .i64 32] w fun e w' => e = .returned (.tuple #[.int .u64 4294967295, .iface 133 (.int .i64 1)]) ∧ w' = W1) := HI
    clear HI hr
    go_enter Tryz.func79, Tryz.ntmps79
    go_wp2_with (first | (go_at_call 82; refine HI2.out.mono ?_; rintro e w' ⟨rfl, rfl⟩) | (go_at_call 83; refine HT.out.mono ?_; rintro e w2 ⟨N, rfl, _, _, hb2⟩; have HB2 := Lib.hid (HB.out.trans (hb2.mono HB.out.size)); clear hb2))
    go_ret2
    exact ⟨_, N, rfl, HB2.out⟩
end Go.Proofs.YtmebcenjghagoaaGreatDoor
