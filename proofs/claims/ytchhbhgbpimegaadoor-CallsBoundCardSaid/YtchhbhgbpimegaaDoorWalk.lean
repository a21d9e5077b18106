/-
  The law's own walk(): the greatest need of a function; and Same of two equal rows.
-/
import Derived.Test.YtchhbhgbpimegaaDoorDeepP
namespace Go.Proofs.YtchhbhgbpimegaaDoor
open Go.RowKit
set_option linter.unusedVariables false
set_option maxRecDepth 100000 in
set_option maxHeartbeats 2000000 in
theorem same_eq (l : List Int) (u v : Value) (w : World) (hu : IntsIs w u l) (hv : IntsIs w v l) (hl : l.length ≤ 1048576) :
    Calls Tryd.prog 10 #[u, v] w fun e w' => e = .returned (.bool true) ∧ Below w.heap.size w w' := by
  obtain ⟨A, c, rfl, ha⟩ := hu
  obtain ⟨B, d, rfl, hb⟩ := hv
  have HA := Lib.hid ha
  have HB := Lib.hid hb
  clear ha hb
  go_enter Tryd.func10, Tryd.ntmps10
  go_wp2
  go_loopw [5] (fun i wr => ∃ k : Nat, k ≤ l.length ∧ i = .int .i64 k ∧ Below w.heap.size w wr) (fun i _ => l.length - (intOf i).toNat)
  case atStart => exact ⟨0, by omega, rfl, Below.refl _ _⟩
  case round =>
    obtain ⟨k, hk, rfl, hbw⟩ := hrel
    by_cases hlt : k < l.length
    · have hx : l[k]? = some l[k] := List.getElem?_eq_getElem hlt
      obtain ⟨b1, rfl, h1⟩ := HA.out k _ hx
      obtain ⟨b2, rfl, h2⟩ := HB.out k _ hx
      have c1 := cell_below h1 hbw
      have c2 := cell_below h2 hbw
      have hlt2 : (k : Int) < (l.length : Int) := by omega
      have HBW := Lib.hid hbw
      clear h1 h2 hbw hx
      generalize l[k] = x at *
      go_wp2
      go_quiet (fail)
      go_wp2
      go_roundw
      case rel => exact ⟨k + 1, by omega, by go_num, Below.drewN' HBW.out _⟩
      case measure =>
        simp [intOf]
        omega
    · obtain rfl : k = l.length := by omega
      go_wp2
      go_ret
      exact ⟨rfl, hbw⟩
set_option maxRecDepth 100000 in
set_option maxHeartbeats 2000000 in
theorem walk_any (n : Nat) (G : Nat → List Nat) (sz : List Int) (D : Nat → Int) (hl : ∀ f, f < n → ∀ c ∈ G f, c < f) (hn : sz.length = n) (hlen : ∀ f, f < n → (G f).length ≤ 1048576) (hD : ∀ f, f < n → D f = sz.getD f 0 + ((G f).map D).foldl max 0) (hD1 : ∀ f, 0 ≤ D f ∧ D f ≤ 64000) (v sv : Value) (hS : ∀ x ∈ sz, 0 ≤ x ∧ x ≤ 1000) :
    ∀ (f : Nat) (w : World), f < n → GraphIs w v n G → IntsIs w sv sz → Calls Tryd.prog 17 #[v, sv, .int .i64 f] w fun e w' => e = .returned (.int .i64 (D f)) ∧ Below w.heap.size w w' := by
  intro f
  induction f using Nat.strongRecOn with
  | ind f ih =>
    intro w hf hg hs
    have IH : Hid (∀ c, c ∈ G f → ∀ W, Below w.heap.size w W → Calls Tryd.prog 17 #[v, sv, .int .i64 c] W fun e w' => e = .returned (.int .i64 (D c)) ∧ Below W.heap.size W w') := fun c hc W hb => by
      have hcf := hl f hf c hc
      exact ih c hcf W (by omega) (hg.below hb) (hs.below hb)
    obtain ⟨A, c, rfl, hrows⟩ := hg
    obtain ⟨gb, u, rfl, hu, A', c', rfl, hrow⟩ := hrows f hf
    obtain ⟨B, d, rfl, hints⟩ := hs
    have hx : sz[f]? = some (sz.getD f 0) := by
      have h1 : f < sz.length := by omega
      simp [h1]
    obtain ⟨sb, rfl, hsc⟩ := hints f _ hx
    have hsx := hS _ (List.mem_of_getElem? hx)
    have hlf := hlen f hf
    have HROW := Lib.hid hrow
    have HDF := Lib.hid (hD f hf)
    have hDf := hD1 f
    have HD1 := Lib.hid hD1
    have hf1 : (f : Int) < (n : Int) := by omega
    have HU := Lib.hid hu
    have HSC := Lib.hid hsc
    have hf2 : (f : Int) < (sz.length : Int) := by omega
    clear ih hrows hrow hints hx hl hlen hD hS hD1 hu hsc hn
    generalize sz.getD f 0 = sf at *
    go_enter Tryd.func17, Tryd.ntmps17
    go_wp2
    go_loopw [7, 8] (fun q i wr => ∃ k : Nat, k ≤ (G f).length ∧ i = .int .i64 k ∧ q = .int .i64 (((G f).take k).map D |>.foldl max 0) ∧ Below w.heap.size w wr) (fun _ i _ => (G f).length - (intOf i).toNat)
    case atStart => exact ⟨0, by omega, rfl, rfl, Below.refl _ _⟩
    case round =>
      obtain ⟨k, hk, rfl, rfl, hb⟩ := hrel
      have c1 := cell_below HU.out hb
      by_cases hlt : k < (G f).length
      · obtain ⟨x, hx⟩ : ∃ x, (G f)[k]? = some x := ⟨_, List.getElem?_eq_getElem hlt⟩
        obtain ⟨b, rfl, hc⟩ := HROW.out k x hx
        have c2 := cell_below hc hb
        simp only [iv] at c2
        have HW := Lib.hid (IH.out x (List.mem_of_getElem? hx) _ hb)
        have hlt2 : (k : Int) < ((G f).length : Int) := by omega
        have HTK : Hid ((((G f).take (k + 1)).map D).foldl max 0 = max ((((G f).take k).map D).foldl max 0) (D x)) := by
          rw [take_snoc _ _ _ hx, List.map_append, List.foldl_append]
          exact rfl
        have HB := Lib.hid hb
        clear hx hc hb
        generalize (((G f).take k).map D).foldl max 0 = m at *
        go_wp2_with (go_at_call 17; with_reducible refine HW.out.mono ?_; rintro e w' ⟨rfl, hb'⟩; have HB' := Lib.hid hb'; clear hb')
        go_roundw
        case rel => exact ⟨k + 1, by omega, by go_num, by rw [HTK.out]; exact congrArg (Value.int .i64) (by split <;> omega), HB.out.trans (HB'.out.mono HB.out.size)⟩
        case measure =>
          simp [intOf]
          omega
      · obtain rfl : k = (G f).length := by omega
        have c3 := cell_below HSC.out hb
        rw [List.take_length]
        have hsum : IntKind.i64.wrap (sf + ((G f).map D).foldl max 0) = D f := by
          rw [← HDF.out, IntKind.wrap_i64]
          omega
        go_wp2
        go_ret
        exact ⟨rfl, hb⟩
end Go.Proofs.YtchhbhgbpimegaaDoor
