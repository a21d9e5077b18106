/-
  WireBack answers true for all lists of things, cuts and texts, and the arguments read behind the call as they read before. Conditions: those of the given card alone (the listed variables start as the program's text lays them).
-/
import Derived.Test.YtmmdkoomceikiaaDoorReads
import Derived.Test.YtmmdkoomceikiaaDoorBackL
namespace Go.Proofs.YtmmdkoomceikiaaDoor
open Go.RowKit

theorem thingCells : Tryd.prog.cellsOf 58 = 3 := by kernel_rfl
theorem u64Cells : Tryd.prog.cellsOf 44 = 1 := by kernel_rfl
theorem strCells1 : Tryd.prog.cellsOf 9 = 1 := by kernel_rfl
/-- A list of things as it lies in memory. -/
theorem things_open {H : Type} {enc : TypeId × Value → H} {w : World} {base : Nat} {spare : Nat → Bool} {held : Bool} {fuel : Nat} {A : Option Addr} {len cap : Nat} {x : DataW H × List MemPlace} (h : DataW.trod enc Tryd.prog w base spare held fuel 54 [.slice A len cap] = some x) :
    ∃ l : List Th, l.length = len ∧ len ≤ cap ∧ ThingsAt w w.heap.size A l ∧ ∀ y ∈ l, y.1 < 256 ∧ y.2.1 < 18446744073709551616 ∧ y.2.2.size ≤ 9223372036854775807 := by
  rcases DataW.trod_slice Tryd.underlying54 h with ⟨h0, _⟩ | ⟨a, len', cap', elems, rest, n, _, hcs, _, _, hlc, _, hel, hat, _⟩
  · simp at h0
    obtain ⟨rfl, rfl, rfl⟩ := h0
    exact ⟨[], rfl, Nat.le_refl _, ⟨fun _ => rfl, (fun _ h => by cases h), (fun _ h => by cases h)⟩, (fun y hy => by cases hy)⟩
  · simp at hcs
    obtain ⟨rfl, rfl, rfl⟩ := hcs
    obtain ⟨l, hl, hp⟩ := list_of (fun i (c : Th) => (w.cell? (a.add (3 * i)) = some (.int .u8 (c.1 : Int)) ∧ w.cell? (a.add (3 * i + 1)) = some (.int .u64 (c.2.1 : Int)) ∧ w.cell? (a.add (3 * i + 2)) = some (.string c.2.2)) ∧ c.1 < 256 ∧ c.2.1 < 18446744073709551616 ∧ c.2.2.size ≤ 9223372036854775807) len (fun i hi => by
      have hi2 := hat i hi
      rw [List.getElem?_eq_getElem (by omega), thingCells] at hi2
      obtain ⟨cs, hc, ht⟩ := Option.bind_eq_some_iff.1 hi2
      obtain ⟨_, _, hcells⟩ := World.cells?_some hc
      obtain ⟨xs, m, _, _, _, hxl, hf⟩ := DataW.trod_struct Tryd.underlying58 ht
      have f0 : DataW.trod enc Tryd.prog w base spare held m 5 ((cs.drop 0).take (Tryd.prog.cellsOf 5)) = xs[0]? := hf 0 _ rfl
      have f1 : DataW.trod enc Tryd.prog w base spare held m 44 ((cs.drop 1).take (Tryd.prog.cellsOf 44)) = xs[1]? := hf 1 _ rfl
      have f2 : DataW.trod enc Tryd.prog w base spare held m 9 ((cs.drop 2).take (Tryd.prog.cellsOf 9)) = xs[2]? := hf 2 _ rfl
      rw [List.getElem?_eq_getElem (by rw [hxl]; decide)] at f0 f1 f2
      obtain ⟨c1, e1, _, w1⟩ := DataW.trod_int Tryd.underlying5 f0
      obtain ⟨c2, e2, _, w2⟩ := DataW.trod_int Tryd.underlying44 f1
      obtain ⟨c3, e3, _, w3⟩ := DataW.trod_string Tryd.underlying9 f2
      rw [u8Cells] at e1
      rw [u64Cells] at e2
      rw [strCells1] at e3
      have g0 := hcells 0 (by decide)
      have g1 := hcells 1 (by decide)
      have g2 := hcells 2 (by decide)
      rw [add_twice, Nat.mul_comm i 3] at g0 g1 g2
      rw [one_of e1] at g0
      rw [one_of e2] at g1
      rw [one_of e3] at g2
      have b1 := bounds_u8 w1
      have b2 := bounds_u64 w2
      obtain ⟨k1, rfl⟩ := Int.eq_ofNat_of_zero_le b1.1
      obtain ⟨k2, rfl⟩ := Int.eq_ofNat_of_zero_le b2.1
      exact ⟨(k1, k2, c3), ⟨g0, g1, g2⟩, by show k1 < 256; omega, by show k2 < 18446744073709551616; omega, Nat.le_trans w3 (by decide)⟩)
    refine ⟨l, hl, by assumption, ⟨(fun h => by cases h), fun b hb hne => ?_, fun b hb j c hc => ?_⟩, fun y hy => ?_⟩
    · cases hb
      have h0 : 0 < l.length := Nat.pos_of_ne_zero fun h => hne (List.eq_nil_of_length_eq_zero h)
      have := (hp 0 _ (List.getElem?_eq_getElem h0)).1.1
      simpa only [addr_add_block] using World.block_lt_of_cell? _ _ this
    · cases hb
      exact (hp j c hc).1
    · obtain ⟨i, hi, rfl⟩ := List.mem_iff_getElem.1 hy
      exact (hp i _ (List.getElem?_eq_getElem hi)).2
end Go.Proofs.YtmmdkoomceikiaaDoor
namespace Go.Proofs.YtmmdkoomceikiaaDoor.lawBack
open Go.ChangeShapes Go.WideShapes Go.ChangeAt Go.RowKit
open Go.ChangeMaps (open_string shut_string)

theorem laid_out : laidOutB Tryd.prog = true := by kernel_rfl

theorem laid_met (os : Os) : laidMetH Tryd.prog Rows.wireBackRow.laid ((laidWorld os).forCall (fun _ _ => 0) ⟨#[], #[.slice none 0 0, .int .u16 0, .string ⟨#[]⟩], []⟩).memory :=
  laidMetH_of_parts (laidMet_of_run' 8 (by kernel_rfl) (by kernel_rfl)) (by kernel_rfl)
theorem reads (os : Os) {H : Type} (enc : TypeId × Value → H) : ∃ places, DataW.whole enc Tryd.prog ((laidWorld os).forCall (fun _ _ => 0) ⟨#[], #[.slice none 0 0, .int .u16 0, .string ⟨#[]⟩], []⟩).memory Tryd.f5.params.toList Rows.wireBackSpec.vars false #[Value.slice none 0 0, Value.int .u16 0, Value.string ⟨#[]⟩].toList 8 = some ([.nil, .lit (.int .u16 0), .lit (.string [])], [], places) :=
  ⟨[], by kernel_rfl⟩

set_option maxRecDepth 100000 in
theorem contract (H : Type) (enc : TypeId × Value → H) (W : World) (base : Nat) (args : Array Value) (ds gs : List (DataW H)) (before : List MemPlace)
    (hval : ∀ (j : Nat) t v, Tryd.f5.params[j]? = some t → args[j]? = some v → Value.okWide Tryd.prog W .any base t v)
    (hW : DataW.Whole enc Tryd.prog Tryd.f5.params.toList Rows.wireBackSpec.vars false W args.toList ds gs before) (hL : laidMetH Tryd.prog Rows.wireBackRow.laid W) :
    Calls Tryd.prog 5 args W fun e W' => ∃ v, e = .returned v ∧ Rows.wireBackSpec.post enc Tryd.prog Tryd.f5 false true false false W args v W' := by
  have hW' := hW
  obtain ⟨p, q, hA0, hV, rfl, hfz, hnd⟩ := hW
  have hA : DataW.TrodAll enc Tryd.prog W 0 (fun _ => true) true Tryd.f5.params.toList args.toList ds p := hA0
  rw [Tryd.params5] at hA hval
  obtain ⟨v0, vs0, d0, ds0, p0, q0, hargs, rfl, rfl, h0, r0⟩ := trodAll_cons hA
  obtain ⟨v1, vs1, d1, ds1, p1, q1, rfl, rfl, rfl, h1, r1⟩ := trodAll_cons r0
  obtain ⟨v2, vs2, d2, ds2, p2, q2, rfl, rfl, rfl, h2, r2⟩ := trodAll_cons r1
  obtain ⟨rfl, rfl, rfl⟩ := trodAll_nil r2
  obtain rfl : args = #[v0, v1, v2] := by cases args; simp_all
  obtain ⟨rfl, rfl⟩ := trodVars_none hV
  obtain ⟨x, rfl, rfl, rfl, wx⟩ := open_int Tryd.underlying55 (hval 1 55 v1 rfl rfl) h1
  obtain ⟨s, rfl, rfl, rfl, hs⟩ := open_string Tryd.underlying9 (hval 2 9 v2 rfl rfl) h2
  obtain ⟨a0, len, cap, rfl⟩ := okWide_slice Tryd.underlying54 (hval 0 54 v0 rfl rfl)
  clear hA0
  simp only [List.append_nil] at hW'
  have bx := bounds_u16 wx
  obtain ⟨N, rfl⟩ := Int.eq_ofNat_of_zero_le bx.1
  have bN : N < 65536 := by omega
  clear bx
  have hsz : s.size ≤ 9223372036854775807 := Nat.le_trans hs (by decide)
  have hlt : ∀ y ∈ p0, y.block < W.heap.size := fun y hy => by simpa using hW'.lt y (by simp [hy])
  have h0k := h0
  have fin : ∀ e W', (e = Ending.returned (.bool true) ∧ Below W.heap.size W W') →
      ∃ v, e = Ending.returned v ∧ Rows.wireBackSpec.post enc Tryd.prog Tryd.f5 false true false false W #[.slice a0 len cap, .int .u16 (N : Int), .string s] v W' := by
    intro e W' ⟨he, hb⟩
    subst he
    refine ⟨_, rfl, _, _, _, [], p0 ++ ([] ++ ([] ++ [])), [], hW', ?_, ?_, ?_, hb.frame _, fun h => by cases h⟩
    · exact trodAll_cons_mk (shut_bool Tryd.underlying4 _) trodAll_mk0
    · exact trodAll_cons_mk (Below.trod laid_out (by kernel_rfl) (of_decide_eq_true (by kernel_rfl)) h0k hb hlt) (trodAll_cons_mk (shut_int Tryd.underlying55 wx) (trodAll_cons_mk (shut_string Tryd.underlying9 hs) trodAll_mk0))
    · rfl
  obtain ⟨fuel, hf⟩ := h0
  obtain ⟨l, hl, hlc, hC, hr⟩ := things_open hf
  exact (back_all a0 len cap N l s W (laid_of hL) hC hl hlc hsz bN hr).mono fin

set_option maxRecDepth 100000 in
theorem lifted (os : Os) (started : os.Started) (H : Type) (enc : TypeId × Value → H) (F : Stop.Interp) :
    ReturnsInHanded {} Tryd.checked os 5 .any ((OpenSpec.ofChange Rows.wireBackSpec).preRow enc Tryd.prog Tryd.f5 Rows.wireBackRow.domain false Rows.wireBackRow.laid) (((OpenSpec.ofChange Rows.wireBackSpec).at F).post enc Tryd.prog Tryd.f5 false true false false) := by
  obtain ⟨places, hx⟩ := reads os enc
  refine returnsInHanded_of_row (C := Tryd.checked) (s := OpenSpec.ofChange Rows.wireBackSpec) rbOwn started (by kernel_rfl) Tryd.func5
    (witness_row_at (enc := enc) (C := Tryd.checked) false (laidWorld os) #[.slice none 0 0, .int .u16 0, .string ⟨#[]⟩] rfl (by kernel_rfl) (by kernel_rfl) (by kernel_rfl)
      (OpenSpec.preRow_of_cond 8 hx (by kernel_rfl) (fun k hk => by cases hk) (by kernel_rfl) (laid_met os))) ?_
  intro W base args ds gs before hval hW _ _ _ hL _ _
  exact contract H enc W base args ds gs before hval hW hL

theorem said : Rows.WireBackSaid :=
  OpenClaim.holds_of_cond 5 Tryd.f5 rfl rfl rfl rfl rfl rfl rfl ⟨rfl, rfl, rfl, rfl, rfl⟩ rfl rfl rfl rfl rfl (by kernel_rfl) Tryd.func5 (by kernel_rfl)
    (of_decide_eq_true (by kernel_rfl)) (by unfold Func.isWrapper; first | (rw [if_pos (by decide +kernel)]; kernel_rfl) | (rw [if_neg (by decide +kernel)]; exact ⟨rfl, rfl⟩))
    (fun os started H enc _ F => by rw [OpenClaim.pre_eq_preRow]; exact lifted os started H enc F)

/-- No parameter wants a stand-in; the program's own looks are as the card has them. -/
theorem plain (f : FuncId) (fn : Func) (hf : Tryd.pinned.checked.prog.funcNamed "plover/ploverlaw01.WireBack" = some f) (hfn : Tryd.pinned.checked.prog.funcs[f]? = some fn) :
    true = Tryd.pinned.checked.prog.looks [] ∧ ∀ (j : Nat) t, fn.params[j]? = some t → Tryd.pinned.checked.prog.wantsStandIn t = false := by
  obtain rfl : f = 5 := Option.some.inj ((show Tryd.prog.funcNamed "plover/ploverlaw01.WireBack" = some 5 by kernel_rfl).symm.trans hf) |>.symm
  obtain rfl : fn = Tryd.f5 := (Option.some.inj (Tryd.func5.symm.trans hfn)).symm
  refine ⟨by kernel_rfl, fun j t ht => ?_⟩
  rw [Tryd.params5] at ht
  have ht' := Array.mem_of_getElem? ht
  simp at ht'
  rcases ht' with rfl | rfl | rfl
  · exact (show Tryd.prog.wantsStandIn 54 = false by kernel_rfl)
  · exact (show Tryd.prog.wantsStandIn 55 = false by kernel_rfl)
  · exact (show Tryd.prog.wantsStandIn 9 = false by kernel_rfl)

theorem card : Rows.WireBackCardSaid :=
  Claim7.holds_tied_plain_at .later [] _ _ _ _ said (fun _ h => by cases h) (by kernel_rfl) (fun _ h => by cases h) wireBack_row_tie rfl ⟨rfl, rfl⟩ (by kernel_rfl) rfl plain (by kernel_rfl)
end Go.Proofs.YtmmdkoomceikiaaDoor.lawBack
