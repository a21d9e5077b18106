/-
  The law's own made: a text of pieces, by its contract: some text of 2000 bytes at most. No condition.
-/
import Derived.Test.YtmebcenjghagoaaGreatDoorNumAt
import Derived.Lib.OthersKept
import Derived.Test.YtmebcenjghagoaaGreatDoorBuild
namespace Go.Proofs.YtmebcenjghagoaaGreatDoor
open Go.RowKit

/-- A slice of bytes as it lies in memory. -/
structure RdB (w : World) (B : Nat) (A : Option Addr) (l : List Nat) : Prop where
  none_ : A = none → l = []
  low : ∀ a, A = some a → l ≠ [] → a.block < B
  cells : ∀ a, A = some a → ∀ (j x : Nat), l[j]? = some x → w.cell? (a.add j) = some (.int .u8 (x : Int))
theorem RdB.nil_ (w : World) (B : Nat) : RdB w B none [] := ⟨fun _ => rfl, (fun _ h => by cases h), (fun _ h => by cases h)⟩
theorem add_block_ (a : Addr) (j : Nat) : (a.add j).block = a.block := by unfold Addr.add; split <;> rfl
theorem RdB.below {w w' : World} {B B' : Nat} {A : Option Addr} {l : List Nat} (h : RdB w B A l) (hb : Below B' w w') (hB : B ≤ B') : RdB w' B A l :=
  ⟨h.none_, h.low, fun a ha j x hx => (hb.cell (p := a.add j) (by have := h.low a ha (by rintro rfl; simp at hx); rw [add_block_]; omega)).trans (h.cells a ha j x hx)⟩
def piecesL : List ByteArray := [⟨#[120]⟩, ⟨#[119, 104, 105, 108, 101]⟩, ⟨#[95, 97, 57]⟩, ⟨#[119, 49, 54]⟩, ⟨#[48]⟩, ⟨#[49, 50]⟩, ⟨#[48, 120]⟩, ⟨#[48, 120, 49, 102]⟩, ⟨#[52, 50, 57, 52, 57, 54, 55, 50, 57, 53]⟩, ⟨#[52, 50, 57, 52, 57, 54, 55, 50, 57, 54]⟩, ⟨#[97, 98, 99, 100, 101, 102, 103, 104, 105, 106, 107, 108, 109, 110, 111, 112]⟩, ⟨#[60]⟩, ⟨#[60, 60]⟩, ⟨#[62]⟩, ⟨#[61]⟩, ⟨#[61, 61]⟩, ⟨#[33]⟩, ⟨#[33, 61]⟩, ⟨#[47]⟩, ⟨#[47, 47]⟩, ⟨#[123]⟩, ⟨#[125]⟩, ⟨#[40]⟩, ⟨#[41]⟩, ⟨#[91]⟩, ⟨#[93]⟩, ⟨#[59]⟩, ⟨#[58]⟩, ⟨#[44]⟩, ⟨#[46]⟩, ⟨#[43]⟩, ⟨#[45]⟩, ⟨#[42]⟩, ⟨#[37]⟩, ⟨#[38]⟩, ⟨#[94]⟩, ⟨#[124]⟩, ⟨#[126]⟩, ⟨#[32]⟩, ⟨#[32]⟩, ⟨#[9]⟩, ⟨#[10]⟩, ⟨#[36]⟩, ⟨#[0]⟩, ⟨#[255]⟩, ⟨#[48, 88, 49]⟩, ⟨#[57, 122]⟩, ⟨#[47, 47, 32, 101, 110, 100, 10]⟩]
def piecesA : Array Value := #[.string ⟨#[120]⟩, .string ⟨#[119, 104, 105, 108, 101]⟩, .string ⟨#[95, 97, 57]⟩, .string ⟨#[119, 49, 54]⟩, .string ⟨#[48]⟩, .string ⟨#[49, 50]⟩, .string ⟨#[48, 120]⟩, .string ⟨#[48, 120, 49, 102]⟩, .string ⟨#[52, 50, 57, 52, 57, 54, 55, 50, 57, 53]⟩, .string ⟨#[52, 50, 57, 52, 57, 54, 55, 50, 57, 54]⟩, .string ⟨#[97, 98, 99, 100, 101, 102, 103, 104, 105, 106, 107, 108, 109, 110, 111, 112]⟩, .string ⟨#[60]⟩, .string ⟨#[60, 60]⟩, .string ⟨#[62]⟩, .string ⟨#[61]⟩, .string ⟨#[61, 61]⟩, .string ⟨#[33]⟩, .string ⟨#[33, 61]⟩, .string ⟨#[47]⟩, .string ⟨#[47, 47]⟩, .string ⟨#[123]⟩, .string ⟨#[125]⟩, .string ⟨#[40]⟩, .string ⟨#[41]⟩, .string ⟨#[91]⟩, .string ⟨#[93]⟩, .string ⟨#[59]⟩, .string ⟨#[58]⟩, .string ⟨#[44]⟩, .string ⟨#[46]⟩, .string ⟨#[43]⟩, .string ⟨#[45]⟩, .string ⟨#[42]⟩, .string ⟨#[37]⟩, .string ⟨#[38]⟩, .string ⟨#[94]⟩, .string ⟨#[124]⟩, .string ⟨#[126]⟩, .string ⟨#[32]⟩, .string ⟨#[32]⟩, .string ⟨#[9]⟩, .string ⟨#[10]⟩, .string ⟨#[36]⟩, .string ⟨#[0]⟩, .string ⟨#[255]⟩, .string ⟨#[48, 88, 49]⟩, .string ⟨#[57, 122]⟩, .string ⟨#[47, 47, 32, 101, 110, 100, 10]⟩]
theorem piecesA_eq : piecesA = (piecesL.map Value.string).toArray := rfl
theorem piecesL_len : piecesL.length = 48 := rfl
theorem pieces_size : ∀ x ∈ piecesL, x.size ≤ 16 := by decide
theorem pieces_any (w : World) : Calls Tryz.prog 26 #[] w fun e w' => e = .returned (.slice (some ⟨w.heap.size, 0, none⟩) 48 48) ∧ w' = w.alloc (.cells piecesA 9) := by
  go_enter Tryz.func26, Tryz.ntmps26
  go_wp2
  go_ret
  exact ⟨rfl, rfl⟩
/-- Some text. -/
def MadeAns (w : World) (e : Ending) (w' : World) : Prop := ∃ s : ByteArray, e = .returned (.string s) ∧ s.size ≤ 2000 ∧ Below w.heap.size w w'
set_option maxRecDepth 100000 in
set_option maxHeartbeats 2000000 in
theorem made_any (A : Option Addr) (n c : Nat) (l : List Nat) (w : World) (hl : l.length = n) (h256 : ∀ x ∈ l, x < 256) (hA : RdB w w.heap.size A l) :
    Calls Tryz.prog 8 #[.slice A n c] w (MadeAns w) := by
  have HA := Lib.hid hA
  have H2 := Lib.hid h256
  have HL := Lib.hid hl
  have HP := Lib.hid pieces_any
  have hln : n ≤ l.length := by omega
  clear hA h256 hl
  go_enter Tryz.func8, Tryz.ntmps8
  go_wp2_with (go_at_call 26; refine (HP.out _).mono ?_; rintro e w' ⟨rfl, rfl⟩)
  have hrow : ((w.alloc (.cells #[.pointer none, .slice none 0 0] 36)).alloc (.cells piecesA 9)).heap[w.heap.size + 1]? = some (.cells piecesA 9 (0, 0)) := alloc_at _ _ _ (by simp)
  have hb0 : ((w.alloc (.cells #[.pointer none, .slice none 0 0] 36)).alloc (.cells piecesA 9)).heap[w.heap.size]? = some (.cells #[.pointer none, .slice none 0 0] 36 (0, 0)) := by
    rw [Go.heap_alloc_old _ _ (by simp)]
    exact alloc_at _ _ _ rfl
  have hB0 : Below w.heap.size w ((w.alloc (.cells #[.pointer none, .slice none 0 0] 36)).alloc (.cells piecesA 9)) := ((Below.refl _ _).alloc (Nat.le_refl _) _).alloc (by simp) _
  generalize (w.alloc (.cells #[.pointer none, .slice none 0 0] 36)).alloc (.cells piecesA 9) = w0 at *
  have HS := Lib.hid (And.intro hrow (And.intro hb0 hB0))
  clear hrow hb0 hB0
  go_loopw [5] (fun i wr => ∃ (k : Nat) (bs : List UInt8), k ≤ 120 ∧ i = .int .i64 k ∧ Lib.IsBuilderF 36 5 w.heap.size w.heap.size (Lib.byteCells bs) wr ∧ bs.length ≤ 16 * k ∧ Below w.heap.size w wr ∧ wr.heap[w.heap.size + 1]? = some (.cells piecesA 9 (0, 0))) (fun i _ => 120 - (intOf i).toNat)
  case atStart => exact ⟨0, [], Nat.zero_le _, rfl, Or.inl ⟨Nat.le_refl _, _, HS.out.2.1, World.ownsRowF_of (World.ownsRow_nil _ _ _ _), by intro h; cases h⟩, Nat.zero_le _, HS.out.2.2, HS.out.1⟩
  case round =>
    obtain ⟨k, bs, hk, rfl, hbu, hbs, hbw, hpc⟩ := hrel
    have HBU := Lib.hid hbu
    have HBW := Lib.hid hbw
    have HPC := Lib.hid hpc
    have hz := hbw.size
    clear hbu hbw hpc
    by_cases hgo : k < n ∧ k < 120
    · obtain ⟨h1, h2⟩ := hgo
      have k1 : (k : Int) < (n : Int) := by omega
      have k2 : decide ((k : Int) < 120) = true := by simp; omega
      obtain ⟨x, hx⟩ : ∃ x, l[k]? = some x := ⟨_, List.getElem?_eq_getElem (by omega)⟩
      have hx2 := H2.out x (List.mem_of_getElem? hx)
      obtain ⟨a, rfl⟩ : ∃ a, A = some a := by
        cases A with
        | none => rw [HA.out.none_ rfl] at hx; cases hx
        | some a => exact ⟨a, rfl⟩
      have hc : wr.cell? (a.add k) = some (.int .u8 (x : Int)) := (HA.out.below HBW.out (Nat.le_refl _)).cells a rfl k x hx
      obtain ⟨j, hj⟩ : ∃ j : Nat, (x : Int) % 48 = (j : Int) := ⟨x % 48, by omega⟩
      have hj48 : j < 48 := by omega
      have hj2 : (x : Int).tmod 48 = (j : Int) := by rw [Int.tmod_eq_emod_of_nonneg (by omega)]; exact hj
      obtain ⟨p, hp⟩ : ∃ p, piecesL[j]? = some p := ⟨_, List.getElem?_eq_getElem (by rw [piecesL_len]; exact hj48)⟩
      have hps := pieces_size p (List.mem_of_getElem? hp)
      have hcp : wr.cell? ⟨w.heap.size + 1, j, none⟩ = some (.string p) := by
        rw [cell_of_row wr _ j _ _ _ HPC.out, piecesA_eq]
        simp [hp]
      have HW := Lib.hid (writeString_k w.heap.size w.heap.size (Lib.byteCells bs) p wr HBU.out (by rw [Lib.byteCells_length]; omega) hz)
      clear hx hp
      go_wp2_with (go_at_call 15; go_must (refine HW.out.mono ?_; rintro e w2 ⟨rfl, hb2, hbe, hok⟩; have HB2 := Lib.hid hb2; have HBE := Lib.hid (HBW.out.trans hbe); have HP2 := Lib.hid (hok _ _ HPC.out (by simp) (by intro c fz h; cases h)); clear hb2 hbe hok))
      go_roundw
      case rel => exact ⟨k + 1, bs ++ p.data.toList, by omega, by go_num, Or.inr (by rw [Lib.byteCells_append, ← Lib.strCells_eq]; exact HB2.out), by rw [List.length_append, ← Lib.size_eq]; omega, HBE.out, HP2.out⟩
      case measure => simp [intOf]; omega
    · have HW := Lib.hid (Tryz.Builder_String_any_f w.heap.size w.heap.size bs wr HBU.out hz)
      have hbs2 : bs.length ≤ 1920 := by omega
      by_cases h1 : k < n
      · have k1 : (k : Int) < (n : Int) := by omega
        have k2 : decide ((k : Int) < 120) = false := by simp; omega
        go_wp2_with (go_at_call 16; go_must (refine HW.out.mono ?_; rintro e w2 ⟨rfl, _, hbe⟩; have HBE := Lib.hid (HBW.out.trans hbe); clear hbe))
        go_ret
        exact ⟨_, rfl, by show bs.toArray.size ≤ 2000; simp; omega, HBE.out⟩
      · have k1 : ¬ (k : Int) < (n : Int) := by omega
        go_wp2_with (go_at_call 16; go_must (refine HW.out.mono ?_; rintro e w2 ⟨rfl, _, hbe⟩; have HBE := Lib.hid (HBW.out.trans hbe); clear hbe))
        go_ret
        exact ⟨_, rfl, by show bs.toArray.size ≤ 2000; simp; omega, HBE.out⟩
end Go.Proofs.YtmebcenjghagoaaGreatDoor
