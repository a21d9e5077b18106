/-
  isOfNumbers by its contract.
-/
import Derived.Test.YthmphmndpfkbcaaFolder
namespace Go.Proofs.Ythmphmndpfkbcaa
open Go.RowKit
theorem Below.drewN' {B : Nat} {a w : World} (h : Below B a w) (n : Nat) : Below B a (w.drewN n) := ⟨h.os, h.tape, h.output, h.size, h.block⟩
def isNumT (op : Int) (args : List Ex) : Bool := decide (4 ≤ op ∧ op ≤ 24) && (args.length == valsOf op && !(args.any fun x => x.op != 0))
theorem isNumT_1 (op : Int) (args : List Ex) (h : op < 4 ∨ 24 < op) : isNumT op args = false := by
  have : decide (4 ≤ op ∧ op ≤ 24) = false := by simpa using fun h4 => by omega
  unfold isNumT
  rw [this]
  rfl
theorem isNumT_2 (op : Int) (args : List Ex) (h : args.length ≠ valsOf op) : isNumT op args = false := by
  have : (args.length == valsOf op) = false := by simpa using h
  unfold isNumT
  rw [this]
  simp
theorem isNumT_3 (op : Int) (args : List Ex) (h4 : 4 ≤ op) (h24 : op ≤ 24) (h : args.length = valsOf op) : isNumT op args = !(args.any fun x => x.op != 0) := by
  have h1 : (args.length == valsOf op) = true := by simpa using h
  have h2 : decide (4 ≤ op ∧ op ≤ 24) = true := by simpa using ⟨h4, h24⟩
  unfold isNumT
  rw [h1, h2]
  simp
theorem ret_bool {a b : Bool} (h : a = b) : Ending.returned (.bool a) = .returned (.bool b) := by rw [h]
set_option maxRecDepth 100000 in
theorem isNum_1 (op at_ : Int) (name field : ByteArray) (n ty ref : Int) (A : Option Nat) (args : List Ex) (c fp : Nat) (w : World) (hf : Folder w fp) (hop : op < 4 ∨ 24 < op) :
    Calls Try.prog 33 #[.pointer (some ⟨fp, 0, none⟩), .agg (exL op at_ name field n ty ref A args.length c).toArray] w fun e w' => e = .returned (.bool (isNumT op args)) ∧ Below w.heap.size w w' := by
  have HI := Lib.hid (isNumT_1 op args hop)
  obtain ⟨hl, m, hm, hc, hh⟩ := hf
  have hc1 : (w.alloc (.cells (exL op at_ name field n ty ref A args.length c).toArray 27)).cell? ⟨fp, 0, none⟩ = some (.map (some m)) := by
    rw [World.cell?_alloc_lt _ _ _ hl]
    exact hc
  have hh1 : (w.alloc (.cells (exL op at_ name field n ty ref A args.length c).toArray 27)).heap[m]? = some (.map (valsE 21) 21) := by
    rw [Below.heap_alloc _ _ _ hm]
    exact hh
  have l := fun (k : Nat) => run_look_none (P := Try.prog) mtyV uInt ((w.alloc (.cells (exL op at_ name field n ty ref A args.length c).toArray 27)).drewN k) m _ _ hh1 op (.int .i64 0) (by kernel_rfl) (vals_none op 21 (by omega))
  have l0 := l 0
  change Sem.run _ _ (w.alloc _) = Result.ok _ (w.alloc _) at l0
  clear hh1 hc hh
  go_enter Try.func33, Try.ntmps33
  go_wp2
  go_quiet (fail)
  go_wp2
  go_ret
  exact ⟨ret_bool HI.out.symm, Below.drewN' ((Below.refl _ _).alloc (Nat.le_refl _) _) _⟩
set_option maxRecDepth 100000 in
theorem isNum_2 (op at_ : Int) (name field : ByteArray) (n ty ref : Int) (A : Option Nat) (args : List Ex) (c fp : Nat) (w : World) (hf : Folder w fp) (h4 : 4 ≤ op) (h24 : op ≤ 24) (hne : args.length ≠ valsOf op) :
    Calls Try.prog 33 #[.pointer (some ⟨fp, 0, none⟩), .agg (exL op at_ name field n ty ref A args.length c).toArray] w fun e w' => e = .returned (.bool (isNumT op args)) ∧ Below w.heap.size w w' := by
  have HI := Lib.hid (isNumT_2 op args hne)
  have hne2 : ((args.length : Int) == (valsOf op : Int)) = false := by
    have : ¬ (args.length : Int) = (valsOf op : Int) := by omega
    simpa using this
  obtain ⟨hl, m, hm, hc, hh⟩ := hf
  have hc1 : (w.alloc (.cells (exL op at_ name field n ty ref A args.length c).toArray 27)).cell? ⟨fp, 0, none⟩ = some (.map (some m)) := by
    rw [World.cell?_alloc_lt _ _ _ hl]
    exact hc
  have hh1 : (w.alloc (.cells (exL op at_ name field n ty ref A args.length c).toArray 27)).heap[m]? = some (.map (valsE 21) 21) := by
    rw [Below.heap_alloc _ _ _ hm]
    exact hh
  have l := fun (k : Nat) => run_look (P := Try.prog) mtyV uInt ((w.alloc (.cells (exL op at_ name field n ty ref A args.length c).toArray 27)).drewN k) m _ _ hh1 op _ _ (vals_yes op h4 h24)
  have l0 := l 0
  change Sem.run _ _ (w.alloc _) = Result.ok _ (w.alloc _) at l0
  clear hh1 hc hh hne
  go_enter Try.func33, Try.ntmps33
  go_wp2
  go_quiet (fail)
  go_wp2
  go_ret
  exact ⟨ret_bool HI.out.symm, Below.drewN' ((Below.refl _ _).alloc (Nat.le_refl _) _) _⟩
set_option maxRecDepth 100000 in
theorem isNum_3 (op at_ : Int) (name field : ByteArray) (n ty ref : Int) (b : Nat) (args : List Ex) (c fp : Nat) (S : Nat → Prop) (w : World) (hf : Folder w fp) (h4 : 4 ≤ op) (h24 : op ≤ 24) (hne : args.length = valsOf op) (hsl : SlIn S w (some b) args) (hlow : ∀ b, S b → b < w.heap.size) (hlen : args.length ≤ 1048576) :
    Calls Try.prog 33 #[.pointer (some ⟨fp, 0, none⟩), .agg (exL op at_ name field n ty ref (some b) args.length c).toArray] w fun e w' => e = .returned (.bool (isNumT op args)) ∧ Below w.heap.size w w' := by
  have HI := Lib.hid (isNumT_3 op args h4 h24 hne)
  have hne2 : ((args.length : Int) == (valsOf op : Int)) = true := by
    have : (args.length : Int) = (valsOf op : Int) := by omega
    simpa using this
  obtain ⟨hl, m, hm, hc, hh⟩ := hf
  have hc1 : (w.alloc (.cells (exL op at_ name field n ty ref (some b) args.length c).toArray 27)).cell? ⟨fp, 0, none⟩ = some (.map (some m)) := by
    rw [World.cell?_alloc_lt _ _ _ hl]
    exact hc
  have hh1 : (w.alloc (.cells (exL op at_ name field n ty ref (some b) args.length c).toArray 27)).heap[m]? = some (.map (valsE 21) 21) := by
    rw [Below.heap_alloc _ _ _ hm]
    exact hh
  have l := fun (k : Nat) => run_look (P := Try.prog) mtyV uInt ((w.alloc (.cells (exL op at_ name field n ty ref (some b) args.length c).toArray 27)).drewN k) m _ _ hh1 op _ _ (vals_yes op h4 h24)
  have l0 := l 0
  change Sem.run _ _ (w.alloc _) = Result.ok _ (w.alloc _) at l0
  have HS : Hid (∀ k, SlIn S ((w.alloc (.cells (exL op at_ name field n ty ref (some b) args.length c).toArray 27)).drewN k) (some b) args) := fun k => hsl.keep (fun _ h => h) fun b hb j v hv => by
    show (w.alloc _).cell? _ = _
    rw [World.cell?_alloc_lt _ _ _ (hlow b hb)]
    exact hv
  have HB : Hid (∀ k, Below w.heap.size w ((w.alloc (.cells (exL op at_ name field n ty ref (some b) args.length c).toArray 27)).drewN k)) := fun k => Below.drewN' ((Below.refl _ _).alloc (Nat.le_refl _) _) k
  clear hh1 hc hh hne
  go_enter Try.func33, Try.ntmps33
  go_wp2
  go_quiet (fail)
  go_wp2_with (go_at_call 54; refine (has_any args b c S _ (HS.out _) (fun b hb => by have := hlow b hb; simp; omega) hlen).mono ?_; rintro e w1 ⟨rfl, hb1⟩)
  go_ret
  exact ⟨ret_bool HI.out.symm, (HB.out _).trans (hb1.mono (by simp))⟩
theorem valsOf_pos (op : Int) (h4 : 4 ≤ op) (h24 : op ≤ 24) : 0 < valsOf op := by
  unfold valsOf
  split
  · omega
  · rw [if_pos (by omega)]
    omega
theorem isNum_any (op at_ : Int) (name field : ByteArray) (n ty ref : Int) (A : Option Nat) (args : List Ex) (c fp : Nat) (S : Nat → Prop) (w : World) (hf : Folder w fp) (hsl : SlIn S w A args) (hlow : ∀ b, S b → b < w.heap.size) :
    Calls Try.prog 33 #[.pointer (some ⟨fp, 0, none⟩), .agg (exL op at_ name field n ty ref A args.length c).toArray] w fun e w' => e = .returned (.bool (isNumT op args)) ∧ Below w.heap.size w w' := by
  by_cases hop : op < 4 ∨ 24 < op
  · exact isNum_1 op at_ name field n ty ref A args c fp w hf hop
  · by_cases hne : args.length = valsOf op
    · cases hsl with
      | nil =>
        have h0 := valsOf_pos op (by omega) (by omega)
        simp only [List.length_nil] at hne
        omega
      | row hb hS rows hc h => exact isNum_3 op at_ name field n ty ref _ args c fp S w hf (by omega) (by omega) hne (.row hb hS rows hc h) hlow hb
    · exact isNum_2 op at_ name field n ty ref A args c fp w hf (by omega) (by omega) hne
end Go.Proofs.Ythmphmndpfkbcaa
