/-
  FoldKnown: what its last region reads. Made by wip/genknownd.py.
-/
import Derived.Test.YthmphmndpfkbcaaKnownC
import Derived.Test.YthmphmndpfkbcaaLawF
namespace Go.Proofs.Ythmphmndpfkbcaa
open Go.RowKit
theorem cells_at {W : World} {b : Nat} {l : List Value} (h : CellsAt W b 0 l) (j : Nat) (v : Value) (hv : l[j]? = some v) : W.cell? ⟨b, j, none⟩ = some v := by
  have := h j v hv
  rwa [Nat.zero_add] at this
/-- What the last region reads. -/
structure KG (w : World) (h3 h4 h6 b cc e1 ce bi ci e2 ce2 : Nat) (W : World) : Prop where
  d0 : W.cell? ⟨h3, 0, none⟩ = some (.int .i64 0)
  d4 : W.cell? ⟨h3, 4, none⟩ = some (.int .i64 (-16))
  d5 : W.cell? ⟨h3, 5, none⟩ = some (.int .i64 1)
  c0 : W.cell? ⟨h4, 0, none⟩ = some (.int .i64 28)
  c7 : W.cell? ⟨h4, 7, none⟩ = some (.slice (some ⟨b, 0, none⟩) 1 cc)
  b0 : W.cell? ⟨b, 0, none⟩ = some (.int .i64 0)
  b4 : W.cell? ⟨b, 4, none⟩ = some (.int .i64 3)
  s9 : W.cell? ⟨h6, 9, none⟩ = some (.slice (some ⟨e1, 0, none⟩) 1 ce)
  s10 : W.cell? ⟨h6, 10, none⟩ = some (.slice (some ⟨bi, 0, none⟩) 1 ci)
  e4 : W.cell? ⟨e1, 4, none⟩ = some (.int .i64 (-16))
  i9 : W.cell? ⟨bi, 9, none⟩ = some (.slice (some ⟨e2, 0, none⟩) 1 ce2)
  k0 : W.cell? ⟨e2, 0, none⟩ = some (.int .i64 0)
  lh3 : h3 < W.heap.size
  lh4 : h4 < W.heap.size
  lb : b < W.heap.size
  lh6 : h6 < W.heap.size
  le1 : e1 < W.heap.size
  lbi : bi < W.heap.size
  le2 : e2 < W.heap.size
  below : Below w.heap.size w W
theorem KG.under {w : World} {h3 h4 h6 b cc e1 ce bi ci e2 ce2 : Nat} {W W' : World} (h : KG w h3 h4 h6 b cc e1 ce bi ci e2 ce2 W) (hb : Below W.heap.size W W') : KG w h3 h4 h6 b cc e1 ce bi ci e2 ce2 W' := by
  have hs := hb.size
  obtain ⟨d0, d4, d5, c0, c7, b0, b4, s9, s10, e4, i9, k0, lh3, lh4, lb, lh6, le1, lbi, le2, bw⟩ := h
  refine ⟨?_, ?_, ?_, ?_, ?_, ?_, ?_, ?_, ?_, ?_, ?_, ?_, by omega, by omega, by omega, by omega, by omega, by omega, by omega, bw.trans (hb.mono bw.size)⟩
  · rw [hb.cell (p := ⟨h3, 0, none⟩) lh3]
    exact d0
  · rw [hb.cell (p := ⟨h3, 4, none⟩) lh3]
    exact d4
  · rw [hb.cell (p := ⟨h3, 5, none⟩) lh3]
    exact d5
  · rw [hb.cell (p := ⟨h4, 0, none⟩) lh4]
    exact c0
  · rw [hb.cell (p := ⟨h4, 7, none⟩) lh4]
    exact c7
  · rw [hb.cell (p := ⟨b, 0, none⟩) lb]
    exact b0
  · rw [hb.cell (p := ⟨b, 4, none⟩) lb]
    exact b4
  · rw [hb.cell (p := ⟨h6, 9, none⟩) lh6]
    exact s9
  · rw [hb.cell (p := ⟨h6, 10, none⟩) lh6]
    exact s10
  · rw [hb.cell (p := ⟨e1, 4, none⟩) le1]
    exact e4
  · rw [hb.cell (p := ⟨bi, 9, none⟩) lbi]
    exact i9
  · rw [hb.cell (p := ⟨e2, 0, none⟩) le2]
    exact k0
theorem known_last {w W : World} {h3 h4 h5 b : Nat} {A : Option Nat} {c cc g c5 bb cb e1 ce bi ci cc5 : Nat} {C : Option Nat} {e2 ce2 : Nat} (hf : KF w h3 h4 h5 b A c cc g c5 bb cb e1 ce bi ci cc5 C e2 ce2 W) (o : Obj) (ho : o = .cells (stL 8 0 0 ⟨#[]⟩ ⟨#[]⟩ ⟨#[]⟩ 0 0 0 (some e1) 1 ce (some bi) 1 ci C 0 cc5).toArray 53) :
    KG w h3 h4 W.heap.size b cc e1 ce bi ci e2 ce2 (W.alloc o) := by
  have hb : Below W.heap.size W (W.alloc o) := (Below.refl _ _).alloc (Nat.le_refl _) _
  obtain ⟨d, e, k, lk, pr, pl, bl⟩ := hf.under hb
  obtain ⟨k1, k2, k3⟩ := k
  obtain ⟨m1, m2, m3, m4, m5, n1, n2, n3, n4, n5⟩ := lk
  have r := alloc_at W o
  subst ho
  exact ⟨row_at d.2 0 _ rfl, row_at d.2 4 _ rfl, row_at d.2 5 _ rfl, row_at e.2 0 _ rfl, row_at e.2 7 _ rfl, k2, k3, row_at r 9 _ rfl, row_at r 10 _ rfl, m3, m4, m5, d.1, e.1, k1, by simp, n3, n4, n5, bl⟩
theorem lawBinN (w : World) : Calls Try.prog 15 #[.int .i64 0, .int .i64 1, .int .i32 5, .int .i32 6, .int .i32 0] w fun e w' => e = .returned (.bool true) ∧ Below w.heap.size w w' := by
  go_enter Try.func15, Try.ntmps15
  go_wp2_with (go_at_call 14; refine (binN 1 5 6 _ (by decide) (by decide) (by decide) (by decide)).mono ?_; rintro e w1 ⟨rfl, hb1⟩)
  go_ret
  exact ⟨rfl, hb1⟩
theorem un7_at (a r : Int) (w : World) (ha : -2147483648 ≤ a) (ha2 : a ≤ 2147483647) (hr : wrapT 1 a = r) :
    Calls Try.prog 16 #[.int .i64 7, .int .i64 1, .int .i32 a] w fun e w' => e = .returned (.int .i32 r) ∧ Below w.heap.size w w' := by
  have h : unV 7 1 a = r := by simp [unV, hr]
  rw [← h]
  exact un7 1 a w ha ha2
end Go.Proofs.Ythmphmndpfkbcaa
