/-
  FoldKnown: its program in memory, and what the later regions read. Made by wip/genknownc.py.
-/
import Derived.Test.YthmphmndpfkbcaaKnownB
namespace Go.Proofs.Ythmphmndpfkbcaa
open Go.RowKit
abbrev innerL (n : Nat) : List Value := stL 12 0 0 ⟨#[]⟩ ⟨#[]⟩ ⟨#[]⟩ 0 0 0 (some n) 1 1 none 0 0 none 0 0
abbrev outerL (n m : Nat) : List Value := stL 8 0 0 ⟨#[]⟩ ⟨#[]⟩ ⟨#[]⟩ 0 0 0 (some n) 1 1 (some m) 1 1 none 0 0
abbrev funcL (n : Nat) : List Value := fnL ⟨#[]⟩ 0 0 0 0 0 0 (some n) 1 1
theorem prog_in (W : World) (h1 q1 : Nat) (b : Box W h1 q1 (deepL q1) shlT) (o1 o2 o3 o4 o5 : Obj) (k1 : o1 = .cells (deepL q1).toArray 27) (k2 : o2 = .cells (deepL q1).toArray 27) (k3 : o3 = .cells (innerL (W.heap.size + 1)).toArray 53)
    (k4 : o4 = .cells (outerL W.heap.size (W.heap.size + 1 + 1)).toArray 53) (k5 : o5 = .cells (funcL (W.heap.size + 1 + 1 + 1)).toArray 56) :
    W.heap.size + 1 + 1 + 1 + 1 < (((((W.alloc o1).alloc o2).alloc o3).alloc o4).alloc o5).heap.size ∧ CellsAt (((((W.alloc o1).alloc o2).alloc o3).alloc o4).alloc o5) (W.heap.size + 1 + 1 + 1 + 1) 0 (funcL (W.heap.size + 1 + 1 + 1)) ∧
    SsIn (InW (((((W.alloc o1).alloc o2).alloc o3).alloc o4).alloc o5)) (((((W.alloc o1).alloc o2).alloc o3).alloc o4).alloc o5) (some (W.heap.size + 1 + 1 + 1)) [outerS] := by
  have s1 : (W.alloc o1).heap.size = W.heap.size + 1 := by simp
  have s2 : ((W.alloc o1).alloc o2).heap.size = W.heap.size + 1 + 1 := by simp
  have s3 : (((W.alloc o1).alloc o2).alloc o3).heap.size = W.heap.size + 1 + 1 + 1 := by simp
  have s4 : ((((W.alloc o1).alloc o2).alloc o3).alloc o4).heap.size = W.heap.size + 1 + 1 + 1 + 1 := by simp
  have s5 : (((((W.alloc o1).alloc o2).alloc o3).alloc o4).alloc o5).heap.size = W.heap.size + 1 + 1 + 1 + 1 + 1 := by simp
  have r1 := alloc_at W o1
  rw [← Below.heap_alloc _ o2 _ (by omega), ← Below.heap_alloc _ o3 _ (by omega), ← Below.heap_alloc _ o4 _ (by omega), ← Below.heap_alloc _ o5 _ (by omega)] at r1
  have r2 := alloc_at (W.alloc o1) o2
  rw [← Below.heap_alloc _ o3 _ (by omega), ← Below.heap_alloc _ o4 _ (by omega), ← Below.heap_alloc _ o5 _ (by omega), s1] at r2
  have r3 := alloc_at ((W.alloc o1).alloc o2) o3
  rw [← Below.heap_alloc _ o4 _ (by omega), ← Below.heap_alloc _ o5 _ (by omega), s2] at r3
  have r4 := alloc_at (((W.alloc o1).alloc o2).alloc o3) o4
  rw [← Below.heap_alloc _ o5 _ (by omega), s3] at r4
  have r5 := alloc_at ((((W.alloc o1).alloc o2).alloc o3).alloc o4) o5
  rw [s4] at r5
  have hb : Below W.heap.size W (((((W.alloc o1).alloc o2).alloc o3).alloc o4).alloc o5) := (((((Below.refl _ _).alloc (Nat.le_refl _) _).alloc (by omega) _).alloc (by omega) _).alloc (by omega) _).alloc (by omega) _
  have hsh := b.sl.later hb
  subst k1 k2 k3 k4 k5
  generalize (((((W.alloc (.cells (deepL q1).toArray 27)).alloc (.cells (deepL q1).toArray 27)).alloc (.cells (innerL (W.heap.size + 1)).toArray 53)).alloc (.cells (outerL W.heap.size (W.heap.size + 1 + 1)).toArray 53)).alloc (.cells (funcL (W.heap.size + 1 + 1 + 1)).toArray 56)) = V at *
  refine ⟨by omega, row_cells r5, ?_⟩
  have d1 : SlIn (InW V) V (some W.heap.size) [deepT] := SlIn.one r1 (ExIn.mk (args := [_]) hsh) (by show _ < _; omega)
  have d2 : SlIn (InW V) V (some (W.heap.size + 1)) [deepT] := SlIn.one r2 (ExIn.mk (args := [_]) hsh) (by show _ < _; omega)
  have i1 : SsIn (InW V) V (some (W.heap.size + 1 + 1)) [innerS] := SsIn.one r3 (StIn.mk (e := [_]) (body := []) (els := []) d2 .nil .nil) (by show _ < _; omega)
  exact SsIn.one r4 (StIn.mk (e := [_]) (body := [_]) (els := []) d1 i1 .nil) (by show _ < _; omega)
/-- What the later regions read. -/
structure KF (w : World) (h3 h4 h5 b : Nat) (A : Option Nat) (c cc g c5 bb cb e1 ce bi ci cc5 : Nat) (C : Option Nat) (e2 ce2 : Nat) (W : World) : Prop where
  d : Own h3 (exL 0 0 ⟨#[]⟩ ⟨#[]⟩ (-16) 1 0 A 0 c) W
  e : Own h4 (exL 28 0 ⟨#[]⟩ ⟨#[]⟩ 4 1 0 (some b) 1 cc) W
  co : CIn b W
  lk : Looks g W bb cb e1 ce bi ci cc5 C e2 ce2
  pr : W.cell? ⟨h5, 2, none⟩ = some (.slice (some ⟨g, 0, none⟩) 1 c5)
  pl : h5 < W.heap.size
  below : Below w.heap.size w W
theorem KF.under {w : World} {h3 h4 h5 b : Nat} {A : Option Nat} {c cc g c5 bb cb e1 ce bi ci cc5 : Nat} {C : Option Nat} {e2 ce2 : Nat} {W W' : World} (h : KF w h3 h4 h5 b A c cc g c5 bb cb e1 ce bi ci cc5 C e2 ce2 W) (hb : Below W.heap.size W W') : KF w h3 h4 h5 b A c cc g c5 bb cb e1 ce bi ci cc5 C e2 ce2 W' := by
  have hs := hb.size
  obtain ⟨d, e, k, lk, pr, pl, bl⟩ := h
  refine ⟨d.under hb, e.under hb, k.under hb, lk.under hb, ?_, by omega, bl.trans (hb.mono bl.size)⟩
  rw [hb.cell (p := ⟨h5, 2, none⟩) pl]
  exact pr
theorem known_prog {w W w5 : World} {h1 q1 h3 h4 b : Nat} {A : Option Nat} {c cc g c5 bb cb e1 ce bi ci cc5 : Nat} {C : Option Nat} {e2 ce2 : Nat} (hn : KN w h1 q1 h3 h4 b A c cc W) (o1 o2 o3 o4 o5 o6 : Obj) (hlk : Looks g w5 bb cb e1 ce bi ci cc5 C e2 ce2)
    (hb : Below (((((W.alloc o1).alloc o2).alloc o3).alloc o4).alloc o5).heap.size (((((W.alloc o1).alloc o2).alloc o3).alloc o4).alloc o5) w5) (h6 : o6 = .cells ([.slice none 0 0, .slice none 0 0, .slice (some ⟨g, 0, none⟩) 1 c5] : List Value).toArray 49) :
    KF w h3 h4 w5.heap.size b A c cc g c5 bb cb e1 ce bi ci cc5 C e2 ce2 (w5.alloc o6) := by
  have s5 : (((((W.alloc o1).alloc o2).alloc o3).alloc o4).alloc o5).heap.size = W.heap.size + 1 + 1 + 1 + 1 + 1 := by simp
  have hz := hb.size
  have h0 : Below W.heap.size W (((((W.alloc o1).alloc o2).alloc o3).alloc o4).alloc o5) := (((((Below.refl _ _).alloc (Nat.le_refl _) _).alloc (by simp <;> omega) _).alloc (by simp <;> omega) _).alloc (by simp <;> omega) _).alloc (by simp <;> omega) _
  have h1 : Below W.heap.size W w5 := h0.trans (hb.mono (by omega))
  have h2 : Below w5.heap.size w5 (w5.alloc o6) := (Below.refl _ _).alloc (Nat.le_refl _) _
  have h3 : Below W.heap.size W (w5.alloc o6) := h1.trans (h2.mono h1.size)
  have r := alloc_at w5 o6
  subst h6
  exact ⟨hn.d.under h3, hn.e.under h3, hn.ci.under h3, hlk.under h2, row_at r 2 _ rfl, by simp, hn.below.trans (h3.mono hn.below.size)⟩
end Go.Proofs.Ythmphmndpfkbcaa
