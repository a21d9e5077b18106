/-
  FoldKnown: the trees of its first statements, what folding makes of them, and how they lie in memory. Made by wip/genknownf.py.
-/
import Derived.Test.YthmphmndpfkbcaaProgF
import Derived.Test.YthmphmndpfkbcaaWorks
namespace Go.Proofs.Ythmphmndpfkbcaa
open Go.RowKit
abbrev shlT : Ex := .mk 14 0 ⟨#[]⟩ ⟨#[]⟩ 0 2 0 [numT 4294967295 2, numT 4 2]
abbrev deepT : Ex := .mk 7 0 ⟨#[]⟩ ⟨#[]⟩ 0 1 0 [shlT]
abbrev subT : Ex := .mk 13 0 ⟨#[]⟩ ⟨#[]⟩ 0 2 0 [numT 5 2, numT 2 2]
abbrev cellT : Ex := .mk 28 0 ⟨#[]⟩ ⟨#[]⟩ 4 1 0 [subT]
theorem deep_folds : foldT deepT = .mk 0 0 ⟨#[]⟩ ⟨#[]⟩ (-16) 1 0 [] := by kernel_rfl
theorem cell_folds : foldT cellT = .mk 28 0 ⟨#[]⟩ ⟨#[]⟩ 4 1 0 [.mk 0 0 ⟨#[]⟩ ⟨#[]⟩ 3 2 0 []] := by kernel_rfl
abbrev innerS : St := .mk 12 0 0 ⟨#[]⟩ ⟨#[]⟩ ⟨#[]⟩ 0 0 0 [deepT] [] []
abbrev outerS : St := .mk 8 0 0 ⟨#[]⟩ ⟨#[]⟩ ⟨#[]⟩ 0 0 0 [deepT] [innerS] []
/-- What Fold answers of deep. -/
def DeepAns (W : World) (e : Ending) (w' : World) : Prop := ∃ (A : Option Nat) (c : Nat), e = .returned (.agg (exL 0 0 ⟨#[]⟩ ⟨#[]⟩ (-16) 1 0 A 0 c).toArray) ∧ Below W.heap.size W w'
theorem DeepAns.of {W : World} {e : Ending} {w' : World} (h : ExprAns deepT W e w') : DeepAns W e w' := by
  obtain ⟨op, at_, name, field, n, ty, ref, A, c, args, S, rfl, hfx, hsl, hS, hb⟩ := h
  rw [deep_folds] at hfx
  injection hfx with e1 e2 e3 e4 e5 e6 e7 e8
  subst e1 e2 e3 e4 e5 e6 e7 e8
  exact ⟨A, c, rfl, hb⟩
/-- What Fold answers of cell. -/
def CellAns (W : World) (e : Ending) (w' : World) : Prop := ∃ (b c : Nat), e = .returned (.agg (exL 28 0 ⟨#[]⟩ ⟨#[]⟩ 4 1 0 (some b) 1 c).toArray) ∧ W.heap.size ≤ b ∧ b < w'.heap.size ∧ w'.cell? ⟨b, 0, none⟩ = some (.int .i64 0) ∧ w'.cell? ⟨b, 4, none⟩ = some (.int .i64 3) ∧ Below W.heap.size W w'
theorem CellAns.of {W : World} {e : Ending} {w' : World} (h : ExprAns cellT W e w') : CellAns W e w' := by
  obtain ⟨op, at_, name, field, n, ty, ref, A, c, args, S, rfl, hfx, hsl, hS, hb⟩ := h
  rw [cell_folds] at hfx
  injection hfx with e1 e2 e3 e4 e5 e6 e7 e8
  subst e1 e2 e3 e4 e5 e6 e7 e8
  cases hsl with
  | row hl hs rows hc h =>
    rename_i b
    have hsl : SlIn S w' (some b) [.mk 0 0 ⟨#[]⟩ ⟨#[]⟩ 3 2 0 []] := .row hl hs rows hc h
    obtain ⟨_, _, _, _, _, _, _, _, _, _, _, ex, _, hx⟩ := hsl.at 0 _ rfl
    injection ex with x1 x2 x3 x4 x5 x6 x7 x8
    subst x1 x2 x3 x4 x5 x6 x7 x8
    exact ⟨b, c, rfl, (hS b hs).1, (hS b hs).2, hx 0 _ rfl, hx 4 _ rfl, hb⟩
theorem SsIn.one {S : Nat → Prop} {W : World} {b : Nat} {l : List Value} {x : St} {t : TypeId} (h : W.heap[b]? = some (.cells l.toArray t (0, 0))) (hx : StIn S W l x) (hS : S b) : SsIn S W (some b) [x] := by
  refine .row (by simp) hS (fun _ => l) (fun i hi j v hv => ?_) (fun i y hy => ?_)
  · obtain rfl : i = 0 := by simpa using hi
    rw [Nat.zero_mul, Nat.zero_add]
    exact row_at h j v hv
  · have hi := (List.getElem?_eq_some_iff.1 hy).1
    obtain rfl : i = 0 := by simpa using hi
    obtain rfl : x = y := by simpa using hy
    exact hx
/-- What the law looks at of a folded program whose function lies at g. -/
def Looks (g : Nat) (W : World) (bb cb : Nat) (e1 ce bi ci cc : Nat) (C : Option Nat) (e2 ce2 : Nat) : Prop :=
  W.cell? ⟨g, 8, none⟩ = some (.slice (some ⟨bb, 0, none⟩) 1 cb) ∧ CellsAt W bb 0 (stL 8 0 0 ⟨#[]⟩ ⟨#[]⟩ ⟨#[]⟩ 0 0 0 (some e1) 1 ce (some bi) 1 ci C 0 cc) ∧ W.cell? ⟨e1, 4, none⟩ = some (.int .i64 (-16)) ∧ W.cell? ⟨bi, 9, none⟩ = some (.slice (some ⟨e2, 0, none⟩) 1 ce2) ∧ W.cell? ⟨e2, 0, none⟩ = some (.int .i64 0) ∧
  g < W.heap.size ∧ bb < W.heap.size ∧ e1 < W.heap.size ∧ bi < W.heap.size ∧ e2 < W.heap.size
theorem Looks.under {g : Nat} {W W' : World} {bb cb e1 ce bi ci cc : Nat} {C : Option Nat} {e2 ce2 : Nat} (h : Looks g W bb cb e1 ce bi ci cc C e2 ce2) (hb : Below W.heap.size W W') : Looks g W' bb cb e1 ce bi ci cc C e2 ce2 := by
  have hs := hb.size
  obtain ⟨h1, h2, h3, h4, h5, k1, k2, k3, k4, k5⟩ := h
  refine ⟨?_, h2.below hb k2, ?_, ?_, ?_, by omega, by omega, by omega, by omega, by omega⟩
  · rw [hb.cell (p := ⟨g, 8, none⟩) k1]
    exact h1
  · rw [hb.cell (p := ⟨e1, 4, none⟩) k3]
    exact h3
  · rw [hb.cell (p := ⟨bi, 9, none⟩) k4]
    exact h4
  · rw [hb.cell (p := ⟨e2, 0, none⟩) k5]
    exact h5
theorem one_deep {S : Nat → Prop} {W : World} {A : Option Nat} (h : SlIn S W A [foldT deepT]) : ∃ b, A = some b ∧ S b ∧ W.cell? ⟨b, 4, none⟩ = some (.int .i64 (-16)) ∧ W.cell? ⟨b, 0, none⟩ = some (.int .i64 0) := by
  rw [deep_folds] at h
  cases h with
  | row hl hs rows hc h =>
    rename_i b
    have hsl : SlIn S W (some b) [.mk 0 0 ⟨#[]⟩ ⟨#[]⟩ (-16) 1 0 []] := .row hl hs rows hc h
    obtain ⟨_, _, _, _, _, _, _, _, _, _, _, ex, _, hx⟩ := hsl.at 0 _ rfl
    injection ex with x1 x2 x3 x4 x5 x6 x7 x8
    subst x1 x2 x3 x4 x5 x6 x7 x8
    exact ⟨b, rfl, hs, hx 4 _ rfl, hx 0 _ rfl⟩
theorem Looks.of {W w' : World} {e : Ending} (h : PrAns ⟨#[]⟩ 0 0 0 0 0 0 [outerS] W e w') : ∃ g c bb cb e1 ce bi ci cc C e2 ce2, e = .returned (.agg ([.slice none 0 0, .slice none 0 0, .slice (some ⟨g, 0, none⟩) 1 c] : List Value).toArray) ∧ Looks g w' bb cb e1 ce bi ci cc C e2 ce2 ∧ Below W.heap.size W w' := by
  obtain ⟨g, c, B, cb, S, rfl, hg, hs, hgl, hl, hb⟩ := h
  have e0 : ([outerS].map foldS) = [St.mk 8 0 0 ⟨#[]⟩ ⟨#[]⟩ ⟨#[]⟩ 0 0 0 [foldT deepT] [foldS innerS] []] := by
    simp only [List.map_cons, List.map_nil, foldS_mk]
  rw [e0] at hs
  cases hs with
  | row hk hS rows hc h =>
    rename_i bb
    have hs : SsIn S w' (some bb) [St.mk 8 0 0 ⟨#[]⟩ ⟨#[]⟩ ⟨#[]⟩ 0 0 0 [foldT deepT] [foldS innerS] []] := .row hk hS rows hc h
    obtain ⟨_, _, _, _, _, _, _, _, _, _, A, ca, B2, cb2, C, cc, es, body, els, ex, h1, h2, h3, h4⟩ := hs.at 0 _ rfl
    injection ex with x1 x2 x3 x4 x5 x6 x7 x8 x9 x10 x11 x12
    subst x1 x2 x3 x4 x5 x6 x7 x8 x9 x10 x11 x12
    obtain ⟨e1, rfl, hSe, hv, _⟩ := one_deep h1
    have e3 : foldS innerS = St.mk 12 0 0 ⟨#[]⟩ ⟨#[]⟩ ⟨#[]⟩ 0 0 0 [foldT deepT] [] [] := by
      rw [foldS_mk]
      rfl
    rw [e3] at h2
    cases h2 with
    | row hk2 hS2 rows2 hc2 k2 =>
      rename_i bi
      have hs2 : SsIn S w' (some bi) [St.mk 12 0 0 ⟨#[]⟩ ⟨#[]⟩ ⟨#[]⟩ 0 0 0 [foldT deepT] [] []] := .row hk2 hS2 rows2 hc2 k2
      obtain ⟨_, _, _, _, _, _, _, _, _, _, A2, ca2, _, _, _, _, es2, _, _, ey, m1, _, _, m4⟩ := hs2.at 0 _ rfl
      injection ey with y1 y2 y3 y4 y5 y6 y7 y8 y9 y10 y11 y12
      subst y1 y2 y3 y4 y5 y6 y7 y8 y9 y10 y11 y12
      obtain ⟨e2, rfl, hSe2, _, hv2⟩ := one_deep m1
      exact ⟨g, c, bb, cb, e1, ca, bi, cb2, cc, C, e2, ca2, rfl, ⟨hg 8 _ rfl, h4, hv, m4 9 _ rfl, hv2, hgl.2, (hl _ hS).2, (hl _ hSe).2, (hl _ hS2).2, (hl _ hSe2).2⟩, hb⟩
end Go.Proofs.Ythmphmndpfkbcaa
