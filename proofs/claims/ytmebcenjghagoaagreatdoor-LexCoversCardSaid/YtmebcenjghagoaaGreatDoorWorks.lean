/-
  The law's own works by its contract: the chapter's examples. Condition: the listed variables hold what they hold.
-/
import Derived.Test.YtmebcenjghagoaaGreatDoorTexts
namespace Go.Proofs.YtmebcenjghagoaaGreatDoor
open Go.RowKit

theorem add0 (g n : Nat) : (⟨g, 0, none⟩ : Addr).add n = ⟨g, n, none⟩ := by
  unfold Addr.add
  split <;> simp_all
theorem OwnT.row {w : World} {base : Nat} {v : Value} {l : List Tk} (h : OwnT w base v l) (hne : l ≠ []) : ∃ g cap, v = .slice (some ⟨g, 0, none⟩) l.length cap ∧ base ≤ g ∧ g < w.heap.size ∧ (∀ k x, l[k]? = some x → ∀ j u, (tkC x)[j]? = some u → w.cell? ⟨g, k * 5 + j, none⟩ = some u) := by
  have h' := h
  rcases h with ⟨h1, ⟨rfl, h0⟩ | ⟨g, cap, cur, rfl, hg, hh, r⟩⟩
  · exact absurd (List.eq_nil_of_length_eq_zero h0) hne
  · exact ⟨g, cap, rfl, hg, (Array.getElem?_eq_some_iff.1 hh).1, fun k x hx j u hu => by have := World.ownsRow.cells h' (g := g) rfl (k * 5 + j) u (flat_at l k x hx j u hu); rwa [add0] at this⟩
def T1 : List Tk := [⟨1, 0, 1, ⟨#[120, 49]⟩, 0⟩, ⟨3, 3, 1, ⟨#[61]⟩, 0⟩, ⟨2, 5, 1, ⟨#[48, 120, 49, 70]⟩, 31⟩, ⟨3, 9, 1, ⟨#[59]⟩, 0⟩, ⟨0, 17, 1, ⟨#[]⟩, 0⟩]
def T2 : List Tk := [⟨1, 0, 1, ⟨#[97]⟩, 0⟩, ⟨3, 1, 1, ⟨#[60, 60]⟩, 0⟩, ⟨3, 3, 1, ⟨#[61]⟩, 0⟩, ⟨2, 4, 1, ⟨#[50]⟩, 2⟩, ⟨0, 5, 1, ⟨#[]⟩, 0⟩]
def T3 : List Tk := [⟨0, 0, 1, ⟨#[]⟩, 0⟩]
/-- Behind a call of Lex that answers these tokens. -/
structure LexOk (w0 w' : World) (g cap : Nat) (l : List Tk) : Prop where
  own : OwnT w' w0.heap.size (.slice (some ⟨g, 0, none⟩) l.length cap) l
  lt : g < w'.heap.size
  cells : ∀ k x, l[k]? = some x → ∀ j u, (tkC x)[j]? = some u → w'.cell? ⟨g, k * 5 + j, none⟩ = some u
  below : Below w0.heap.size w0 w'
  laid : LaidL w'
theorem LexOk.more {w0 w' w2 : World} {g cap : Nat} {l : List Tk} (h : LexOk w0 w' g cap l) (hb : Below w'.heap.size w' w2) : LexOk w0 w2 g cap l :=
  ⟨h.own.below hb (Nat.le_refl _), Nat.lt_of_lt_of_le h.lt hb.size, fun k x hx j u hu => (hb.cell (p := ⟨g, k * 5 + j, none⟩) h.lt).trans (h.cells k x hx j u hu), h.below.trans (hb.mono h.below.size), h.laid.below hb h.laid.lt⟩
theorem Lex_ok (s : ByteArray) (l : List Tk) (hl : lexS s = (l, (0, 0))) (hne : l ≠ []) (n : Nat) (hn : l.length = n) (w0 w : World) (hb : Below w0.heap.size w0 w) (hL : LaidL w) (hs : s.size ≤ 70368744177664) :
    Calls Tryz.prog 13 #[.string s] w fun e w' => ∃ g cap, e = .returned (.tuple #[.slice (some ⟨g, 0, none⟩) n cap, .nilIface]) ∧ LexOk w0 w' g cap l ∧ Below w.heap.size w w' := by
  subst hn
  refine (Lex_any s w hL hs).mono ?_
  rintro e w' ⟨v, ev, rfl, ho, he, hb'⟩
  rw [hl] at ho he
  rcases he with ⟨_, rfl⟩ | ⟨h, _⟩
  · obtain ⟨g, cap, rfl, _, h2, h3⟩ := ho.row hne
    exact ⟨g, cap, rfl, ⟨ho.mono hb.size, h2, h3, hb.trans (hb'.mono hb.size), hL.below hb' hL.lt⟩, hb'⟩
  · exact absurd rfl h
set_option maxRecDepth 100000 in
set_option maxHeartbeats 4000000 in
theorem works_any (w : World) (hL : LaidL w) : Calls Tryz.prog 12 #[] w fun e w' => e = .returned (.bool true) ∧ Below w.heap.size w w' := by
  have HL := Lib.hid hL
  have hlt := hL.lt
  clear hL
  go_enter Tryz.func12, Tryz.ntmps12
  go_wp2_with fail
  refine (Lex_ok ex1 T1 ex1_lex (by decide) 5 rfl w w (Below.refl _ _) HL.out (by decide)).mono ?_
  rintro e w1 ⟨g1, cap1, rfl, h1, _⟩
  have A1 := Lib.hid h1
  clear h1
  go_wp2_with fail
  refine (Lex_ok _ T2 ex2_lex (by decide) 5 rfl w w1 A1.out.below A1.out.laid (by decide)).mono ?_
  rintro e w2 ⟨g2, cap2, rfl, h2, hb2⟩
  have A2 := Lib.hid h2
  have B1 := Lib.hid (A1.out.more hb2)
  clear h2 hb2 A1
  go_wp2_with fail
  refine (Lex_ok _ T3 ex3_lex (by decide) 1 rfl w w2 A2.out.below A2.out.laid (by decide)).mono ?_
  rintro e w3 ⟨g3, cap3, rfl, h3, hb3⟩
  have C1 := Lib.hid (B1.out.more hb3)
  have C2 := Lib.hid (A2.out.more hb3)
  have C3 := Lib.hid h3
  clear h3 hb3 A2 B1
  have l1 := C1.out.lt
  have l2 := C2.out.lt
  have l3 := C3.out.lt
  have d0 := C1.out.cells 2 _ rfl 4 _ rfl
  have d1 := C1.out.cells 2 _ rfl 0 _ rfl
  have d2 := C1.out.cells 3 _ rfl 1 _ rfl
  have d3 := C1.out.cells 4 _ rfl 1 _ rfl
  have d4 := C1.out.cells 4 _ rfl 0 _ rfl
  have e0 := C3.out.cells 0 _ rfl 0 _ rfl
  have e1 := C3.out.cells 0 _ rfl 1 _ rfl
  have e2 := C3.out.cells 0 _ rfl 2 _ rfl
  have e3 := C3.out.cells 0 _ rfl 3 _ rfl
  have e4 := C3.out.cells 0 _ rfl 4 _ rfl
  simp only [Nat.reduceMul, Nat.reduceAdd] at d0 d1 d2 d3 d4 e0 e1 e2 e3 e4
  go_wp2_with fail
  refine (texts_any (some ⟨g1, 0, none⟩) 5 cap1 w3.heap.size 5 T1 _ (C1.out.own.alloc _).at_.1 rfl (fun k x hx => want_at w3 _ T1 _ rfl k x hx _ rfl) (by decide)).mono ?_
  rintro e w4 ⟨rfl, m, rfl⟩
  go_wp2_with fail
  refine (texts_any (some ⟨g2, 0, none⟩) 5 cap2 (w3.heap.size + 1) 5 T2 _ ((C2.out.more (below_drewN ((Below.refl _ _).alloc (Nat.le_refl _) _) m)).own.alloc _).at_.1 rfl (fun k x hx => want_at _ _ T2 _ rfl k x hx _ (by show (w3.alloc _).heap.size = _; simp)) (by decide)).mono ?_
  rintro e w5 ⟨rfl, m2, rfl⟩
  have BX := Lib.hid (fun o1 o2 => below_drewN ((below_drewN (C1.out.below.alloc C1.out.below.size o1) m).alloc (below_drewN (C1.out.below.alloc C1.out.below.size o1) m).size o2) m2)
  go_wp2_with fail
  refine (fails_any _ 7 2 _ (HL.out.below (BX.out _ _) hlt) (by decide) fx1).mono ?_
  rintro e w6 ⟨rfl, hb6⟩
  have B6 := Lib.hid ((BX.out _ _).trans (hb6.mono (BX.out _ _).size))
  clear hb6 BX C1 C2 C3 d0 d1 d2 d3 d4 e0 e1 e2 e3 e4
  go_wp2_with fail
  refine (fails_any _ 7 2 _ (HL.out.below B6.out hlt) (by decide) fx2).mono ?_
  rintro e w7 ⟨rfl, hb7⟩
  have B7 := Lib.hid (B6.out.trans (hb7.mono B6.out.size))
  clear hb7 B6
  go_wp2_with fail
  refine (fails_any _ 10 0 _ (HL.out.below B7.out hlt) (by decide) fx3).mono ?_
  rintro e w8 ⟨rfl, hb8⟩
  have B8 := Lib.hid (B7.out.trans (hb8.mono B7.out.size))
  clear hb8 B7
  go_wp2_with fail
  refine (fails_any _ 7 1 _ (HL.out.below B8.out hlt) (by decide) fx4).mono ?_
  rintro e w9 ⟨rfl, hb9⟩
  have B9 := Lib.hid (B8.out.trans (hb9.mono B8.out.size))
  clear hb9 B8
  go_wp2
  go_ret
  exact ⟨rfl, B9.out⟩
end Go.Proofs.YtmebcenjghagoaaGreatDoor
