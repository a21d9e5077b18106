/-
  What is asked of the program's functions, for the landed code. Made by wip/genworldok10.py.
-/
import Derived.Test.YtimlhckihkjifaaOkNew
import Derived.Test.YtimlhckihkjifaaOkUp
namespace Go.Proofs.Ytimlhckihkjifaa
open Go.RowKit
set_option linter.unusedVariables false
set_option linter.unusedSimpArgs false
theorem world_ok : WorldOk := ⟨check_any, at_any, set_any, upto_any⟩
theorem player_ok : PlayerOk PL where
  lt := by
    rintro W a l n S F ⟨g, T, rfl, h, hS, hF⟩
    refine ⟨fun k hk => ?_, fun k hk => (hS k).2 (.inl ((hF k).1 hk))⟩
    rcases (hS k).1 hk with rfl | hk
    · exact h.lt
    · exact h.tl k hk
  keep := by
    rintro W W' a l n S F ⟨g, T, rfl, h, hS, hF⟩ hk hz
    exact ⟨g, T, rfl, h.keep (hk g ((hS g).2 (.inl rfl))) (fun k ht => hk k ((hS k).2 (.inr ht))) hz, hS, hF⟩
  new := by
    intro W T A cap l hr hs hl
    refine (new_any W T A cap l hr hs hl).mono ?_
    rintro e W' ⟨⟨g, rfl, hp, hg⟩, hb⟩
    exact ⟨⟨_, fun k => k = g ∨ (W.heap.size ≤ k ∧ k < g), fun k => k = g, rfl, ⟨g, _, rfl, hp, fun k => Iff.rfl, fun k => Iff.rfl⟩, fun k hk => by have h : k = g := hk; omega, fun k hk => .inr (by rcases hk with h | h <;> omega)⟩, hb⟩
  next := by
    rintro W a l n S F ⟨g, T, rfl, h, hS, hF⟩ hn
    have hl : l.length ≤ 9223372036854775807 := by
      obtain ⟨A, cap, j, _, _, _, hd⟩ := h.ex
      exact hd.len
    refine (next_any W g l n T h hl hn).mono ?_
    rintro e W' ⟨⟨rfl, hp⟩, ho⟩
    exact ⟨⟨rfl, S, F, ⟨g, T, rfl, hp, hS, hF⟩, fun k hk => .inl hk, fun k hk => .inl hk⟩, ho.os, ho.tape, ho.output, ho.size, fun k hk hn => ho.blk k hk (fun e => hn ((hF k).2 e))⟩
  cycle := by
    rintro W a l n S F ⟨g, T, rfl, h, hS, hF⟩ hn
    exact cycle_any W g l n T h
  upto := by
    intro T A cap l c W hr hl h0 h1
    refine (upto_own A cap W.heap.size l c W hr.toRd (Nat.le_refl _) hl h0 h1).mono ?_
    rintro e w' ⟨⟨v, rfl, ho⟩, hb⟩
    have := upto_len l c
    obtain ⟨A', cap', rfl, _, hd⟩ := ho.rdS (by omega) (filter_ok hr.ok)
    exact ⟨⟨A', cap', _, rfl, hd, fun k hk => .inr hk.1⟩, hb⟩
theorem player_nil : PlayerNil := ⟨fun W A cap B l hr hB hs _ => new_bad W A cap B l hr hB hs, next_nil, cycle_nil⟩
end Go.Proofs.Ytimlhckihkjifaa
