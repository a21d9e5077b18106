/-
  The law's own texts and fails by contracts. Conditions: the listed variables hold what they hold; the text is shorter than 2^46 bytes.
-/
import Derived.Test.YtmebcenjghagoaaGreatDoorAlike
import Derived.Test.YtmebcenjghagoaaGreatDoorWk
namespace Go.Proofs.YtmebcenjghagoaaGreatDoor
open Go.RowKit

set_option maxRecDepth 100000 in
set_option maxHeartbeats 2000000 in
theorem texts_any (A : Option Addr) (n c b d : Nat) (toks : List Tk) (w : World) (hA : TkAt w A toks) (hn : toks.length = n) (hw : ∀ (k : Nat) (x : Tk), toks[k]? = some x → w.cell? ⟨b, k, none⟩ = some (.string x.t)) (hb : n ≤ 70368744177664) :
    Calls Tryz.prog 23 #[.slice A n c, .slice (some ⟨b, 0, none⟩) n d] w fun e w' => e = .returned (.bool true) ∧ ∃ m, w' = w.drewN m := by
  have HA := Lib.hid hA
  have HW := Lib.hid hw
  have hln : n ≤ toks.length := by omega
  clear hA hn hw
  go_enter Tryz.func23, Tryz.ntmps23
  go_wp2
  go_loopw [5] (fun i wr => ∃ k : Nat, k ≤ n ∧ i = .int .i64 k ∧ ∃ m, wr = w.drewN m) (fun i _ => n - (intOf i).toNat)
  case atStart => exact ⟨0, Nat.zero_le _, rfl, 0, rfl⟩
  case round =>
    obtain ⟨k, hk, rfl, m, rfl⟩ := hrel
    by_cases hlt : k < n
    · obtain ⟨x, hx⟩ : ∃ x, toks[k]? = some x := ⟨_, List.getElem?_eq_getElem (by omega)⟩
      obtain ⟨a, rfl⟩ : ∃ a, A = some a := by
        cases A with
        | none => rw [HA.out.none_ rfl] at hx; cases hx
        | some a => exact ⟨a, rfl⟩
      have c3 := ((HA.out).cells a rfl k x hx).2.2.2.1
      have cw := HW.out k x hx
      have k1 : (k : Int) < (n : Int) := by omega
      clear hx
      go_wp2
      go_quiet (fail)
      go_wp2
      exact ⟨⟨k + 1, by omega, by go_num, m + nq, rfl⟩, by simp only [intOf]; omega⟩
    · have k1 : ¬ (k : Int) < (n : Int) := by omega
      go_wp2
      go_ret
      exact ⟨rfl, m, rfl⟩
theorem want_at (W : World) (T : TypeId) (toks : List Tk) (cs : Array Value) (h : cs = (toks.map fun x => Value.string x.t).toArray) (k : Nat) (x : Tk) (hx : toks[k]? = some x) (b : Nat) (hb : W.heap.size = b) :
    (W.alloc (.cells cs T)).cell? ⟨b, k, none⟩ = some (.string x.t) := by
  subst hb
  rw [World.cell?_alloc_mark, h]
  simp [hx]
set_option maxRecDepth 100000 in
set_option maxHeartbeats 2000000 in
theorem fails_any (s : ByteArray) (c a : Nat) (w : World) (hL : LaidL w) (hs : s.size ≤ 70368744177664) (h : lexS s = ([], (c, a))) :
    Calls Tryz.prog 22 #[.string s, .int .i64 (c : Int), .int .i64 (a : Int)] w fun e w' => e = .returned (.bool true) ∧ Below w.heap.size w w' := by
  have HC := Lib.hid (Lex_any s w hL hs)
  have HL := Lib.hid hL
  have HH := Lib.hid h
  have hlt := hL.lt
  clear hL hs h
  go_enter Tryz.func22, Tryz.ntmps22
  go_wp2_with fail
  refine HC.out.mono ?_
  rintro e w1 ⟨v, ev, rfl, ho, he, hb1⟩
  rw [HH.out] at ho he
  obtain ⟨A1, c1, rfl⟩ := ho.form
  have HB1 := Lib.hid hb1
  have HT := Lib.hid (told_of ev (c, a) _ _ (HL.out.below hb1 hlt) he)
  clear ho he hb1
  go_wp2_with (go_at_call 20; go_must (refine HT.out.mono ?_; rintro e w4 ⟨rfl, hb4⟩; have HB4 := Lib.hid (HB1.out.trans (hb4.mono HB1.out.size)); clear hb4))
  go_ret
  exact ⟨rfl, HB4.out⟩
end Go.Proofs.YtmebcenjghagoaaGreatDoor
