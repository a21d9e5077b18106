/-
  What is asked of the program's functions (but of players); the chapter's example in memory; what == answers.
-/
import Derived.Test.YtimlhckihkjifaaN
namespace Go.Proofs.Ytimlhckihkjifaa
open Go.RowKit
set_option linter.unusedVariables false
set_option linter.unusedSimpArgs false
/-- What is asked of the program's At and Set: slices as Go makes them, no longer than their capacity. -/
def AtD (f : Nat) : Prop := ∀ (A : Option Addr) (cap B : Nat) (l : List In) (c : Int) (W : World), Rd W B A l → B ≤ W.heap.size → l.length ≤ cap → -9223372036854775808 ≤ c → c ≤ 9223372036854775807 → Calls Try.prog f #[.slice A l.length cap, .int .i64 c] W fun e w' => e = .returned (nv (atL l c)) ∧ Below W.heap.size W w'
def OutEC (e : Ending) (W : World) (l : List In) (er : Nat) : Prop := ∃ A cap, e = .returned (.tuple #[.slice A l.length cap, .int .i64 (er : Int)]) ∧ Rd W W.heap.size A l ∧ l.length ≤ cap
theorem OutEC.out {e : Ending} {W : World} {l : List In} {er : Nat} : OutEC e W l er → OutE e W l er := fun ⟨A, cap, h1, h2, _⟩ => ⟨A, cap, h1, h2⟩
def SetD (f : Nat) : Prop := ∀ (A : Option Addr) (cap B : Nat) (l : List In) (x : In) (W : World), Rd W B A l → B ≤ W.heap.size → l.length ≤ cap → l.length ≤ 1000 → x.ok → Calls Try.prog f #[.slice A l.length cap, iv x] W fun e w' => OutEC e w' (setR l x) (setE l x) ∧ Below W.heap.size W w'
theorem SetD.weak {f : Nat} (h : SetD f) {A : Option Addr} {cap B : Nat} {l : List In} {x : In} {W : World} (h1 : Rd W B A l) (h2 : B ≤ W.heap.size) (h3 : l.length ≤ cap) (h4 : l.length ≤ 1000) (h5 : x.ok) : Calls Try.prog f #[.slice A l.length cap, iv x] W fun e w' => OutE e w' (setR l x) (setE l x) ∧ Below W.heap.size W w' :=
  (h A cap B l x W h1 h2 h3 h4 h5).mono fun e w' q => ⟨q.1.out, q.2⟩
theorem OwnI.rdc {w : World} {base : Nat} {v : Value} {l : List In} (h : OwnI w base v l) (hl : l.length ≤ 9223372036854775807) (hok : ∀ x ∈ l, x.ok) : ∃ A cap, v = .slice A l.length cap ∧ l.length ≤ cap ∧ Rd w w.heap.size A l := by
  obtain ⟨A, cap, rfl, hr⟩ := h.rd hl hok
  refine ⟨A, cap, rfl, ?_, hr⟩
  rcases h.2 with ⟨h1, h0⟩ | ⟨g, c, cur, h1, _, _, hn, _⟩
  · omega
  · simp only [Value.slice.injEq] at h1
    omega
structure WorldOk : Prop where
  check : CheckC 17
  at_ : AtD 18
  set : SetD 16
  upto : UptoC 19
def exL : List In := [⟨2, 0, 3⟩, ⟨2, 1, 65⟩, ⟨5, 0, 1⟩, ⟨5, 2, 8⟩]
theorem exL_ok : ∀ x ∈ exL, x.ok := by
  intro x hx
  simp only [exL, List.mem_cons, List.not_mem_nil, or_false] at hx
  rcases hx with rfl | rfl | rfl | rfl <;> exact ⟨by decide, by decide, by decide, by decide, by decide⟩
theorem ex_own (w : World) (cs : Array Value) (hcs : cs.toList = exL.flatMap ic) : OwnI (w.alloc (.cells cs 25)) w.heap.size (.slice (some ⟨w.heap.size, 0, none⟩) 4 4) exL := by
  have hsz : cs.size = 12 := by rw [← Array.length_toList, hcs]; rfl
  refine ⟨rfl, Or.inr ⟨w.heap.size, 4, cs, rfl, Nat.le_refl _, heap_alloc_new w _, by decide, ?_, ?_, ?_⟩⟩
  · decide
  · rw [hsz]
  · rw [hcs]; rfl
set_option maxRecDepth 100000 in
theorem example_any (w : World) : Calls Try.prog 20 #[] w fun e w' => (e = .returned (.slice (some ⟨w.heap.size, 0, none⟩) 4 4) ∧ OwnI w' w.heap.size (.slice (some ⟨w.heap.size, 0, none⟩) 4 4) exL) ∧ Below w.heap.size w w' := by
  go_enter Try.func20, Try.ntmps20
  go_wp2
  go_ret
  exact ⟨⟨rfl, ex_own w _ rfl⟩, (Below.refl _ _).alloc (Nat.le_refl _) _⟩
end Go.Proofs.Ytimlhckihkjifaa
