/-
  A function over one uart: the row of what was handed in, and that of what is answered.
-/
import Derived.Test.YtgpgijdciaieaaaSpec
import Derived.Laws.BitsAllLaws
namespace Go.Proofs.Ytgpgijdciaieaaa
open Go.RowKit
set_option linter.unusedVariables false
structure Tw (w W : World) (g r : Nat) (t : TypeId) (n : Int) (bs : List Nat) (m : Int) (cs : List Nat) (l : Bool) (c k : Nat) : Prop where
  q : URow W g t n bs m cs l c k
  z : URow W r t 0 Z8 0 Z8 false 0 0
  b : Below w.heap.size w W
  lg : w.heap.size ≤ g
  lr : w.heap.size ≤ r
  gr : g ≠ r
section
variable {w W W' : World} {g r : Nat} {t : TypeId} {n : Int} {bs : List Nat} {m : Int} {cs : List Nat} {l : Bool} {c k : Nat} {n' : Int} {bs' : List Nat} {m' : Int} {cs' : List Nat} {l' : Bool} {c' k' : Nat}
theorem Tw.under (h : Tw w W g r t n bs m cs l c k) (hb : Below W.heap.size W W') : Tw w W' g r t n bs m cs l c k := ⟨h.q.below hb h.q.lt, h.z.below hb h.z.lt, h.b.trans (hb.mono h.b.size), h.lg, h.lr, h.gr⟩
theorem Tw.setG (h : Tw w W g r t n bs m cs l c k) (hn : URow W' g t n' bs' m' cs' l' c' k') (ho : ∀ j, j ≠ g → W'.heap[j]? = W.heap[j]?) (hb : Below g W W') : Tw w W' g r t n' bs' m' cs' l' c' k' := ⟨hn, h.z.other ho h.gr.symm, h.b.trans (hb.mono h.lg), h.lg, h.lr, h.gr⟩
theorem Tw.new (hb : bs.length = 8) (hc : cs.length = 8) (t : TypeId) (hq : W.heap[w.heap.size]? = some (.cells (uc n bs m cs l c k).toArray t)) (hz : W.heap[w.heap.size + 1]? = some (.cells (uc 0 Z8 0 Z8 false 0 0).toArray t)) (hB : Below w.heap.size w W) : Tw w W w.heap.size (w.heap.size + 1) t n bs m cs l c k :=
  ⟨⟨hq, hb, hc⟩, ⟨hz, rfl, rfl⟩, hB, Nat.le_refl _, by omega, by omega⟩
end
/-- The parts of a mended queue. -/
theorem ofV_parts (L : List Nat) (h : L.length ≤ 8) : ∃ (N : Int) (p : List Nat), ((min L.length 8 : Nat) : Int) = N ∧ pad L = p ∧ p.length = 8 ∧ N = (L.length : Int) ∧ ofV L = qv N p :=
  ⟨_, _, rfl, rfl, pad_length _, by omega, rfl⟩
/-- A function over one uart that answers none: its row alone. -/
structure On (w W : World) (g : Nat) (t : TypeId) (n : Int) (bs : List Nat) (m : Int) (cs : List Nat) (l : Bool) (c k : Nat) : Prop where
  q : URow W g t n bs m cs l c k
  b : Below w.heap.size w W
  lg : w.heap.size ≤ g
section
variable {w W W' : World} {g r : Nat} {t : TypeId} {n : Int} {bs : List Nat} {m : Int} {cs : List Nat} {l : Bool} {c k : Nat} {n' : Int} {bs' : List Nat} {m' : Int} {cs' : List Nat} {l' : Bool} {c' k' : Nat}
theorem On.under (h : On w W g t n bs m cs l c k) (hb : Below W.heap.size W W') : On w W' g t n bs m cs l c k := ⟨h.q.below hb h.q.lt, h.b.trans (hb.mono h.b.size), h.lg⟩
theorem On.setG (h : On w W g t n bs m cs l c k) (hn : URow W' g t n' bs' m' cs' l' c' k') (ho : ∀ j, j ≠ g → W'.heap[j]? = W.heap[j]?) (hb : Below g W W') : On w W' g t n' bs' m' cs' l' c' k' := ⟨hn, h.b.trans (hb.mono h.lg), h.lg⟩
theorem On.new (hb : bs.length = 8) (hc : cs.length = 8) (t : TypeId) (hq : W.heap[w.heap.size]? = some (.cells (uc n bs m cs l c k).toArray t)) (hB : Below w.heap.size w W) : On w W w.heap.size t n bs m cs l c k := ⟨⟨hq, hb, hc⟩, hB, Nat.le_refl _⟩
end
theorem bit_and1 (c : Nat) (h : c < 256) : bits .and .u8 (c : Int) 1 = if c % 2 = 1 then 1 else 0 := by
  rw [show (1 : Int) = ((1 : Nat) : Int) from rfl, u8_and_nat c 1 h (by decide), Nat.and_one_is_mod]
  rcases Nat.mod_two_eq_zero_or_one c with h0 | h0 <;> simp [h0]
theorem results_tc {fn : Func} {s t : Tmp} {ty : TypeId} (h : fn.results = #[.tmp s, .cell t ty]) (tmps : Array Value) (P : Program) (w : World) (a : Addr) (v x : Value) (hp : tmps.getD t undef = .pointer (some a)) (hl : (loadVar ty a).run P w = .ok v w) (hx : tmps.getD s undef = x) : (results fn tmps).run P w = .ok (.tuple #[x, v]) w := by
  subst hx
  rw [Array.getD_eq_getD_getElem?] at hp
  simp [results, h, hp, asAddr, hl]
theorem results_cttt {fn : Func} {t u1 u2 u3 : Tmp} {ty : TypeId} (h : fn.results = #[.cell t ty, .tmp u1, .tmp u2, .tmp u3]) (tmps : Array Value) (P : Program) (w : World) (a : Addr) (v x1 x2 x3 : Value) (hp : tmps.getD t undef = .pointer (some a)) (hl : (loadVar ty a).run P w = .ok v w) (h1 : tmps.getD u1 undef = x1) (h2 : tmps.getD u2 undef = x2) (h3 : tmps.getD u3 undef = x3) : (results fn tmps).run P w = .ok (.tuple #[v, x1, x2, x3]) w := by
  subst h1
  subst h2
  subst h3
  rw [Array.getD_eq_getD_getElem?] at hp
  simp [results, h, hp, asAddr, hl]
/-- What was mended is a uart that may be. -/
theorem mended_in {R T : List Nat} {N M : Int} {p q : List Nat} {c k : Nat} (hR : R.length ≤ 8) (hT : T.length ≤ 8) (hN : ((min R.length 8 : Nat) : Int) = N) (hp : pad R = p) (hM : ((min T.length 8 : Nat) : Int) = M) (hq : pad T = q) (lR : ∀ x ∈ R, x < 256) (lT : ∀ x ∈ T, x < 256) (hc : c < 256) (hk : k < 4) : UIn N p M q c k ∧ cutL N p = R ∧ cutL M q = T := by
  subst hN
  subst hp
  subst hM
  subst hq
  refine ⟨⟨pad_length _, pad_length _, by omega, by omega, by omega, by omega, pad_lt lR, pad_lt lT, hc, by omega⟩, ?_, ?_⟩
  · rw [cutL_ofV, List.take_of_length_le hR]
  · rw [cutL_ofV, List.take_of_length_le hT]
theorem pad_head (R : List Nat) : (pad R)[0]? = some (R.headD 0) := by
  cases R with
  | nil => rfl
  | cons x r => rfl
theorem headD_lt {R : List Nat} (h : ∀ x ∈ R, x < 256) : R.headD 0 < 256 := by
  cases R with
  | nil => decide
  | cons x r => exact h x List.mem_cons_self
end Go.Proofs.Ytgpgijdciaieaaa
