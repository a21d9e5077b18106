/-
  What BankTicks' walk wants: a bank behind many ticks, device by device; what is requested. Plain mathematics.
-/
import Derived.Test.YtkodoldkfeopdaaKm
namespace Go.Proofs.Ytkodoldkfeopdaa
open Go.RowKit
set_option linter.unusedVariables false
set_option maxRecDepth 100000
/-- Has the uart asked for anything, within so many ticks? -/
def anyU (b : Bk) : Nat → Bool
  | 0 => false
  | k + 1 => anyU b k || Ua.tickQ (tksB b k).T (tksB b k).c (tksB b k).k
theorem askB_dev (b : Bk) (n : Nat) (a : Bool) : (askB b n a).o = b.o ∧ (askB b n a).i = b.i ∧ (askB b n a).e = b.e ∧ (askB b n a).R = b.R ∧ (askB b n a).T = b.T ∧ (askB b n a).l = b.l ∧ (askB b n a).c = b.c ∧ (askB b n a).k = b.k ∧ (askB b n a).t0 = b.t0 ∧ (askB b n a).t1 = b.t1 ∧ (askB b n a).q.m = b.q.m := by
  unfold askB
  split <;> exact ⟨rfl, rfl, rfl, rfl, rfl, rfl, rfl, rfl, rfl, rfl, rfl⟩
theorem tick_dev (b : Bk) : (tickB b).o = b.o ∧ (tickB b).i = b.i ∧ (tickB b).e = b.e ∧ (tickB b).R = b.R ∧ (tickB b).T = Ua.tickT b.T b.k ∧ (tickB b).l = b.l ∧ (tickB b).c = b.c ∧ (tickB b).k = Ua.tickK b.T b.k ∧ (tickB b).t0 = Ti.tickT b.t0 ∧ (tickB b).t1 = Ti.tickT b.t1 ∧ (tickB b).q.m = b.q.m ∧ (tickB b).q.p = ((b.q.p ||| (if Ti.asksT b.t0 = true then 8 else 0)) ||| (if Ti.asksT b.t1 = true then 16 else 0)) ||| (if Ua.tickQ b.T b.c b.k = true then 4 else 0) := by
  have h0 := askB_dev { b with t0 := Ti.tickT b.t0 } 8 (Ti.asksT b.t0)
  have p0 := askB_p { b with t0 := Ti.tickT b.t0 } 8 (Ti.asksT b.t0)
  change (tick0 b).o = b.o ∧ (tick0 b).i = b.i ∧ (tick0 b).e = b.e ∧ (tick0 b).R = b.R ∧ (tick0 b).T = b.T ∧ (tick0 b).l = b.l ∧ (tick0 b).c = b.c ∧ (tick0 b).k = b.k ∧ (tick0 b).t0 = Ti.tickT b.t0 ∧ (tick0 b).t1 = b.t1 ∧ (tick0 b).q.m = b.q.m at h0
  change (tick0 b).q.p = b.q.p ||| _ at p0
  unfold tickB
  generalize tick0 b = x at *
  have h1 := askB_dev { x with t1 := Ti.tickT x.t1 } 16 (Ti.asksT x.t1)
  have p1 := askB_p { x with t1 := Ti.tickT x.t1 } 16 (Ti.asksT x.t1)
  change (tick1 x).o = x.o ∧ (tick1 x).i = x.i ∧ (tick1 x).e = x.e ∧ (tick1 x).R = x.R ∧ (tick1 x).T = x.T ∧ (tick1 x).l = x.l ∧ (tick1 x).c = x.c ∧ (tick1 x).k = x.k ∧ (tick1 x).t0 = x.t0 ∧ (tick1 x).t1 = Ti.tickT x.t1 ∧ (tick1 x).q.m = x.q.m at h1
  change (tick1 x).q.p = x.q.p ||| _ at p1
  generalize tick1 x = y at *
  have h2 := askB_dev { y with T := Ua.tickT y.T y.k, k := Ua.tickK y.T y.k } 4 (Ua.tickQ y.T y.c y.k)
  have p2 := askB_p { y with T := Ua.tickT y.T y.k, k := Ua.tickK y.T y.k } 4 (Ua.tickQ y.T y.c y.k)
  change (tick2 y).o = y.o ∧ (tick2 y).i = y.i ∧ (tick2 y).e = y.e ∧ (tick2 y).R = y.R ∧ (tick2 y).T = Ua.tickT y.T y.k ∧ (tick2 y).l = y.l ∧ (tick2 y).c = y.c ∧ (tick2 y).k = Ua.tickK y.T y.k ∧ (tick2 y).t0 = y.t0 ∧ (tick2 y).t1 = y.t1 ∧ (tick2 y).q.m = y.q.m at h2
  change (tick2 y).q.p = y.q.p ||| _ at p2
  generalize tick2 y = z at *
  obtain ⟨a1, a2, a3, a4, a5, a6, a7, a8, a9, a10, a11⟩ := h0
  obtain ⟨b1, b2, b3, b4, b5, b6, b7, b8, b9, b10, b11⟩ := h1
  obtain ⟨c1, c2, c3, c4, c5, c6, c7, c8, c9, c10, c11⟩ := h2
  rw [b5, a5, b7, a7, b8, a8, p1, p0, a10] at p2
  rw [b5, a5, b8, a8] at c5 c8
  exact ⟨c1.trans (b1.trans a1), c2.trans (b2.trans a2), c3.trans (b3.trans a3), c4.trans (b4.trans a4), c5, c6.trans (b6.trans a6), c7.trans (b7.trans a7), c8, c9.trans (b9.trans a9), c10.trans (b10.trans (by rw [a10])), c11.trans (b11.trans a11), p2⟩
theorem or_bits : ∀ p : Fin 256, ∀ a b c d e f : Bool, ((((p.val ||| (if a = true then 8 else 0)) ||| (if b = true then 16 else 0)) ||| (if c = true then 4 else 0)) ||| (if d = true then 8 else 0) ||| (if e = true then 16 else 0)) ||| (if f = true then 4 else 0) = ((p.val ||| (if (a || d) = true then 8 else 0)) ||| (if (b || e) = true then 16 else 0)) ||| (if (c || f) = true then 4 else 0) := by decide +kernel
/-- A bank behind so many ticks. -/
theorem ticks_dev {b : Bk} (h : b.ok) : ∀ n, (tksB b n).o = b.o ∧ (tksB b n).i = b.i ∧ (tksB b n).e = b.e ∧ (tksB b n).R = b.R ∧ (tksB b n).l = b.l ∧ (tksB b n).c = b.c ∧ (tksB b n).t0 = Ti.ticksT b.t0 n ∧ (tksB b n).t1 = Ti.ticksT b.t1 n ∧ (tksB b n).q.m = b.q.m ∧ (tksB b n).q.p = ((b.q.p ||| (if decide (0 < Ti.countT b.t0 n) = true then 8 else 0)) ||| (if decide (0 < Ti.countT b.t1 n) = true then 16 else 0)) ||| (if anyU b n = true then 4 else 0)
  | 0 => ⟨rfl, rfl, rfl, rfl, rfl, rfl, rfl, rfl, rfl, (by simp [tksB, anyU, Ti.countT])⟩
  | n + 1 => by
    obtain ⟨a1, a2, a3, a4, a5, a6, a7, a8, a9, a10⟩ := ticks_dev h n
    obtain ⟨c1, c2, c3, c4, c5, c6, c7, c8, c9, c10, c11, c12⟩ := tick_dev (tksB b n)
    refine ⟨c1.trans a1, c2.trans a2, c3.trans a3, c4.trans a4, c6.trans a5, c7.trans a6, c9.trans (by rw [a7]; rfl), c10.trans (by rw [a8]; rfl), c11.trans a9, ?_⟩
    have e0 : decide (0 < Ti.countT b.t0 (n + 1)) = (decide (0 < Ti.countT b.t0 n) || Ti.asksT (tksB b n).t0) := by
      rw [a7, Ti.countT]
      cases Ti.asksT (Ti.ticksT b.t0 n) <;> simp
    have e1 : decide (0 < Ti.countT b.t1 (n + 1)) = (decide (0 < Ti.countT b.t1 n) || Ti.asksT (tksB b n).t1) := by
      rw [a8, Ti.countT]
      cases Ti.asksT (Ti.ticksT b.t1 n) <;> simp
    show (tickB (tksB b n)).q.p = _
    rw [c12, a10, e0, e1]
    exact or_bits ⟨b.q.p, h.q.p⟩ _ _ _ _ _ _
end Go.Proofs.Ytkodoldkfeopdaa
