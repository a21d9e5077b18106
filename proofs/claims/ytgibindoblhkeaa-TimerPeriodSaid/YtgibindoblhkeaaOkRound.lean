/-
  The closure of the program's Ticks by its contracts. Made by wip/gentimerok3.py.
-/
import Derived.Test.YtgibindoblhkeaaOkTick
namespace Go.Proofs.Ytgibindoblhkeaa
open Go.RowKit
set_option linter.unusedVariables false
/-- What the closure shares with its function: the timer (g), what is left (l), how often it asked (k); and the result (r). -/
structure Ts (w W : World) (g r l k : Nat) (t : Tm) (n a : Nat) : Prop where
  q : TRow W g 25 t
  z : TRow W r 25 ⟨0, 0, 0⟩
  vl : VRow W l 3 [.int .i64 (n : Int)]
  vk : VRow W k 3 [.int .i64 (a : Int)]
  b : Below w.heap.size w W
  lg : w.heap.size ≤ g
  lr : w.heap.size ≤ r
  ll : w.heap.size ≤ l
  lk : w.heap.size ≤ k
  gr : g ≠ r
  gl : g ≠ l
  gk : g ≠ k
  rl : r ≠ l
  rk : r ≠ k
  lkn : l ≠ k
section
variable {w W W' : World} {g r l k : Nat} {t u : Tm} {n m a c : Nat}
theorem VRow.off {W W' : World} {g r : Nat} {ty : TypeId} {cs : List Value} (h : VRow W g ty cs) (ho : ∀ j, j ≠ r → W'.heap[j]? = W.heap[j]?) (hr : g ≠ r) : VRow W' g ty cs := (ho g hr).trans h
theorem Ts.under (h : Ts w W g r l k t n a) (hb : Below W.heap.size W W') : Ts w W' g r l k t n a := ⟨h.q.below hb h.q.lt, h.z.below hb h.z.lt, h.vl.below hb h.vl.lt, h.vk.below hb h.vk.lt, h.b.trans (hb.mono h.b.size), h.lg, h.lr, h.ll, h.lk, h.gr, h.gl, h.gk, h.rl, h.rk, h.lkn⟩
theorem Ts.setG (h : Ts w W g r l k t n a) (hn : TRow W' g 25 u) (ho : ∀ j, j ≠ g → W'.heap[j]? = W.heap[j]?) (hb : Below g W W') : Ts w W' g r l k u n a :=
  ⟨hn, h.z.other ho h.gr.symm, h.vl.off ho h.gl.symm, h.vk.off ho h.gk.symm, h.b.trans (hb.mono h.lg), h.lg, h.lr, h.ll, h.lk, h.gr, h.gl, h.gk, h.rl, h.rk, h.lkn⟩
theorem Ts.setL (h : Ts w W g r l k t n a) (hn : VRow W' l 3 [.int .i64 (m : Int)]) (ho : ∀ j, j ≠ l → W'.heap[j]? = W.heap[j]?) (hb : Below l W W') : Ts w W' g r l k t m a :=
  ⟨h.q.other ho h.gl, h.z.other ho h.rl, hn, h.vk.off ho h.lkn.symm, h.b.trans (hb.mono h.ll), h.lg, h.lr, h.ll, h.lk, h.gr, h.gl, h.gk, h.rl, h.rk, h.lkn⟩
theorem Ts.setK (h : Ts w W g r l k t n a) (hn : VRow W' k 3 [.int .i64 (c : Int)]) (ho : ∀ j, j ≠ k → W'.heap[j]? = W.heap[j]?) (hb : Below k W W') : Ts w W' g r l k t n c :=
  ⟨h.q.other ho h.gk, h.z.other ho h.rk, h.vl.off ho h.lkn, hn, h.b.trans (hb.mono h.lk), h.lg, h.lr, h.ll, h.lk, h.gr, h.gl, h.gk, h.rl, h.rk, h.lkn⟩
theorem Ts.cl (h : Ts w W g r l k t n a) : W.cell? ⟨l, 0, none⟩ = some (.int .i64 (n : Int)) := h.vl.cell 0 _ rfl
theorem Ts.ck (h : Ts w W g r l k t n a) : W.cell? ⟨k, 0, none⟩ = some (.int .i64 (a : Int)) := h.vk.cell 0 _ rfl
end
set_option maxHeartbeats 1000000 in
set_option maxRecDepth 100000 in
theorem round_no {w W : World} {g r l k : Nat} {t : Tm} {n a : Nat} (h : t.ok) (hs : Ts w W g r l k t n a) (hn : (n : Int) ≤ 9223372036854775807) (hx : nextT t = 0 ∨ n < nextT t) :
    Calls Try.prog 22 #[.pointer (some ⟨g, 0, none⟩), .pointer (some ⟨l, 0, none⟩), .pointer (some ⟨k, 0, none⟩)] W fun x W' => x = .returned (.int .i64 0) ∧ Ts w W' g r l k t n a := by
  have T0 := Lib.hid hs
  have KN := Lib.hid (fun X => nextT_any t X h)
  have hle := nextT_le t
  obtain ⟨q, hq⟩ : ∃ q, nextT t = q := ⟨_, rfl⟩
  rw [hq] at KN hx hle
  clear hs hq h
  by_cases hz : q = 0
  · subst hz
    clear hx hle
    go_enter Try.func22, Try.ntmps22
    go_wp2_with (first
      | ((with_reducible show wpList _ _ _ (⟨some 5, .load 25 (.tmp 0), _, _, _, _⟩ :: _) _ _); refine wpList_load_t (by rfl) 25 _ rfl g (by exact rfl) _ Try.underlying25 (by kernel_rfl) 25 T0.out.q ?_)
      | (go_at_call 7; refine (KN.out _).mono ?_; rintro e WA ⟨rfl, hB⟩; have T1 := Lib.hid (T0.out.under hB); have cl := T1.out.cl; have ck := T1.out.ck; have c1 := T1.out.q.c0; clear hB))
    go_ret
    exact ⟨rfl, T1.out⟩
  · have hl : n < q := by omega
    have d1 : ((q : Int) == 0) = false := by simpa using hz
    have d2 : (n : Int) < (q : Int) := by omega
    clear hx hz hl
    go_enter Try.func22, Try.ntmps22
    go_wp2_with (first
      | ((with_reducible show wpList _ _ _ (⟨some 5, .load 25 (.tmp 0), _, _, _, _⟩ :: _) _ _); refine wpList_load_t (by rfl) 25 _ rfl g (by exact rfl) _ Try.underlying25 (by kernel_rfl) 25 T0.out.q ?_)
      | (go_at_call 7; refine (KN.out _).mono ?_; rintro e WA ⟨rfl, hB⟩; have T1 := Lib.hid (T0.out.under hB); have cl := T1.out.cl; have ck := T1.out.ck; have c1 := T1.out.q.c0; clear hB))
    go_ret
    exact ⟨rfl, T1.out⟩
theorem tick_at {t : Tm} (h : t.ok) (p : Nat) (hq : nextT t = p + 1) (hr : t.c % 2 = 1) : tickT ⟨(t.a + p) % 65536, t.b, t.c⟩ = ticksT t (p + 1) := by
  obtain ⟨e1, _⟩ := ticks_before h hr p (by omega)
  have ho : onT t p = ⟨(t.a + p) % 65536, t.b, t.c⟩ := if_neg (by omega)
  rw [ticksT, e1, ho]
set_option maxHeartbeats 1000000 in
set_option maxRecDepth 100000 in
theorem round_yes {w W : World} {g r l k : Nat} {t : Tm} {n a : Nat} (h : t.ok) (hs : Ts w W g r l k t n a) (hn : (n : Int) ≤ 9223372036854775807) (ha : a ≤ 10) (hr : t.c % 2 = 1) (hx : nextT t ≤ n) :
    Calls Try.prog 22 #[.pointer (some ⟨g, 0, none⟩), .pointer (some ⟨l, 0, none⟩), .pointer (some ⟨k, 0, none⟩)] W fun x W' => x = .returned (.int .i64 (nextT t : Nat)) ∧ Ts w W' g r l k (ticksT t (nextT t)) (n - nextT t) (a + 1) := by
  have T0 := Lib.hid hs
  have KN := Lib.hid (fun X => nextT_any t X h)
  have hle := nextT_le t
  have ho1 := h.a
  have ho2 := h.b
  have ho3 := h.c
  have hqr := nextT_run hr
  obtain ⟨p, hp⟩ : ∃ p, (t.b + 65535 - t.a) % 65536 = p := ⟨_, rfl⟩
  rw [hp] at hqr
  have hta := tick_at h p hqr hr
  obtain ⟨q, hq⟩ : ∃ q, nextT t = q := ⟨_, rfl⟩
  have hqp : p + 1 = q := by omega
  rw [hqp] at hta
  rw [hq] at KN hx hle ⊢
  have KW := Lib.hid (fun X => wrapped_any ((t.a : Int) + (q : Int) - 1) X (by omega) (by omega))
  have e1 : low16 ((t.a : Int) + (q : Int) - 1) = (t.a + p) % 65536 := by unfold low16; omega
  rw [e1] at KW
  have KT := Lib.hid (fun X => tickT_any ⟨(t.a + p) % 65536, t.b, t.c⟩ X ⟨Nat.mod_lt _ (by decide), ho2, ho3⟩)
  rw [hta] at KT
  obtain ⟨tm, htm⟩ : ∃ x, (Tm.mk ((t.a + p) % 65536) t.b t.c) = x := ⟨_, rfl⟩
  rw [htm] at KT
  obtain ⟨b, hb⟩ : ∃ x, asksT tm = x := ⟨_, rfl⟩
  rw [hb] at KT
  obtain ⟨t2, ht2⟩ : ∃ x, ticksT t q = x := ⟨_, rfl⟩
  rw [ht2] at KT ⊢
  obtain ⟨m, hm⟩ : ∃ x, (t.a + p) % 65536 = x := ⟨_, rfl⟩
  rw [hm] at htm KW
  have HM := Lib.hid htm
  have HS : Hid ((n : Int) - (q : Int) = ((n - q : Nat) : Int)) := Lib.hid (by omega)
  have HA : Hid ((a : Int) + 1 = ((a + 1 : Nat) : Int)) := Lib.hid rfl
  have d1 : ((q : Int) == 0) = false := by simp; omega
  have d2 : ¬ (n : Int) < (q : Int) := by omega
  have d3 : (q : Int) ≤ (n : Int) := by omega
  have d4 : 0 < (q : Int) := by omega
  have d5 : (q : Int) ≤ 65536 := by omega
  have d6 : (a : Int) ≤ 10 := by omega
  have c0 := T0.out.q.c0
  clear hs hq h hqr hp hta hqp e1 htm hb ht2 hm hx hle hr
  go_enter Try.func22, Try.ntmps22
  go_wp2_with (first
    | ((with_reducible show wpList _ _ _ (⟨none, .store 3 (.tmp 2) (.tmp 31), _, _, _, _⟩ :: _) _ _); refine wpList_store_c rfl 3 _ _ rfl k 0 (by exact rfl) (.int .i64 ((a + 1 : Nat) : Int)) (by first | exact rfl | (rw [← HA.out]; exact rfl)) rfl (by kernel_rfl) 3 _ T5.out.vk (show 0 < 1 by decide) ?_; intro WG HN HO HB; have T6 := Lib.hid (T5.out.setK HN.out HO.out HB.out); clear HN HO HB)
    | ((with_reducible show wpList _ _ _ (⟨none, .store 3 (.tmp 1) (.tmp 29), _, _, _, _⟩ :: _) _ _); refine wpList_store_c rfl 3 _ _ rfl l 0 (by exact rfl) (.int .i64 ((n - q : Nat) : Int)) (by first | exact rfl | (rw [← HS.out]; exact rfl)) rfl (by kernel_rfl) 3 _ T4.out.vl (show 0 < 1 by decide) ?_; intro WF HN HO HB; have T5 := Lib.hid (T4.out.setL HN.out HO.out HB.out); clear HN HO HB; have kf := T5.out.ck)
    | ((with_reducible show wpList _ _ _ (⟨none, .store 25 (.tmp 0) (.tmp 25), _, _, _, _⟩ :: _) _ _); refine wpList_store_t rfl 25 _ _ rfl g (by exact rfl) (by exact rfl) (by kernel_rfl) 25 T3.out.q ?_; intro WE HN HO HB; have T4 := Lib.hid (T3.out.setG HN.out HO.out HB.out); clear HN HO HB; have fWE := T4.out.cl; have kWE := T4.out.ck)
    | (go_at_call 11; refine (KT.out _).mono ?_; rintro e WD ⟨rfl, hB⟩; have T3 := Lib.hid (T2.out.under hB); clear hB)
    | ((with_reducible show wpList _ _ _ (⟨some 23, .load 25 (.tmp 0), _, _, _, _⟩ :: _) _ _); refine wpList_load_t (by rfl) 25 _ rfl g (by exact rfl) _ Try.underlying25 (by kernel_rfl) 25 T2.out.q ?_)
    | ((with_reducible show wpList _ _ _ (⟨none, .store 22 (.tmp 21) (.tmp 20), _, _, _, _⟩ :: _) _ _); refine wpList_store_c rfl 22 _ _ rfl g 0 (by exact rfl) (.int .u16 (m : Int)) (by exact rfl) rfl (by kernel_rfl) 25 _ T1.out.q (show 0 < 3 by decide) ?_; intro WC HN HO HB; have T2 : Hid (Ts w WC g r l k tm n a) := Lib.hid (T1.out.setG (by rw [← HM.out]; exact HN.out) HO.out HB.out); clear HN HO HB)
    | (go_at_call 19; refine (KW.out _).mono ?_; rintro e WB ⟨rfl, rfl⟩)
    | (go_at_call 7; refine (KN.out _).mono ?_; rintro e WA ⟨rfl, hB⟩; have T1 := Lib.hid (T0.out.under hB); have cl := T1.out.cl; have ck := T1.out.ck; have c1 := T1.out.q.c0; clear hB)
    | ((with_reducible show wpList _ _ _ (⟨some 5, .load 25 (.tmp 0), _, _, _, _⟩ :: _) _ _); refine wpList_load_t (by rfl) 25 _ rfl g (by exact rfl) _ Try.underlying25 (by kernel_rfl) 25 T0.out.q ?_))
  go_ret
  exact ⟨rfl, T6.out⟩
end Go.Proofs.Ytgibindoblhkeaa
