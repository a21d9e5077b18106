/-
  The program's iterator over a script's inputs: what it yields, one behind the other, till it is told to stop. Made by wip/genworldok7.py.
-/
import Derived.Test.YtimlhckihkjifaaOkLev
namespace Go.Proofs.Ytimlhckihkjifaa
open Go.RowKit Go.Shelf
set_option linter.unusedVariables false
set_option linter.unusedSimpArgs false
attribute [local go_sem] Oper.semAt_some
theorem wpListIn_load_v {F : Fence} {n : Nat} {P : Program} {ops : Array Oper} {rest : List Oper} {o : Oper} {a : Act} {w : World} {Q : Exit → Act → World → Prop} (hw : Region.wanted o (yielded ops a.tmps) = true) (ty : TypeId) (x : Operand) (ho : o.op = .load ty x) (g : Nat) (hx : a.eval x = .pointer (some ⟨g, 0, none⟩))
    (fs : Array Field) (hu : P.underlying ty = some (.struct fs)) (t : TypeId) (cs : List Value) (hr : VRow w g t cs) (hi : (P.info? ty).map (·.size) = some cs.length)
    (h : wpListIn F n P ops Q rest (a.put o.dst (.agg cs.toArray)) w) : wpListIn F n P ops Q (o :: rest) a w :=
  BigFrame.wpListIn_want hw fun K hK => by
    refine ⟨fun f hf => by simp [Oper.about, ho] at hf, ?_⟩
    rw [Oper.semAt_eq _ _ _ (by simp [ho])]
    unfold execOp
    simp only [ho, hx, Instr.loadAt, Instr.sureAddr, Sem.run_bind, Sem.run_pure, Result.andThen_ok, run_loadVar_at w g 0 ty cs _ (row_cells hr) hu rfl hi]
    exact hK _ _ h
set_option maxHeartbeats 4000000 in
set_option maxRecDepth 100000 in
theorem played_iter (n l sb fb : Nat) (A : Option Addr) (cap t : Nat) (L : List In) (J : Nat → World → Prop) (Z : World → Prop) (hcap : L.length ≤ cap) (ht : t ≤ L.length) (hlen : L.length ≤ 9223372036854775807)
    (hJE : ∀ j W, J j W → W.cell? ⟨sb, 0, none⟩ = some (.slice A L.length cap) ∧ W.cell? ⟨fb, 0, none⟩ = some (.int .i64 (t : Int)) ∧ Rd W W.heap.size A L)
    (hJB : ∀ j W W', J j W → Below W.heap.size W W' → J j W')
    (hJY : ∀ j x W, t ≤ j → L[j]? = some x → J j W → YieldAt Fence.wide n Try.prog l #[.agg #[.int .i64 x.a, .int .i64 x.k, .int .u8 (x.v : Int)]] W fun e W' => (e = .returned (.bool true) ∧ J (j + 1) W') ∨ (e = .returned (.bool false) ∧ Z W'))
    (W : World) (hj : J t W) :
    CallsIn Fence.wide (n + 1) Try.prog 38 #[.func (.yield l) #[] #[], .pointer (some ⟨sb, 0, none⟩), .pointer (some ⟨fb, 0, none⟩)] W fun e W' => (∃ v, e = .returned v) ∧ (J L.length W' ∨ Z W') := by
  have HE := Lib.hid hJE
  have HB := Lib.hid hJB
  have HY := Lib.hid hJY
  have HCP := Lib.hid hcap
  have HJ0 := Lib.hid hj
  have h0 := hJE t W hj
  have c1 := h0.1
  have c2 := h0.2.1
  have hS := fun W => run_rest A L.length cap t ht W
  obtain ⟨RA, hRA⟩ : ∃ a, restA A cap t = a := ⟨_, rfl⟩
  obtain ⟨RL, hRL⟩ : ∃ n, L.length - t = n := ⟨_, rfl⟩
  obtain ⟨RC, hRC⟩ : ∃ n, cap - t = n := ⟨_, rfl⟩
  rw [hRA, hRL, hRC] at hS
  have HRD : Hid (∀ W, Rd W W.heap.size A L → Rd W W.heap.size RA (L.drop t)) := Lib.hid (fun W h => by rw [← hRA]; exact h.rest hcap)
  have hRL2 : t + RL = L.length := by omega
  clear hJE hJB hJY hj h0 hRA hRC hcap
  refine callsIn_of_wp Try.func38 rfl trivial ?_ rfl
  simp only [Try.ntmps38, List.size_toArray, List.length_cons, List.length_nil, Nat.reduceAdd, Nat.reduceSub, Array.replicate_succ, Array.replicate_zero, List.push_toArray, List.append_toArray, List.nil_append, List.cons_append]
  gi_wp2
  clear hS c1 c2
  gi_loopw [10] (fun iv wr => ∃ k : Nat, k ≤ RL ∧ iv = .int .i64 (k : Int) ∧ J (t + k) wr) (fun iv _ => RL - (intOf iv).toNat)
  case atStart => exact ⟨0, by omega, rfl, HJ0.out⟩
  case round =>
    clear HJ0
    obtain ⟨k, hk, rfl, hjk⟩ := hrel
    obtain ⟨u, hu⟩ : ∃ W, wr = W := ⟨_, rfl⟩
    rw [hu] at hjk ⊢
    have HJ := Lib.hid hjk
    clear hjk hu
    by_cases hlt : k < RL
    · obtain ⟨x, hx⟩ : ∃ x, L[t + k]? = some x := ⟨L[t + k], List.getElem?_eq_getElem (by omega)⟩
      have hx2 : (L.drop t)[k]? = some x := by rw [List.getElem?_drop]; exact hx
      obtain ⟨a, hA, hab, hok, hc, _⟩ := (HRD.out u (HE.out _ u HJ.out).2.2).get hx2
      subst hA
      have d1 : (k : Int) < (RL : Int) := by omega
      have HC := Lib.hid hc
      have HX := Lib.hid hx
      have HLT := Lib.hid (And.intro hlt hRL2)
      clear hx hx2 hc hok hab
      obtain ⟨fn, tmps, asg, bdy, hy, hR⟩ := HY.out (t + k) x (u.alloc (.cells #[.int .i64 x.a, .int .i64 x.k, .int .u8 (x.v : Int)] 25)) (by omega) HX.out (HB.out _ u _ HJ.out ((Below.refl _ _).alloc (Nat.le_refl _) _))
      have HR := Lib.hid hR
      clear hR
      gi_wp2
      refine HR.out.mono ?_
      rintro e w3 (⟨rfl, hj3⟩ | ⟨rfl, hz3⟩)
      · have HJ3 := Lib.hid hj3
        clear hy HR hj3
        gi_wp2
        go_roundw
        case rel => exact ⟨k + 1, by omega, by go_num, HJ3.out⟩
        case measure =>
          simp [intOf]
          have := HLT.out.1
          (try omega)
      · have HZ3 := Lib.hid hz3
        clear hy HR hz3
        gi_wp2
        refine bodyPost_ret (results_none rfl _ _ _) rfl ?_
        exact ⟨⟨_, rfl⟩, .inr HZ3.out⟩
    · obtain rfl : k = RL := by omega
      have d1 : ¬ (k : Int) < (k : Int) := by omega
      rw [hRL2] at HJ
      gi_wp2
      go_end0
      exact ⟨⟨_, rfl⟩, .inl HJ.out⟩
end Go.Proofs.Ytimlhckihkjifaa
