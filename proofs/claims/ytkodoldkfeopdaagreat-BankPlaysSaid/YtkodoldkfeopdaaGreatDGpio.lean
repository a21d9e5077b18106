/-
  Gp: my texts of that device in one, in a namespace of its own. Made by wip/tools/merge.py.
-/
import Derived.Test.YtkodoldkfeopdaaGreatVRow
import Derived.Laws.StructEq
import Derived.IntWalk
/- G -/
namespace Go.Proofs.YtkodoldkfeopdaaGreat.Gp
open Go.RowKit
set_option linter.unusedVariables false
set_option maxRecDepth 100000
def gc (o i e : Nat) : List Value := [.int .u8 (o : Int), .int .u8 (i : Int), .int .u8 (e : Int)]
def gv (o i e : Nat) : Value := .agg #[.int .u8 (o : Int), .int .u8 (i : Int), .int .u8 (e : Int)]
theorem gv_eq (o i e : Nat) : gv o i e = .agg (gc o i e).toArray := rfl
theorem gc_one (o i e : Nat) : ∀ u ∈ gc o i e, u.oneCell' = true := by
  intro u hu
  simp only [gc, List.mem_cons, List.not_mem_nil, or_false] at hu
  rcases hu with rfl | rfl | rfl <;> rfl
/-- The lowest byte. -/
def lowN (v : Int) : Nat := (v % 256).toNat
theorem lowN_lt (v : Int) : lowN v < 256 := by
  have := Int.emod_nonneg v (show (256 : Int) ≠ 0 by decide)
  have := Int.emod_lt_of_pos v (show (0 : Int) < 256 by decide)
  unfold lowN
  omega
theorem lowN_cast (v : Int) : ((lowN v : Nat) : Int) = v % 256 := by
  have := Int.emod_nonneg v (show (256 : Int) ≠ 0 by decide)
  unfold lowN
  omega
/-- Is pin n's bit set? -/
def bitB (v n : Nat) : Bool := v / 2 ^ n % 2 == 1
def peekN (o i e : Nat) (reg : Int) : Int := if reg = 0 then o else if reg = 1 then i else if reg = 2 then e else 0
def outN (o : Nat) (reg v : Int) : Nat := if reg = 0 then lowN v else o
def edgeN (e : Nat) (reg v : Int) : Nat := if reg = 2 then lowN v else e
/-- Which of the pins below k rise. -/
def riseK (was is k : Nat) : List Nat := (List.range k).filter fun n => !bitB was n && bitB is n
theorem riseK_succ (was is k : Nat) : riseK was is (k + 1) = if !bitB was k && bitB is k then riseK was is k ++ [k] else riseK was is k := by
  unfold riseK
  rw [List.range_succ, List.filter_append]
  by_cases h : (!bitB was k && bitB is k) = true
  · simp [h]
  · simp [h]
theorem riseK_lt (was is k : Nat) : ∀ n ∈ riseK was is k, n < k := fun n hn => by simpa using (List.mem_filter.1 hn).1
theorem riseK_len (was is k : Nat) : (riseK was is k).length ≤ k := Nat.le_trans (List.length_filter_le _ _) (by simp)
def iv (n : Nat) : Value := .int .i64 (n : Int)
/-- Of the pins of l, is one looked at? -/
def asksL (e : Nat) (l : List Nat) : Bool := l.any (bitB e)
theorem asksL_snoc (e : Nat) (l : List Nat) (n : Nat) : asksL e (l ++ [n]) = (asksL e l || bitB e n) := by simp [asksL]
/-! ### are two the same? -/
theorem run_eq_g (t : TypeId) (w : World) (ht : Tryz.prog.underlying t = Tryz.prog.underlying 24) (hp : Tryz.prog.stoodInHeld t = false) (o i e o' i' e' : Nat) :
    (Op.equalIn 10000 t (gv o i e) (gv o' i' e')).run Tryz.prog w = .ok (decide (o = o' ∧ i = i' ∧ e = e')) w := by
  have hf : Tryz.prog.fieldsOf t = #[⟨"Out", 5, 0, false, "", "", 0⟩, ⟨"In", 5, 1, false, "", "", 1⟩, ⟨"Edge", 5, 2, false, "", "", 2⟩] := by
    unfold Program.fieldsOf
    rw [ht]
    rfl
  have hpart : ∀ (cs : Array Value) (j : Nat) (v : Value), cs[j]? = some v → (part 5 cs j).run Tryz.prog w = .ok v w := fun cs j v h => by
    simp [part, isAgg, run_underlying Tryz.underlying5, h]
  have hint : ∀ a b : Int, (Op.equalIn 9999 5 (.int .u8 a) (.int .u8 b)).run Tryz.prog w = .ok (a == b) w := fun a b => run_equalIn_int w 9998 5 .u8 .u8 a b Tryz.underlying5
  unfold gv
  rw [run_equalIn_struct w 9999 t _ _ (by rw [hf, ht]; rfl) hp, hf]
  have a0 := hpart #[.int .u8 (o : Int), .int .u8 (i : Int), .int .u8 (e : Int)] 0 (.int .u8 (o : Int)) rfl
  have a1 := hpart #[.int .u8 (o : Int), .int .u8 (i : Int), .int .u8 (e : Int)] 1 (.int .u8 (i : Int)) rfl
  have a2 := hpart #[.int .u8 (o : Int), .int .u8 (i : Int), .int .u8 (e : Int)] 2 (.int .u8 (e : Int)) rfl
  have b0 := hpart #[.int .u8 (o' : Int), .int .u8 (i' : Int), .int .u8 (e' : Int)] 0 (.int .u8 (o' : Int)) rfl
  have b1 := hpart #[.int .u8 (o' : Int), .int .u8 (i' : Int), .int .u8 (e' : Int)] 1 (.int .u8 (i' : Int)) rfl
  have b2 := hpart #[.int .u8 (o' : Int), .int .u8 (i' : Int), .int .u8 (e' : Int)] 2 (.int .u8 (e' : Int)) rfl
  simp only [Op.eqFields, ne_eq, Sem.run_bind, Sem.run_ite, a0, a1, a2, b0, b1, b2, hint, Result.andThen_ok]
  by_cases h1 : o = o'
  · by_cases h2 : i = i'
    · by_cases h3 : e = e'
      · simp [h1, h2, h3]
      · have : ¬ (e : Int) = (e' : Int) := by omega
        simp [h1, h2, h3, this]
    · have : ¬ (i : Int) = (i' : Int) := by omega
      simp [h1, h2, this]
  · have : ¬ (o : Int) = (o' : Int) := by omega
    simp [h1, this]
theorem run_eql_g (w : World) (o i e o' i' e' : Nat) : (binOp .eql 24 (gv o i e) (gv o' i' e')).run Tryz.prog w = .ok (.bool (decide (o = o' ∧ i = i' ∧ e = e'))) w := by
  have h := run_eq_g 24 w rfl (by kernel_rfl) o i e o' i' e'
  unfold gv at h ⊢
  rw [run_eql_struct, h]
  rfl
theorem guard_g (w : World) (x y : Operand) (o i e o' i' e' : Nat) : (eqGuard .eql 24 x y (gv o i e) (gv o' i' e')).run Tryz.prog w = .ok () w := run_eqGuard_agg w _ _ _ _ _ _ Tryz.eqGuardType24
theorem i64info : (Tryz.prog.info? 3).map (fun i => (i.zero, i.size, i.bytes)) = some (some (.int .i64 0), 1, 8) := by kernel_rfl
end Go.Proofs.YtkodoldkfeopdaaGreat.Gp
/- Ref -/
namespace Go.Proofs.YtkodoldkfeopdaaGreat.Gp
open Go.RowKit
set_option linter.unusedVariables false
set_option maxRecDepth 100000
theorem low_any (v : Int) (w : World) (h1 : -2147483648 ≤ v) (h2 : v ≤ 2147483647) : Calls Tryz.prog 39 #[.int .i32 v] w fun e w' => e = .returned (.int .u8 (lowN v : Nat)) ∧ w' = w := by
  have hc := lowN_cast v
  have hd := Int.mul_tdiv_add_tmod v 256
  have hb := tmod_lt2 v 256 (by decide)
  have hw : IntKind.i64.wrap (v.tmod 256 + 256) = v.tmod 256 + 256 := IntWalk.i64_in _ (by omega)
  have he : (v.tmod 256 + 256).tmod 256 = (v.tmod 256 + 256) % 256 := Int.tmod_eq_emod_of_nonneg (by omega)
  have hk : (v.tmod 256 + 256) % 256 = (lowN v : Nat) := by rw [hc]; omega
  have hl := lowN_lt v
  rw [hk] at he
  have hm : ((lowN v : Nat) : Int) % 256 = (lowN v : Nat) := by omega
  go_enter Tryz.func39, Tryz.ntmps39
  go_wp2
  go_ret
  exact ⟨by rw [hc]; rfl, rfl⟩
theorem bit_any (v n : Nat) (w : World) (hv : v < 256) (hn : n ≤ 8) : Calls Tryz.prog 52 #[.int .u8 v, .int .i64 n] w fun e w' => e = .returned (.bool (bitB v n)) ∧ w' = w := by
  go_enter Tryz.func52, Tryz.ntmps52
  go_wp2
  go_loopw [0, 5] (fun vv iv wr => ∃ k : Nat, k ≤ n ∧ iv = .int .i64 k ∧ vv = .int .u8 ((v / 2 ^ k : Nat) : Int) ∧ wr = w) (fun _ iv _ => n - (intOf iv).toNat)
  case atStart => exact ⟨0, by omega, rfl, by simp, rfl⟩
  case round =>
    obtain ⟨k, hk, rfl, rfl, rfl⟩ := hrel
    have hvk : v / 2 ^ k < 256 := Nat.lt_of_le_of_lt (Nat.div_le_self _ _) hv
    by_cases hlt : k < n
    · have d1 : (k : Int) < (n : Int) := by omega
      obtain ⟨x, hx⟩ : ∃ x, v / 2 ^ k = x := ⟨_, rfl⟩
      rw [hx]
      have hx2 : v / 2 ^ (k + 1) = x / 2 := by rw [← hx, Nat.pow_succ, Nat.div_div_eq_div_mul]
      rw [hx] at hvk
      have t1 : (x : Int).tdiv 2 = ((x / 2 : Nat) : Int) := rfl
      go_wp2
      go_roundw
      case rel => exact ⟨k + 1, by omega, by go_num, by rw [hx2]; simp, by first | rfl | trivial⟩
      case measure =>
        simp [intOf]
        omega
    · obtain rfl : k = n := by omega
      obtain ⟨x, hx⟩ : ∃ x, v / 2 ^ k = x := ⟨_, rfl⟩
      rw [hx]
      go_wp2
      go_ret
      refine ⟨ret_bool ?_, rfl⟩
      rw [bitB, hx, Bool.eq_iff_iff]
      simp
      omega
end Go.Proofs.YtkodoldkfeopdaaGreat.Gp
/- Ref2 -/
namespace Go.Proofs.YtkodoldkfeopdaaGreat.Gp
open Go.RowKit
set_option linter.unusedVariables false
set_option maxRecDepth 100000
theorem rPeek_any (o i e : Nat) (reg : Int) (w : World) (ho : o < 256) (hi : i < 256) (he : e < 256) : Calls Tryz.prog 44 #[gv o i e, .int .i64 reg] w fun x w' => x = .returned (.int .i32 (peekN o i e reg)) ∧ Below w.heap.size w w' := by
  have hf : ∀ r : Int, Below w.heap.size w (w.alloc (.cells #[.int .u8 (o : Int), .int .u8 (i : Int), .int .u8 (e : Int)] 38)) := fun _ => (Below.refl _ _).alloc (Nat.le_refl _) _
  unfold gv peekN
  by_cases h0 : reg = 0
  · subst h0
    go_enter Tryz.func44, Tryz.ntmps44
    go_wp2
    go_ret
    exact ⟨rfl, hf 0⟩
  · by_cases h1 : reg = 1
    · subst h1
      go_enter Tryz.func44, Tryz.ntmps44
      go_wp2
      go_ret
      exact ⟨rfl, hf 0⟩
    · by_cases h2 : reg = 2
      · subst h2
        go_enter Tryz.func44, Tryz.ntmps44
        go_wp2
        go_ret
        exact ⟨rfl, hf 0⟩
      · rw [if_neg h0, if_neg h1, if_neg h2]
        go_enter Tryz.func44, Tryz.ntmps44
        go_wp2
        go_ret
        exact ⟨rfl, hf 0⟩
theorem rWrite_any (o i e : Nat) (reg v : Int) (w : World) (ho : o < 256) (hi : i < 256) (he : e < 256) (h1 : -2147483648 ≤ v) (h2 : v ≤ 2147483647) : Calls Tryz.prog 22 #[gv o i e, .int .i64 reg, .int .i32 v] w fun x w' => x = .returned (gv (outN o reg v) i (edgeN e reg v)) ∧ Below w.heap.size w w' := by
  have HL : Hid (∀ W : World, Calls Tryz.prog 39 #[.int .i32 v] W fun x w' => x = .returned (.int .u8 (lowN v : Nat)) ∧ w' = W) := Lib.hid (fun W => low_any v W h1 h2)
  unfold gv outN edgeN
  generalize lowN v = n at *
  by_cases h0 : reg = 0
  · subst h0
    rw [if_pos rfl, if_neg (by decide)]
    go_enter Tryz.func22, Tryz.ntmps22
    go_wp2_with (go_at_call 39; refine (HL.out _).mono ?_; rintro x w1 ⟨rfl, rfl⟩)
    refine bodyPost_ret (v := gv n i e) (results_c Tryz.results22 _ _ _ _ _ rfl (run_loadVar_v _ _ _ _ Tryz.underlying38 38 (gc n i e) (two_at _ _ _) (by kernel_rfl))) rfl ⟨rfl, two_below _ _ _⟩
  · by_cases h3 : reg = 2
    · subst h3
      rw [if_neg (by decide), if_pos rfl]
      go_enter Tryz.func22, Tryz.ntmps22
      go_wp2_with (go_at_call 39; refine (HL.out _).mono ?_; rintro x w1 ⟨rfl, rfl⟩)
      refine bodyPost_ret (v := gv o i n) (results_c Tryz.results22 _ _ _ _ _ rfl (run_loadVar_v _ _ _ _ Tryz.underlying38 38 (gc o i n) (two_at _ _ _) (by kernel_rfl))) rfl ⟨rfl, two_below _ _ _⟩
    · rw [if_neg h0, if_neg h3]
      go_enter Tryz.func22, Tryz.ntmps22
      go_wp2
      refine bodyPost_ret (v := gv o i e) (results_c Tryz.results22 _ _ _ _ _ rfl (run_loadVar_v _ _ _ _ Tryz.underlying38 38 (gc o i e) (two_at _ _ _) (by kernel_rfl))) rfl ⟨rfl, two_below _ _ _⟩
end Go.Proofs.YtkodoldkfeopdaaGreat.Gp
/- Ref3 -/
namespace Go.Proofs.YtkodoldkfeopdaaGreat.Gp
open Go.RowKit
set_option linter.unusedVariables false
set_option maxRecDepth 100000
/-- The slice v is of the call's own memory, from block B on, and holds these numbers. -/
def OwnN (w : World) (B : Nat) (v : Value) (l : List Nat) : Prop := w.ownsRow B 3 1 v l.length (l.map iv)
theorem OwnN.form {w : World} {B : Nat} {v : Value} {l : List Nat} (h : OwnN w B v l) : ∃ A c, v = .slice A l.length c := own_form h
theorem OwnN.at {w : World} {B : Nat} {v : Value} {l : List Nat} (h : OwnN w B v l) (k x : Nat) (hx : l[k]? = some x) : ∃ a c, v = .slice (some a) l.length c ∧ w.cell? (a.add k) = some (.int .i64 (x : Int)) := by
  rcases h.2 with ⟨_, h0⟩ | ⟨g, cap, cur, rfl, hg, hh, hn, hc, hs, ht⟩
  · have : l = [] := List.eq_nil_of_length_eq_zero h0
    subst this
    simp at hx
  · exact ⟨⟨g, 0, none⟩, cap, rfl, World.ownsRow.cells h (g := g) rfl k _ (by simp [List.getElem?_map, hx, iv])⟩
theorem OwnN.below {w w' : World} {B : Nat} {v : Value} {l : List Nat} (h : OwnN w B v l) (hb : Below w.heap.size w w') : OwnN w' B v l := ownsRow_below h hb
set_option maxRecDepth 100000 in
theorem rRising_any (was is : Nat) (w : World) (h1 : was < 256) (h2 : is < 256) : Calls Tryz.prog 51 #[.int .u8 was, .int .u8 is] w fun x w' => ∃ v, x = .returned v ∧ OwnN w' w.heap.size v (riseK was is 8) ∧ Below w.heap.size w w' := by
  obtain ⟨i0, hi0, hz0, hz1, hz2⟩ := info_parts i64info
  have H9 := Lib.hid hz0
  have H10 := Lib.hid hz1
  have H11 := Lib.hid hz2
  have H12 := Lib.hid hi0
  clear hz0 hz1 hz2 hi0
  go_enter Tryz.func51, Tryz.ntmps51
  go_wp2
  go_loopw [5, 6] (fun v kv wr => ∃ k : Nat, k ≤ 8 ∧ kv = .int .i64 k ∧ OwnN wr w.heap.size v (riseK was is k) ∧ Below w.heap.size w wr) (fun _ kv _ => 8 - (intOf kv).toNat)
  case atStart => exact ⟨0, by omega, rfl, World.ownsRow_nil _ _ _ _, Below.refl _ _⟩
  case round =>
    obtain ⟨k, hk, rfl, hown, hb⟩ := hrel
    obtain ⟨A, c, rfl⟩ := hown.form
    have HO := Lib.hid hown
    have HB := Lib.hid hb
    clear hown hb
    by_cases hlt : k < 8
    · have d1 : (k : Int) < 8 := by omega
      have HB1 : Hid (∀ W : World, Calls Tryz.prog 52 #[.int .u8 was, .int .i64 k] W fun x w' => x = .returned (.bool (bitB was k)) ∧ w' = W) := Lib.hid (fun W => bit_any was k W h1 (by omega))
      have HB2 : Hid (∀ W : World, Calls Tryz.prog 52 #[.int .u8 is, .int .i64 k] W fun x w' => x = .returned (.bool (bitB is k)) ∧ w' = W) := Lib.hid (fun W => bit_any is k W h2 (by omega))
      have hlen := riseK_len was is k
      have hsucc := riseK_succ was is k
      obtain ⟨L, hL⟩ : ∃ L, riseK was is k = L := ⟨_, rfl⟩
      rw [hL] at HO hlen hsucc ⊢
      have HS := Lib.hid hsucc
      clear hL hsucc
      cases hb1 : bitB was k
      · rw [hb1] at HB1 HS
        cases hb2 : bitB is k
        · rw [hb2] at HB2 HS
          go_wp2_with (first | (go_at_call 52; (with_reducible refine (HB1.out _).mono ?_); rintro x w1 ⟨rfl, rfl⟩) | (go_at_call 52; (with_reducible refine (HB2.out _).mono ?_); rintro x w1 ⟨rfl, rfl⟩))
          go_roundw
          case rel => exact ⟨k + 1, by omega, by go_num, by rw [HS.out]; exact HO.out, HB.out⟩
          case measure =>
            simp [intOf]
            omega
        · rw [hb2] at HB2 HS
          go_wp2_with (first | (go_at_call 52; (with_reducible refine (HB1.out _).mono ?_); rintro x w1 ⟨rfl, rfl⟩) | (go_at_call 52; (with_reducible refine (HB2.out _).mono ?_); rintro x w1 ⟨rfl, rfl⟩) | (at_builtin; go_must (refine wpList_append_blk _ rfl (.tmp 20) (.tmp 22) 120 rfl w.heap.size 3 i0 (.int .i64 0) 1 8 Tryz.underlying120 H12.out H9.out H10.out H11.out rfl (by decide) (.slice A L.length c) L.length (L.map iv) rfl (own_ne HO.out (gb_alloc _ none _) (by simp)) ⟨_, 0, none⟩ 1 1 [iv k] rfl rfl (new_one _ _ _ _ rfl) (by simp [Value.oneCell', iv]) (by simp only [maxLen]; omega) (by omega) (by have := HB.out.size; simp; omega) ?_; intro v3 w3 hown3 hg3 hb3; obtain ⟨g3, cap3, rfl⟩ := own_succ hown3; have O3 := Lib.hid hown3; have G3 := Lib.hid hg3; clear hown3 hg3 hb3)))
          go_roundw
          case rel => exact ⟨k + 1, by omega, by go_num, by rw [HS.out]; exact (by simpa [OwnN] using O3.out), below_gb (HB.out.alloc HB.out.size _) G3.out (by have := HB.out.size; simp; omega) (fun b hb => (HO.out.lt b hb).1)⟩
          case measure =>
            simp [intOf]
            omega
      · rw [hb1] at HB1 HS
        go_wp2_with (go_at_call 52; (with_reducible refine (HB1.out _).mono ?_); rintro x w1 ⟨rfl, rfl⟩)
        go_roundw
        case rel => exact ⟨k + 1, by omega, by go_num, by rw [HS.out]; exact HO.out, HB.out⟩
        case measure =>
          simp [intOf]
          omega
    · obtain rfl : k = 8 := by omega
      go_wp2
      go_ret
      exact ⟨_, rfl, HO.out, HB.out⟩
end Go.Proofs.YtkodoldkfeopdaaGreat.Gp
/- Ref4 -/
namespace Go.Proofs.YtkodoldkfeopdaaGreat.Gp
open Go.RowKit
set_option linter.unusedVariables false
set_option maxRecDepth 100000
set_option maxRecDepth 100000 in
theorem rPins_any (o i e level : Nat) (w : World) (ho : o < 256) (hi : i < 256) (he : e < 256) (hv : level < 256) :
    Calls Tryz.prog 30 #[gv o i e, .int .u8 level] w fun x w' => x = .returned (.tuple #[gv o level e, .bool (asksL e (riseK i level 8))]) ∧ Below w.heap.size w w' := by
  have HRs : Hid (∀ W : World, Calls Tryz.prog 51 #[.int .u8 i, .int .u8 level] W fun x w' => ∃ v, x = .returned v ∧ OwnN w' W.heap.size v (riseK i level 8) ∧ Below W.heap.size W w') := Lib.hid (fun W => rRising_any i level W hi hv)
  have hL8 := riseK_lt i level 8
  have hLl := riseK_len i level 8
  generalize riseK i level 8 = L at *
  have HL8 := Lib.hid hL8
  clear hL8
  unfold gv
  go_enter Tryz.func30, Tryz.ntmps30
  go_wp2_with (go_at_call 51; refine (HRs.out _).mono ?_; rintro x w1 ⟨lv, rfl, hown, hB⟩
               have HQ : Hid (VRow w1 w.heap.size 38 (gc o i e)) := Lib.hid (VRow.below (two_at0 _ _ _) hB (by simp; omega))
               have HR : Hid (VRow w1 (w.heap.size + 1) 38 (gc 0 0 0)) := Lib.hid (VRow.below (two_at _ _ _) hB (by simp))
               have HB : Hid (Below w.heap.size w w1) := Lib.hid ((two_below _ _ _).trans (hB.mono (by simp; omega)))
               have HO := Lib.hid hown
               obtain ⟨A, c, rfl⟩ := hown.form
               clear hB hown)
  go_loopw [7, 8] (fun av kv wr => ∃ k : Nat, k ≤ L.length ∧ kv = .int .i64 k ∧ av = .bool (asksL e (L.take k)) ∧ Below w1.heap.size w1 wr) (fun _ kv _ => L.length - (intOf kv).toNat)
  case atStart => exact ⟨0, by omega, rfl, by simp [asksL], Below.refl _ _⟩
  case round =>
    obtain ⟨k, hk, rfl, rfl, hb⟩ := hrel
    have HBR := Lib.hid hb
    have q2 : wr.cell? ⟨w.heap.size, 2, none⟩ = some (.int .u8 (e : Int)) := (VRow.below HQ.out hb HQ.out.lt).cell 2 _ rfl
    have OR := Lib.hid (HO.out.below hb)
    clear hb
    by_cases hlt : k < L.length
    · have d1 : (k : Int) < (L.length : Int) := by omega
      obtain ⟨n, hn⟩ : ∃ n, L[k]? = some n := ⟨_, List.getElem?_eq_getElem hlt⟩
      obtain ⟨a, c', hA, hcn⟩ := OR.out.at k n hn
      injection hA with hA1 hA2 hA3
      subst hA1
      subst hA3
      have hn8 := HL8.out n (List.mem_of_getElem? hn)
      have hst : L.take (k + 1) = L.take k ++ [n] := by rw [List.take_add_one, hn]; rfl
      have HB1 : Hid (∀ W : World, Calls Tryz.prog 52 #[.int .u8 e, .int .i64 n] W fun x w' => x = .returned (.bool (bitB e n)) ∧ w' = W) := Lib.hid (fun W => bit_any e n W he (by omega))
      have HA : Hid (asksL e (L.take (k + 1)) = (asksL e (L.take k) || bitB e n)) := Lib.hid (by rw [hst, asksL_snoc])
      obtain ⟨b0, hb0⟩ : ∃ b0, asksL e (L.take k) = b0 := ⟨_, rfl⟩
      rw [hb0] at HA ⊢
      clear hst hn hA2 hb0
      cases b0
      · go_wp2_with fail
        go_quiet ((go_at_call 52; with_reducible exact Calls.quiet_of_same (HB1.out _)))
        go_wp2_with fail
        go_roundw
        case rel => exact ⟨k + 1, by omega, by go_num, by rw [HA.out]; rfl, Below.drewN' HBR.out _⟩
        case measure =>
          simp [intOf]
          omega
      · go_wp2_with fail
        go_quiet (fail)
        go_wp2_with fail
        go_roundw
        case rel => exact ⟨k + 1, by omega, by go_num, by rw [HA.out]; rfl, Below.drewN' HBR.out _⟩
        case measure =>
          simp [intOf]
          omega
    · obtain rfl : k = L.length := by omega
      have HQW := Lib.hid (VRow.below HQ.out HBR.out HQ.out.lt)
      have HRW := Lib.hid (VRow.below HR.out HBR.out HR.out.lt)
      have HBW : Hid (Below w.heap.size w wr) := Lib.hid (HB.out.trans (HBR.out.mono HB.out.size))
      rw [List.take_length]
      obtain ⟨b1, hb1⟩ : ∃ b1, asksL e L = b1 := ⟨_, rfl⟩
      rw [hb1]
      go_wp2_with (first
        | ((with_reducible show wpList _ _ _ (⟨none, .store 5 (.tmp 30) (.tmp 29), _, _, _, _⟩ :: _) _ _); refine wpList_store_c rfl 5 _ _ rfl w.heap.size 1 (by exact rfl) (.int .u8 (level : Int)) (by exact rfl) rfl (by kernel_rfl) 38 _ HQW.out (show 1 < 3 by decide) ?_; intro w3 HN HO3 HB3
           have HN3 : Hid (VRow w3 w.heap.size 38 (gc o level e)) := HN
           have HR3 : Hid (VRow w3 (w.heap.size + 1) 38 (gc 0 0 0)) := Lib.hid ((HO3.out _ (by omega)).trans HRW.out)
           have HB3' : Hid (Below w.heap.size w w3) := Lib.hid (HBW.out.trans HB3.out)
           clear HN HO3 HB3)
        | ((with_reducible show wpList _ _ _ (⟨some 31, .load 38 (.tmp 2), _, _, _, _⟩ :: _) _ _); refine wpList_load_v (by rfl) 38 _ rfl w.heap.size (by exact rfl) _ Tryz.underlying38 38 _ HN3.out (by kernel_rfl) ?_)
        | ((with_reducible show wpList _ _ _ (⟨none, .store 38 (.tmp 4) (.tmp 31), _, _, _, _⟩ :: _) _ _); refine wpList_store_v rfl 38 _ _ rfl (w.heap.size + 1) (by exact rfl) (gc o level e) (by exact rfl) (by kernel_rfl) (gc_one _ _ _) 38 _ HR3.out rfl ?_; intro w4 HN4 HO4 HB4))
      exact bodyPost_ret (v := .tuple #[gv o level e, .bool b1]) (results_ct Tryz.results30 _ _ _ _ _ _ rfl (run_loadVar_v _ _ _ _ Tryz.underlying38 38 (gc o level e) HN4.out (by kernel_rfl)) rfl) rfl ⟨by rw [hb1]; rfl, HB3'.out.trans (HB4.out.mono (by omega))⟩
end Go.Proofs.YtkodoldkfeopdaaGreat.Gp
