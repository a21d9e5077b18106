/-
  The program's Set by its contract. Made by wip/genworldok5.py.
-/
import Derived.Test.YtimlhckihkjifaaOkCat
namespace Go.Proofs.Ytimlhckihkjifaa
open Go.RowKit
set_option linter.unusedVariables false
set_option linter.unusedSimpArgs false
def restA (A : Option Addr) (cap p : Nat) : Option Addr := if cap = p then A else A.map (·.add (p * 3))
theorem run_rest (A : Option Addr) (len cap p : Nat) (h : p ≤ len) (W : World) : (Instr.sliceAt 22 (.slice A len cap) (some (.int .i64 (p : Int))) none none).run Try.prog W = .ok (.slice (restA A cap p) (len - p) (cap - p)) W := by
  obtain ⟨i0, hi0, -, hz1, -⟩ := info_parts ininfo
  have hsz : (sizeOf 25).run Try.prog W = .ok 3 W := by simp [sizeOf, typeInfo, hi0, hz1]
  have he : Try.prog.elem 22 = 25 := by kernel_rfl
  rw [run_sliceAt_slice W _ _ _ _ _ (by rw [he]; exact Try.underlying22), run_slice_l W _ _ _ _ (by rw [he]; exact Try.underlying22) _ _ (by omega) (by omega), he, hsz]
  simp only [Result.andThen_ok, sliced, restA, Int.toNat_natCast]
theorem Rd.rest {w : World} {B : Nat} {A : Option Addr} {l : List In} (h : Rd w B A l) {cap p : Nat} (hcap : l.length ≤ cap) : Rd w B (restA A cap p) (l.drop p) :=
  ⟨by have := h.len; rw [List.length_drop]; omega, fun x hx => h.ok x (List.mem_of_mem_drop hx), fun j x hj => by
    rw [List.getElem?_drop] at hj
    obtain ⟨a, e, hlt, hc⟩ := h.at_ _ _ hj
    have hlen := (List.getElem?_eq_some_iff.1 hj).1
    refine ⟨a.add (p * 3), ?_, by rw [add_block]; exact hlt, ?_⟩
    · unfold restA
      rw [if_neg (by omega), e]
      rfl
    · rw [Addr.add_add, show p * 3 + j * 3 = (p + j) * 3 by omega]
      exact hc⟩
/-- A call of a named function, whatever its contract. -/
theorem wp_call_any {P : Program} {o : Oper} {a : Act} {w : World} {K : Act → World → Prop} {Q : Exit → Act → World → Prop} (f : FuncId) (xs : List Operand) (ats : Array TypeId)
    (ho : o.op = .call { callee := .value (.func f), args := xs.toArray, argTypes := ats }) (vs : List Value) (hv : xs.map a.eval = vs) (hc : (callFunc f vs.toArray).run P w = .ok (.enter f vs.toArray) w) {R : Ending → World → Prop}
    (h : Calls P f vs.toArray w R) (hk : ∀ e w', R e w' → ∃ val, e = .returned val ∧ K (a.put o.dst val) w') : o.wp P a w K Q := by
  unfold Oper.wp execOp
  simp only [ho, resolve, invoke, List.map_toArray, hv]
  have he : a.eval (.func f) = .func (.func f) #[] #[] := rfl
  simp [he, Deferred.ofValue, hc]
  rw [Oper.upon_enter]
  refine h.mono ?_
  intro e w' hR
  obtain ⟨val, rfl, h2⟩ := hk e w' hR
  exact h2
theorem chk_one (x : In) : (chkL [x]).2 = alE x := by
  unfold chkL chkG
  by_cases h : alE x = 0
  · rw [if_pos (errI_none h), h]
    rfl
  · have e := errI_alone h none
    rw [if_neg (by rw [e]; exact h), e]
theorem ord_zero (y x : In) : ordI y x = 0 ↔ y.a = x.a ∧ y.k = x.k := by
  unfold ordI cmpI
  constructor
  · intro h
    split at h <;> (try split at h) <;> (try split at h) <;> (try split at h) <;> omega
  · rintro ⟨h1, h2⟩
    rw [h1, h2]
    simp
theorem take_lo {l : List In} {x : In} {p : Nat} (h : Plc l x p) : l.filter (fun y => aheadI y x) = l.take p := by
  have e1 : (l.take p).filter (fun y => aheadI y x) = l.take p := List.filter_eq_self.2 fun y hy => by
    obtain ⟨j, hj⟩ := List.mem_iff_getElem?.1 hy
    rw [List.getElem?_take] at hj
    split at hj
    · exact h.lo j y (by assumption) hj
    · cases hj
  have e2 : (l.drop p).filter (fun y => aheadI y x) = [] := List.filter_eq_nil_iff.2 fun y hy => by
    obtain ⟨j, hj⟩ := List.mem_iff_getElem?.1 hy
    rw [List.getElem?_drop] at hj
    rw [h.hi _ y (Nat.le_add_right _ _) hj]
    simp
  have e3 : l.filter (fun y => aheadI y x) = (l.take p).filter (fun y => aheadI y x) ++ (l.drop p).filter (fun y => aheadI y x) := by rw [← List.filter_append, List.take_append_drop]
  rw [e3, e1, e2, List.append_nil]
theorem drop_hi {l : List In} (hs : Scr l) {x : In} {p : Nat} (h : Plc l x p) : l.filter (fun y => aheadI x y) = l.drop (if sameP l x p = true then p + 1 else p) := by
  have e1 : (l.take p).filter (fun y => aheadI x y) = [] := List.filter_eq_nil_iff.2 fun y hy => by
    obtain ⟨j, hj⟩ := List.mem_iff_getElem?.1 hy
    rw [List.getElem?_take] at hj
    split at hj
    · have h1 := (ahead_iff _ _).1 (h.lo j y (by assumption) hj)
      intro h2
      have h3 := (ahead_iff _ _).1 h2
      omega
    · cases hj
  have e3 : l.filter (fun y => aheadI x y) = (l.take p).filter (fun y => aheadI x y) ++ (l.drop p).filter (fun y => aheadI x y) := by rw [← List.filter_append, List.take_append_drop]
  rw [e3, e1, List.nil_append]
  cases hz : l[p]? with
  | none =>
    have hd : l.drop p = [] := List.drop_eq_nil_of_le (List.getElem?_eq_none_iff.1 hz)
    have hsm : sameP l x p = false := by unfold sameP; rw [hz]
    rw [hd, hsm]
    simp [hd]
  | some z =>
    have hd := drop_at l p z hz
    have hsm : sameP l x p = (ordI z x == 0) := by unfold sameP; rw [hz]
    have hlo := h.hi p z (Nat.le_refl _) hz
    have hrest : ∀ y ∈ l.drop (p + 1), aheadI z y = true := fun y hy => by
      obtain ⟨j, hj⟩ := List.mem_iff_getElem?.1 hy
      rw [List.getElem?_drop] at hj
      exact hs.lt (by omega) hz hj
    have hz2 := (ahead_not _ _).1 hlo
    have hxs : ∀ y ∈ l.drop (p + 1), aheadI x y = true := fun y hy => by
      have := (ahead_iff _ _).1 (hrest y hy)
      exact (ahead_iff _ _).2 (by omega)
    have ef : (l.drop (p + 1)).filter (fun y => aheadI x y) = l.drop (p + 1) := List.filter_eq_self.2 hxs
    rw [hd, List.filter_cons, ef, hsm]
    by_cases h0 : ordI z x = 0
    · have h2 := (ord_zero z x).1 h0
      have h3 : aheadI x z = false := (ahead_not _ _).2 (by omega)
      rw [h3, h0]
      simp
    · have h2 : ¬ (z.a = x.a ∧ z.k = x.k) := fun hh => h0 ((ord_zero z x).2 hh)
      have h3 : aheadI x z = true := (ahead_iff _ _).2 (by omega)
      have h4 : (ordI z x == 0) = false := by simpa using h0
      rw [h3, h4, if_pos rfl, if_neg (by simp), hd]
theorem set_plc {l : List In} (hs : Scr l) {x : In} {p : Nat} (h : Plc l x p) : setL l x = l.take p ++ [x] ++ l.drop (if sameP l x p = true then p + 1 else p) := by
  unfold setL
  rw [take_lo h, drop_hi hs h]
set_option maxHeartbeats 4000000 in
set_option maxRecDepth 100000 in
theorem set_any : SetD 16 := by
  intro A cap B l x w hr hB hcap hlen hx
  have HR := Lib.hid hr
  have HBW := Lib.hid hB
  have HL := Lib.hid (And.intro hlen hcap)
  have HXO := Lib.hid hx
  have KC := Lib.hid (fun W h2 h3 => check_any A cap B l W h2 h3)
  clear hr hB hx hlen hcap
  unfold iv
  go_enter Try.func16, Try.ntmps16
  go_upto_region 1 with (fail)
  refine name_one (Q := fun X => Code.wp _ _ _ _ X) ?_
  intro W0 hq1 hB0 hz
  have RX0 : Hid (IRow W0 w.heap.size x) := Lib.hid hq1
  have B0 := Lib.hid hB0
  clear hq1 hB0 hz
  obtain ⟨gx, hgx⟩ : ∃ g, w.heap.size = g := ⟨_, rfl⟩
  have HG := Lib.hid hgx
  rw [hgx] at RX0 ⊢
  clear hgx
  have KC0 := Lib.hid (KC.out W0 (HR.out.below B0.out HBW.out) (Nat.le_trans HBW.out B0.out.size))
  obtain ⟨ci, ce, hce⟩ : ∃ i e, chkL l = (i, e) := ⟨_, _, rfl⟩
  have HCE := Lib.hid hce
  rw [hce] at KC0
  clear hce KC
  go_upto_region 2 with (go_at_call 17; with_reducible refine (KC0.out).mono ?_; rintro e W1 ⟨rfl, hB⟩; have RX1 := Lib.hid (IRow.below RX0.out hB RX0.out.lt); have B1 := Lib.hid (B0.out.trans (hB.mono B0.out.size)); clear hB RX0 B0)
  clear KC0
  by_cases hbad : ce ≠ 0
  · have hbi : ((ce : Int) != 0) = true := by simp; omega
    have hbn : ¬ (ce : Int) = 0 := by omega
    have HE : Hid (setE l x = ce ∧ setR l x = []) := Lib.hid (by
      have h : setE l x = ce := by unfold setE; rw [HCE.out, if_pos hbad]
      exact ⟨h, by unfold setR; rw [h, if_neg hbad]⟩)
    clear hbad
    go_wp2_with fail
    exact bodyPost_ret (v := .tuple #[.slice none 0 0, .int .i64 (ce : Int)]) (results_tt Try.results16 _ _ _ _ _ rfl rfl) rfl ⟨⟨none, 0, by rw [HE.out.1, HE.out.2]; rfl, by rw [HE.out.2]; exact Rd.nil _ _ _, by rw [HE.out.2]; exact Nat.le_refl _⟩, B1.out⟩
  obtain rfl : ce = 0 := by omega
  clear hbad
  have HSC : Hid (Scr l) := Lib.hid (chk_scr (by rw [HCE.out]))
  have KL := Lib.hid (alone_any x W1 HXO.out)
  unfold iv at KL
  go_upto_region 5 with (first
      | (go_at_call 28; with_reducible refine (KL.out).mono ?_; rintro e W2 ⟨rfl, hB⟩; have RX2 := Lib.hid (IRow.below RX1.out hB RX1.out.lt); have B2 := Lib.hid (B1.out.trans (hB.mono B1.out.size)); clear hB RX1 B1)
      | ((with_reducible show wpList _ _ _ (⟨some 20, .load 25 (.tmp 3), _, _, _, _⟩ :: _) _ _); refine wpList_load_v (by rfl) 25 _ rfl gx (by exact rfl) _ Try.underlying25 25 [.int .i64 x.a, .int .i64 x.k, .int .u8 (x.v : Int)] RX1.out (by kernel_rfl) ?_))
  clear KL
  by_cases he : alE x ≠ 0
  · have HE : Hid (setE l x = alE x ∧ setR l x = []) := Lib.hid (by
      have h : setE l x = alE x := by unfold setE; rw [HCE.out, if_neg (by simp), chk_one]
      exact ⟨h, by unfold setR; rw [h, if_neg he]⟩)
    obtain ⟨e0, he0⟩ : ∃ e, alE x = e := ⟨_, rfl⟩
    rw [he0] at HE he ⊢
    clear he0
    have hbi : ((e0 : Int) != 0) = true := by simp; omega
    have hbn : ¬ (e0 : Int) = 0 := by omega
    clear he
    go_wp2_with fail
    exact bodyPost_ret (v := .tuple #[.slice none 0 0, .int .i64 (e0 : Int)]) (results_tt Try.results16 _ _ _ _ _ rfl rfl) rfl ⟨⟨none, 0, by rw [HE.out.1, HE.out.2]; rfl, by rw [HE.out.2]; exact Rd.nil _ _ _, by rw [HE.out.2]; exact Nat.le_refl _⟩, B2.out⟩
  have hal : alE x = 0 := by omega
  have HE : Hid (setE l x = 0 ∧ setR l x = setL l x) := Lib.hid (by
    have h : setE l x = 0 := by unfold setE; rw [HCE.out, if_neg (by simp), chk_one, hal]
    exact ⟨h, by unfold setR; rw [h, if_pos rfl]⟩)
  rw [hal]
  clear he hal
  have KF := Lib.hid (find_any A cap B l x W2 (HR.out.below B2.out HBW.out) (Nat.le_trans HBW.out B2.out.size) HL.out.1 HXO.out HSC.out)
  unfold iv at KF
  go_upto_region 8 with (first
      | (go_at_call 29; with_reducible refine (KF.out).mono ?_; rintro e W3 ⟨⟨p, rfl, hp⟩, hB⟩; have HP := Lib.hid hp; have RX3 := Lib.hid (IRow.below RX2.out hB RX2.out.lt); have B3 := Lib.hid (B2.out.trans (hB.mono B2.out.size)); clear hB hp RX2 B2)
      | ((with_reducible show wpList _ _ _ (⟨some 27, .load 25 (.tmp 3), _, _, _, _⟩ :: _) _ _); refine wpList_load_v (by rfl) 25 _ rfl gx (by exact rfl) _ Try.underlying25 25 [.int .i64 x.a, .int .i64 x.k, .int .u8 (x.v : Int)] RX2.out (by kernel_rfl) ?_))
  clear KF HCE
  have hpl := HP.out.le
  have hS1 := fun W => run_rest A l.length cap p hpl W
  have hS3 := fun W => run_cut_in A l.length cap p (Nat.le_trans hpl HL.out.2) W
  have RD : Hid (Rd W3 B A l) := Lib.hid (HR.out.below B3.out HBW.out)
  have RD1 : Hid (Rd W3 B (restA A cap p) (l.drop p)) := Lib.hid (RD.out.rest HL.out.2)
  have HSET := Lib.hid (set_plc HSC.out HP.out)
  obtain ⟨RA, hRA⟩ : ∃ a, restA A cap p = a := ⟨_, rfl⟩
  obtain ⟨RL, hRL⟩ : ∃ n, l.length - p = n := ⟨_, rfl⟩
  obtain ⟨RC, hRC⟩ : ∃ n, cap - p = n := ⟨_, rfl⟩
  have HQ := Lib.hid (show (l.drop p).length ≤ RC by rw [List.length_drop]; have := HL.out.2; omega)
  have HQL : Hid ((l.drop p).length = RL) := Lib.hid (by rw [List.length_drop]; omega)
  rw [hRA, hRL, hRC] at hS1
  rw [hRA] at RD1
  have HTK : Hid (p = (l.take p).length) := Lib.hid (by rw [List.length_take]; omega)
  have HBB := Lib.hid (Nat.le_trans HBW.out B3.out.size)
  clear hRA hRL hRC
  obtain ⟨sm, hsm⟩ : ∃ b, sameP l x p = b := ⟨_, rfl⟩
  rw [hsm] at HSET ⊢
  have HSM := Lib.hid hsm
  clear hsm
  cases sm
  · have RD2 := RD1
    have HQL2 := HQL
    go_upto_region 11 with fail
    clear hS1
    refine wp_region_noPanic ?_
    refine wp_region_held_drew (S := fun X => Below W3.heap.size W3 X) (by kernel_rfl) ((Below.refl _ W3).drew) (fun hHeld => ?_)
    refine' take_ 0 rfl (by kernel_rfl) (by kernel_rfl) (by kernel_rfl) (fun _ _ _ h => h) (by rfl) (fun wS hSw => ?_) hHeld ?_
    rotate_left
    focus (go_simp; (try with_reducible rfl); done)
    try simp only [Act.put, List.setIfInBounds_toArray, List.set_cons_zero, List.set_cons_succ]
    refine' take_ 1 rfl (by kernel_rfl) (by kernel_rfl) (by kernel_rfl) (fun _ _ _ h => h) (by rfl) (fun wS hSw => ?_) hHeld ?_
    rotate_left
    focus (go_simp; (try with_reducible rfl); done)
    try simp only [Act.put, List.setIfInBounds_toArray, List.set_cons_zero, List.set_cons_succ]
    refine' take_ 2 rfl (by kernel_rfl) (by kernel_rfl) (by kernel_rfl) (fun _ _ _ h => h) (by rfl) (fun wS hSw => ?_) hHeld ?_
    rotate_left
    focus (have hz := hS3 wS; go_simp; (try with_reducible rfl); done)
    try simp only [Act.put, List.setIfInBounds_toArray, List.set_cons_zero, List.set_cons_succ]
    refine' take_ 3 rfl (by kernel_rfl) (by kernel_rfl) (by kernel_rfl) (fun _ _ _ h => h) (by rfl) (fun wS hSw => run_load_v wS 25 _ gx rfl _ Try.underlying25 25 [.int .i64 x.a, .int .i64 x.k, .int .u8 (x.v : Int)] (IRow.below RX3.out hSw RX3.out.lt) (by kernel_rfl) _ _ _ _ _) hHeld ?_
    try simp only [Act.put, List.setIfInBounds_toArray, List.set_cons_zero, List.set_cons_succ]
    refine' take_ 5 rfl (by kernel_rfl) (by kernel_rfl) (by kernel_rfl) (fun _ _ _ h => h) (by rfl) (fun wS hSw => ?_) hHeld ?_
    rotate_left
    focus (go_simp; (try with_reducible rfl); done)
    try simp only [Act.put, List.setIfInBounds_toArray, List.set_cons_zero, List.set_cons_succ]
    refine only_ 4 rfl (by kernel_rfl) (by rfl) (fun K hK => ?_)
    obtain ⟨Y, hY⟩ : ∃ Y, W3.drew = Y := ⟨_, rfl⟩
    rw [hY] at hHeld ⊢
    clear hY
    go_simp
    have hr1 : VRow (Y.alloc (Obj.cells #[Value.int .i64 x.a, Value.int .i64 x.k, Value.int .u8 (x.v : Int)] 25)) Y.heap.size 25 [Value.int .i64 x.a, Value.int .i64 x.k, Value.int .u8 (x.v : Int)] := VRow.al _ _ _
    have hal := hHeld.alloc hHeld.size (Obj.cells #[Value.int .i64 x.a, Value.int .i64 x.k, Value.int .u8 (x.v : Int)] 25)
    have hbY : Below Y.heap.size Y (Y.alloc (Obj.cells #[Value.int .i64 x.a, Value.int .i64 x.k, Value.int .u8 (x.v : Int)] 25)) := (Below.refl _ _).alloc (Nat.le_refl _) _
    obtain ⟨Y1, hY1⟩ : ∃ X, Y.alloc (Obj.cells #[Value.int .i64 x.a, Value.int .i64 x.k, Value.int .u8 (x.v : Int)] 25) = X := ⟨_, rfl⟩
    rw [hY1] at hr1 hal hbY ⊢
    clear hY1
    refine hK.out _ _ hal (fun _ => ?_)
    clear hK K hHeld
    have hHeld := hal
    clear hal
    have HR1 := Lib.hid hr1
    obtain ⟨g1, hg1⟩ : ∃ g, Y.heap.size = g := ⟨_, rfl⟩
    have HG1 := Lib.hid hg1
    rw [hg1] at HR1 ⊢
    clear hr1 hbY hg1
    refine only_ 6 rfl (by kernel_rfl) (by rfl) (fun K hK => ?_)
    go_simp
    have hr2 : VRow (Y1.alloc (Obj.cells #[Value.slice A p cap, Value.slice (some ⟨g1, 0, none⟩) 1 1, Value.slice RA RL RC] 22)) Y1.heap.size 22 [Value.slice A p cap, Value.slice (some ⟨g1, 0, none⟩) 1 1, Value.slice RA RL RC] := VRow.al _ _ _
    have hal := hHeld.alloc hHeld.size (Obj.cells #[Value.slice A p cap, Value.slice (some ⟨g1, 0, none⟩) 1 1, Value.slice RA RL RC] 22)
    have hbY : Below Y1.heap.size Y1 (Y1.alloc (Obj.cells #[Value.slice A p cap, Value.slice (some ⟨g1, 0, none⟩) 1 1, Value.slice RA RL RC] 22)) := (Below.refl _ _).alloc (Nat.le_refl _) _
    obtain ⟨Y2, hY2⟩ : ∃ X, Y1.alloc (Obj.cells #[Value.slice A p cap, Value.slice (some ⟨g1, 0, none⟩) 1 1, Value.slice RA RL RC] 22) = X := ⟨_, rfl⟩
    rw [hY2] at hr2 hal hbY ⊢
    clear hY2
    refine hK.out _ _ hal (fun _ => ?_)
    clear hK K hHeld
    have hHeld := hal
    clear hal
    have HR1' := Lib.hid (VRow.below HR1.out hbY HR1.out.lt)
    have h12 := hbY.size
    refine only_ 7 rfl (by kernel_rfl) (by rfl) (fun K hK => ?_)
    have hB2 : W3.heap.size ≤ Y2.heap.size := hHeld.size
    have hrd : Rd Y2 B A l := RD.out.below hHeld HBB.out
    have hrd2 : Rd Y2 B RA (l.drop p) := RD2.out.below hHeld HBB.out
    have hx1 : Rd Y2 Y2.heap.size (some ⟨g1, 0, none⟩) [x] := ⟨by simp, fun y hy => by rw [List.mem_singleton.1 hy]; exact HXO.out, fun j y hj => by
      obtain rfl : j = 0 := by have := (List.getElem?_eq_some_iff.1 hj).1; simp at this; exact this
      obtain rfl : x = y := by simpa using hj
      refine ⟨_, rfl, HR1'.out.lt, fun i u hu => ?_⟩
      have h := VRow.cell HR1'.out i u hu
      rw [Nat.zero_mul, addr_add, addr_add]
      simpa using h⟩
    have htot : tot [⟨A, cap, l.take p⟩, ⟨some ⟨g1, 0, none⟩, 1, [x]⟩, ⟨RA, RC, l.drop p⟩] = setL l x := by rw [HSET.out]; simp [tot]
    have hlen := set_len l x
    have hcat := concat_any Y1.heap.size Y2.heap.size 3 [⟨A, cap, l.take p⟩, ⟨some ⟨g1, 0, none⟩, 1, [x]⟩, ⟨RA, RC, l.drop p⟩] Y2 (by show VRow Y2 Y1.heap.size 22 [.slice A (l.take p).length cap, .slice (some ⟨g1, 0, none⟩) 1 1, .slice RA (l.drop p).length RC]; rw [← HTK.out, HQL2.out]; exact hr2) (by intro s hs; simp only [List.mem_cons, List.not_mem_nil, or_false] at hs; rcases hs with rfl | rfl | rfl; exact (hrd.take p).mono (Nat.le_trans HBB.out hB2); exact hx1; exact hrd2.mono (Nat.le_trans HBB.out hB2)) (Nat.le_refl _) (by simp) (by rw [htot, HSET.out]; simp; omega) (by rw [htot]; have := HL.out.1; omega)
    rw [htot] at hcat
    refine wp_call_any 31 _ _ rfl _ (by rfl) (by kernel_rfl) hcat (fun e Y3 hq => ?_)
    obtain ⟨⟨v, rfl, ho⟩, hB⟩ := hq
    refine ⟨_, rfl, ?_⟩
    have hH2 := hHeld.trans (hB.mono hHeld.size)
    have HO := Lib.hid ho
    refine hK.out _ _ hH2 (fun _ => ?_)
    clear hK K hB hHeld ho hcat htot hx1 hrd hrd2 hr2 hbY h12 hB2
    have hHeld := hH2
    clear hH2
    show wpAnyH _ _ _ _ _ _ _ (Act.put _ (some 44) _) _
    try simp only [Act.put, List.setIfInBounds_toArray, List.set_cons_zero, List.set_cons_succ]
    refine' take_ 8 rfl (by kernel_rfl) (by kernel_rfl) (by kernel_rfl) (fun _ _ _ h => h) (by rfl) (fun wS hSw => ?_) hHeld ?_
    rotate_left
    focus (go_simp; (try with_reducible rfl); done)
    try simp only [Act.put, List.setIfInBounds_toArray, List.set_cons_zero, List.set_cons_succ]
    refine' take_ 9 rfl (by kernel_rfl) (by kernel_rfl) (by kernel_rfl) (fun _ _ _ h => h) (by rfl) (fun wS hSw => ?_) hHeld ?_
    rotate_left
    focus (go_simp; (try with_reducible rfl); done)
    try simp only [Act.put, List.setIfInBounds_toArray, List.set_cons_zero, List.set_cons_succ]
    refine wpAnyH_done (by kernel_rfl) ?_ _
    refine NoPanic.normal ?_
    have B4 := Lib.hid (B3.out.trans (hHeld.mono B3.out.size))
    obtain ⟨fA, fcap, rfl, hfc, hfr⟩ := HO.out.rdc (by have := hlen; have := HL.out.1; omega) (set_ok RD.out.ok HXO.out)
    have HF := Lib.hid (And.intro hfr hfc)
    clear hfc hfr hHeld
    go_wp2_with fail
    exact bodyPost_ret (v := .tuple #[.slice fA (setL l x).length fcap, .int .i64 0]) (results_tt Try.results16 _ _ _ _ _ rfl rfl) rfl ⟨⟨fA, fcap, by rw [HE.out.1, HE.out.2]; rfl, by rw [HE.out.2]; exact HF.out.1, by rw [HE.out.2]; exact HF.out.2⟩, B4.out⟩
  · have hp1 : p < l.length := by
      have h := HSM.out
      unfold sameP at h
      rcases Nat.lt_or_ge p l.length with h1 | h1
      · exact h1
      · rw [List.getElem?_eq_none h1] at h; cases h
    have hS2 : ∀ W, (Instr.sliceAt 22 (.slice RA RL RC) (some (.int .i64 1)) none none).run Try.prog W = .ok (.slice (restA RA RC 1) (RL - 1) (RC - 1)) W := fun W => run_rest RA RL RC 1 (by have := HQL.out; rw [List.length_drop] at this; omega) W
    have RD2 : Hid (Rd W3 B (restA RA RC 1) (l.drop (p + 1))) := Lib.hid (by have := RD1.out.rest (p := 1) HQ.out; rw [List.drop_drop] at this; exact this)
    have HQL2 : Hid ((l.drop (p + 1)).length = RL - 1) := Lib.hid (by have := HQL.out; rw [List.length_drop] at this ⊢; omega)
    obtain ⟨FA, hFA⟩ : ∃ a, restA RA RC 1 = a := ⟨_, rfl⟩
    obtain ⟨FL, hFL⟩ : ∃ n, RL - 1 = n := ⟨_, rfl⟩
    obtain ⟨FC, hFC⟩ : ∃ n, RC - 1 = n := ⟨_, rfl⟩
    rw [hFA, hFL, hFC] at hS2
    rw [hFA] at RD2
    rw [hFL] at HQL2
    clear hFA hFL hFC hp1
    go_upto_region 11 with fail
    clear hS1 hS2
    refine wp_region_noPanic ?_
    refine wp_region_held_drew (S := fun X => Below W3.heap.size W3 X) (by kernel_rfl) ((Below.refl _ W3).drew) (fun hHeld => ?_)
    refine' take_ 0 rfl (by kernel_rfl) (by kernel_rfl) (by kernel_rfl) (fun _ _ _ h => h) (by rfl) (fun wS hSw => ?_) hHeld ?_
    rotate_left
    focus (go_simp; (try with_reducible rfl); done)
    try simp only [Act.put, List.setIfInBounds_toArray, List.set_cons_zero, List.set_cons_succ]
    refine' take_ 1 rfl (by kernel_rfl) (by kernel_rfl) (by kernel_rfl) (fun _ _ _ h => h) (by rfl) (fun wS hSw => ?_) hHeld ?_
    rotate_left
    focus (go_simp; (try with_reducible rfl); done)
    try simp only [Act.put, List.setIfInBounds_toArray, List.set_cons_zero, List.set_cons_succ]
    refine' take_ 2 rfl (by kernel_rfl) (by kernel_rfl) (by kernel_rfl) (fun _ _ _ h => h) (by rfl) (fun wS hSw => ?_) hHeld ?_
    rotate_left
    focus (have hz := hS3 wS; go_simp; (try with_reducible rfl); done)
    try simp only [Act.put, List.setIfInBounds_toArray, List.set_cons_zero, List.set_cons_succ]
    refine' take_ 3 rfl (by kernel_rfl) (by kernel_rfl) (by kernel_rfl) (fun _ _ _ h => h) (by rfl) (fun wS hSw => run_load_v wS 25 _ gx rfl _ Try.underlying25 25 [.int .i64 x.a, .int .i64 x.k, .int .u8 (x.v : Int)] (IRow.below RX3.out hSw RX3.out.lt) (by kernel_rfl) _ _ _ _ _) hHeld ?_
    try simp only [Act.put, List.setIfInBounds_toArray, List.set_cons_zero, List.set_cons_succ]
    refine' take_ 5 rfl (by kernel_rfl) (by kernel_rfl) (by kernel_rfl) (fun _ _ _ h => h) (by rfl) (fun wS hSw => ?_) hHeld ?_
    rotate_left
    focus (go_simp; (try with_reducible rfl); done)
    try simp only [Act.put, List.setIfInBounds_toArray, List.set_cons_zero, List.set_cons_succ]
    refine only_ 4 rfl (by kernel_rfl) (by rfl) (fun K hK => ?_)
    obtain ⟨Y, hY⟩ : ∃ Y, W3.drew = Y := ⟨_, rfl⟩
    rw [hY] at hHeld ⊢
    clear hY
    go_simp
    have hr1 : VRow (Y.alloc (Obj.cells #[Value.int .i64 x.a, Value.int .i64 x.k, Value.int .u8 (x.v : Int)] 25)) Y.heap.size 25 [Value.int .i64 x.a, Value.int .i64 x.k, Value.int .u8 (x.v : Int)] := VRow.al _ _ _
    have hal := hHeld.alloc hHeld.size (Obj.cells #[Value.int .i64 x.a, Value.int .i64 x.k, Value.int .u8 (x.v : Int)] 25)
    have hbY : Below Y.heap.size Y (Y.alloc (Obj.cells #[Value.int .i64 x.a, Value.int .i64 x.k, Value.int .u8 (x.v : Int)] 25)) := (Below.refl _ _).alloc (Nat.le_refl _) _
    obtain ⟨Y1, hY1⟩ : ∃ X, Y.alloc (Obj.cells #[Value.int .i64 x.a, Value.int .i64 x.k, Value.int .u8 (x.v : Int)] 25) = X := ⟨_, rfl⟩
    rw [hY1] at hr1 hal hbY ⊢
    clear hY1
    refine hK.out _ _ hal (fun _ => ?_)
    clear hK K hHeld
    have hHeld := hal
    clear hal
    have HR1 := Lib.hid hr1
    obtain ⟨g1, hg1⟩ : ∃ g, Y.heap.size = g := ⟨_, rfl⟩
    have HG1 := Lib.hid hg1
    rw [hg1] at HR1 ⊢
    clear hr1 hbY hg1
    refine only_ 6 rfl (by kernel_rfl) (by rfl) (fun K hK => ?_)
    go_simp
    have hr2 : VRow (Y1.alloc (Obj.cells #[Value.slice A p cap, Value.slice (some ⟨g1, 0, none⟩) 1 1, Value.slice FA FL FC] 22)) Y1.heap.size 22 [Value.slice A p cap, Value.slice (some ⟨g1, 0, none⟩) 1 1, Value.slice FA FL FC] := VRow.al _ _ _
    have hal := hHeld.alloc hHeld.size (Obj.cells #[Value.slice A p cap, Value.slice (some ⟨g1, 0, none⟩) 1 1, Value.slice FA FL FC] 22)
    have hbY : Below Y1.heap.size Y1 (Y1.alloc (Obj.cells #[Value.slice A p cap, Value.slice (some ⟨g1, 0, none⟩) 1 1, Value.slice FA FL FC] 22)) := (Below.refl _ _).alloc (Nat.le_refl _) _
    obtain ⟨Y2, hY2⟩ : ∃ X, Y1.alloc (Obj.cells #[Value.slice A p cap, Value.slice (some ⟨g1, 0, none⟩) 1 1, Value.slice FA FL FC] 22) = X := ⟨_, rfl⟩
    rw [hY2] at hr2 hal hbY ⊢
    clear hY2
    refine hK.out _ _ hal (fun _ => ?_)
    clear hK K hHeld
    have hHeld := hal
    clear hal
    have HR1' := Lib.hid (VRow.below HR1.out hbY HR1.out.lt)
    have h12 := hbY.size
    refine only_ 7 rfl (by kernel_rfl) (by rfl) (fun K hK => ?_)
    have hB2 : W3.heap.size ≤ Y2.heap.size := hHeld.size
    have hrd : Rd Y2 B A l := RD.out.below hHeld HBB.out
    have hrd2 : Rd Y2 B FA (l.drop (p + 1)) := RD2.out.below hHeld HBB.out
    have hx1 : Rd Y2 Y2.heap.size (some ⟨g1, 0, none⟩) [x] := ⟨by simp, fun y hy => by rw [List.mem_singleton.1 hy]; exact HXO.out, fun j y hj => by
      obtain rfl : j = 0 := by have := (List.getElem?_eq_some_iff.1 hj).1; simp at this; exact this
      obtain rfl : x = y := by simpa using hj
      refine ⟨_, rfl, HR1'.out.lt, fun i u hu => ?_⟩
      have h := VRow.cell HR1'.out i u hu
      rw [Nat.zero_mul, addr_add, addr_add]
      simpa using h⟩
    have htot : tot [⟨A, cap, l.take p⟩, ⟨some ⟨g1, 0, none⟩, 1, [x]⟩, ⟨FA, FC, l.drop (p + 1)⟩] = setL l x := by rw [HSET.out]; simp [tot]
    have hlen := set_len l x
    have hcat := concat_any Y1.heap.size Y2.heap.size 3 [⟨A, cap, l.take p⟩, ⟨some ⟨g1, 0, none⟩, 1, [x]⟩, ⟨FA, FC, l.drop (p + 1)⟩] Y2 (by show VRow Y2 Y1.heap.size 22 [.slice A (l.take p).length cap, .slice (some ⟨g1, 0, none⟩) 1 1, .slice FA (l.drop (p + 1)).length FC]; rw [← HTK.out, HQL2.out]; exact hr2) (by intro s hs; simp only [List.mem_cons, List.not_mem_nil, or_false] at hs; rcases hs with rfl | rfl | rfl; exact (hrd.take p).mono (Nat.le_trans HBB.out hB2); exact hx1; exact hrd2.mono (Nat.le_trans HBB.out hB2)) (Nat.le_refl _) (by simp) (by rw [htot, HSET.out]; simp; omega) (by rw [htot]; have := HL.out.1; omega)
    rw [htot] at hcat
    refine wp_call_any 31 _ _ rfl _ (by rfl) (by kernel_rfl) hcat (fun e Y3 hq => ?_)
    obtain ⟨⟨v, rfl, ho⟩, hB⟩ := hq
    refine ⟨_, rfl, ?_⟩
    have hH2 := hHeld.trans (hB.mono hHeld.size)
    have HO := Lib.hid ho
    refine hK.out _ _ hH2 (fun _ => ?_)
    clear hK K hB hHeld ho hcat htot hx1 hrd hrd2 hr2 hbY h12 hB2
    have hHeld := hH2
    clear hH2
    show wpAnyH _ _ _ _ _ _ _ (Act.put _ (some 44) _) _
    try simp only [Act.put, List.setIfInBounds_toArray, List.set_cons_zero, List.set_cons_succ]
    refine' take_ 8 rfl (by kernel_rfl) (by kernel_rfl) (by kernel_rfl) (fun _ _ _ h => h) (by rfl) (fun wS hSw => ?_) hHeld ?_
    rotate_left
    focus (go_simp; (try with_reducible rfl); done)
    try simp only [Act.put, List.setIfInBounds_toArray, List.set_cons_zero, List.set_cons_succ]
    refine' take_ 9 rfl (by kernel_rfl) (by kernel_rfl) (by kernel_rfl) (fun _ _ _ h => h) (by rfl) (fun wS hSw => ?_) hHeld ?_
    rotate_left
    focus (go_simp; (try with_reducible rfl); done)
    try simp only [Act.put, List.setIfInBounds_toArray, List.set_cons_zero, List.set_cons_succ]
    refine wpAnyH_done (by kernel_rfl) ?_ _
    refine NoPanic.normal ?_
    have B4 := Lib.hid (B3.out.trans (hHeld.mono B3.out.size))
    obtain ⟨fA, fcap, rfl, hfc, hfr⟩ := HO.out.rdc (by have := hlen; have := HL.out.1; omega) (set_ok RD.out.ok HXO.out)
    have HF := Lib.hid (And.intro hfr hfc)
    clear hfc hfr hHeld
    go_wp2_with fail
    exact bodyPost_ret (v := .tuple #[.slice fA (setL l x).length fcap, .int .i64 0]) (results_tt Try.results16 _ _ _ _ _ rfl rfl) rfl ⟨⟨fA, fcap, by rw [HE.out.1, HE.out.2]; rfl, by rw [HE.out.2]; exact HF.out.1, by rw [HE.out.2]; exact HF.out.2⟩, B4.out⟩
end Go.Proofs.Ytimlhckihkjifaa
