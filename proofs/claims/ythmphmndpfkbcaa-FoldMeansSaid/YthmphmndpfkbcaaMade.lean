/-
  'made' by its contract: some expression whose types go together, of 120 parts at most. Made by wip/genfoldmade.py.
-/
import Derived.Test.YthmphmndpfkbcaaStack2
import Derived.Deep.DeepCutAuto
namespace Go.Proofs.Ythmphmndpfkbcaa
open Go.RowKit
set_option linter.unusedVariables false
/-- What is made. -/
def MadeAns (w : World) (e : Ending) (w' : World) : Prop := ∃ (op at_ : Int) (name field : ByteArray) (n ty ref : Int) (A : Option Nat) (c : Nat) (args : List Ex) (S : Nat → Prop), e = .returned (.agg (exL op at_ name field n ty ref A args.length c).toArray) ∧
  okT (.mk op at_ name field n ty ref args) ∧ sizeT (.mk op at_ name field n ty ref args) ≤ 120 ∧ SlIn S w' A args ∧ (∀ b, S b → w.heap.size ≤ b ∧ b < w'.heap.size) ∧ Below w.heap.size w w'
/-- Ahead of the rounds. -/
structure Mk (w w1 : World) : Prop where
  row : w1.heap[w.heap.size]? = some (.cells zeroL.toArray 27 (0, 0))
  size : w1.heap.size = w.heap.size + 1
  below : Below w.heap.size w w1
theorem Mk.start (w : World) : Mk w (w.alloc (.cells zeroL.toArray 27)) := ⟨alloc_at w _, by simp, (Below.refl _ _).alloc (Nat.le_refl _) _⟩
/-- A round, behind its piece's box. -/
structure Bx (wr : World) (K O T N : Int) (Wp : World) : Prop where
  row : Wp.heap[wr.heap.size]? = some (.cells (pcL K O T N).toArray 58 (0, 0))
  below : Below wr.heap.size wr Wp
  size : wr.heap.size + 1 ≤ Wp.heap.size
theorem Bx.start (wr : World) (K O T N : Int) : Bx wr K O T N (wr.alloc (.cells (pcL K O T N).toArray 58)) := ⟨alloc_at wr _, (Below.refl _ _).alloc (Nat.le_refl _) _, by simp⟩
theorem slice_inj {A A' : Option Addr} {n n' c c' : Nat} (h : Value.slice A n c = .slice A' n' c') : A = A' ∧ n = n' ∧ c = c' := by
  injection h with h1 h2 h3
  exact ⟨h1, h2, h3⟩
theorem own_form {w : World} {B : Nat} {e : TypeId} {size : Nat} {v : Value} {n : Nat} {xs : List Value} (h : w.ownsRow B e size v n xs) : ∃ A c, v = .slice A n c := by
  rcases h.2 with ⟨rfl, rfl⟩ | ⟨g, cap, cur, rfl, _⟩
  · exact ⟨_, _, rfl⟩
  · exact ⟨_, _, rfl⟩
theorem Stk.push {w wr W2 W3 : World} {k : Nat} {trees : List Ex} {rows : List (List Value)} {S : Nat → Prop} {v v' : Value} {op at_ n ty ref : Int} (h : Stk w k trees rows S v wr) (hB : w.heap.size ≤ wr.heap.size) (hb : Below wr.heap.size wr W2)
    (hok : okT (.mk op at_ ⟨#[]⟩ ⟨#[]⟩ n ty ref [])) (ht : ty = 1 ∨ ty = 2) (hown : W3.ownsRow w.heap.size 27 8 v' (trees.length + 1) (rows.flatten ++ exL op at_ ⟨#[]⟩ ⟨#[]⟩ n ty ref none 0 0)) (hg : W2.grownBy W3 v.ownBlock) (hbl : ∀ b, v'.ownBlock = some b → v.ownBlock = some b ∨ W2.heap.size ≤ b) :
    ∃ rows' S', Stk w (k + 1) (trees ++ [.mk op at_ ⟨#[]⟩ ⟨#[]⟩ n ty ref []]) rows' S' v' W3 := by
  have hp := (h.each.more (.mk op at_ ⟨#[]⟩ ⟨#[]⟩ n ty ref [])).put (x := .mk op at_ ⟨#[]⟩ ⟨#[]⟩ n ty ref []) (S1 := fun _ => False) hB hb (by simp) (ExIn.mk (A := none) (c := 0) (args := []) .nil) (fun _ h => h.elim) hown hg hbl
  refine ⟨_, _, by simpa using hp, fun x hx => ?_, ?_, by simpa using h.len⟩
  · rcases List.mem_append.1 hx with hx | hx
    · exact h.ok x hx
    · obtain rfl := List.mem_singleton.1 hx
      exact ⟨hok, ht⟩
  · rw [sizeL_append, sizeT]
    have := h.size
    simp only [sizeL]
    omega
theorem made_fin {W : World} {g : Nat} {tm : Array Value} {Q : Ending → World → Prop} {v0 v1 v2 v3 v4 v5 v6 v7 : Value} (h2 : tm[2]?.getD undef = .pointer (some ⟨g, 0, none⟩)) (h : W.heap[g]? = some (.cells [v0, v1, v2, v3, v4, v5, v6, v7].toArray 27 (0, 0)))
    (hQ : Q (.returned (.agg [v0, v1, v2, v3, v4, v5, v6, v7].toArray)) W) : bodyPost Try.prog Try.f7 Q Exit.ret { tmps := tm, defers := [] } W := by
  have q0 := row_at h 0 _ rfl
  have q1 := row_at h 1 _ rfl
  have q2 := row_at h 2 _ rfl
  have q3 := row_at h 3 _ rfl
  have q4 := row_at h 4 _ rfl
  have q5 := row_at h 5 _ rfl
  have q6 := row_at h 6 _ rfl
  have q7 := row_at h 7 _ rfl
  exact bodyPost_ret (v := .agg [v0, v1, v2, v3, v4, v5, v6, v7].toArray) (by simp [results, Try.results7, go_sem, h2, q0, q1, q2, q3, q4, q5, q6, q7]) rfl hQ
theorem set8_cell {W : World} {g b : Nat} (hk : b ≠ g) (v0 v1 v2 v3 v4 v5 v6 v7 : Value) (j : Nat) : (set8 W g v0 v1 v2 v3 v4 v5 v6 v7).cell? ⟨b, j, none⟩ = W.cell? ⟨b, j, none⟩ := World.cell?_of_block (set8_other hk v0 v1 v2 v3 v4 v5 v6 v7)
theorem Stk.skip {w wr W : World} {k : Nat} {trees : List Ex} {rows : List (List Value)} {S : Nat → Prop} {v : Value} (h : Stk w k trees rows S v wr) (hz : w.heap.size ≤ wr.heap.size) (hb : Below wr.heap.size wr W) : Stk w (k + 1) trees rows S v W :=
  ⟨h.each.under hz hb, h.ok, by have := h.size; omega, by have := h.len; omega⟩
theorem typedTy_12 (op t : Int) (h : t = 1 ∨ t = 2) : typedTy op t = 1 ∨ typedTy op t = 2 := by
  unfold typedTy
  split
  · exact .inl rfl
  · split
    · exact .inr rfl
    · exact h
theorem ok_un (op : Int) (k : Nat) (x : Ex) (h4 : 4 ≤ op) (h8 : op ≤ 8) (hx : okT x) : okT (.mk op k ⟨#[]⟩ ⟨#[]⟩ 0 (typedTy op x.ty) 0 [x]) := by
  rw [okT]
  refine ⟨by omega, by omega, .inr ⟨h4, h8, fun h => ?_, fun h => ?_⟩, by simp [okL, hx]⟩
  · subst h
    rfl
  · subst h
    have e : typedTy 8 x.ty = 2 := by simp [typedTy]
    rw [e]
    decide
theorem ok_cell (O T : Int) (k : Nat) (x : Ex) (hx : okT x) : okT (.mk 28 k ⟨#[]⟩ ⟨#[]⟩ (1 + O % 5) (1 + T % 2) (O % 4) [x]) := by
  rw [okT]
  exact ⟨by omega, by omega, .inl rfl, by simp [okL, hx]⟩
theorem ok_bin (op : Int) (k : Nat) (x y : Ex) (h9 : 9 ≤ op) (h24 : op ≤ 24) (hy : op = 14 ∨ op = 15 ∨ y.ty = x.ty) (hx : okT x) (hok : okT y) : okT (.mk op k ⟨#[]⟩ ⟨#[]⟩ 0 (typedTy op x.ty) 0 [x, y]) := by
  rw [okT]
  refine ⟨by omega, by omega, ⟨h9, h24, fun h => ?_, hy⟩, by simp [okL, hx, hok]⟩
  unfold typedTy
  rw [if_neg (by omega), if_neg (by omega)]
theorem ok_conv (k : Nat) (t : Int) (y : Ex) (ht : t = 1 ∨ t = 2) (hok : okT y) : okT (.mk (7 + t - 1) k ⟨#[]⟩ ⟨#[]⟩ 0 t 0 [y]) := by
  rw [okT]
  exact ⟨by omega, by omega, .inr ⟨by omega, by omega, fun h => by omega, fun h => by omega⟩, by simp [okL, hok]⟩
theorem ok_num (k : Nat) (N T : Int) (h1 : -9223372036854775808 ≤ N) (h2 : N ≤ 9223372036854775807) : okT (.mk 0 k ⟨#[]⟩ ⟨#[]⟩ N (1 + T % 2) 0 []) := by
  rw [okT]
  exact ⟨by omega, ⟨h1, h2⟩, .inl rfl, by simp [okL]⟩
theorem ok_loc (k : Nat) (K O T : Int) : okT (.mk (26 + K % 2) k ⟨#[]⟩ ⟨#[]⟩ 0 (1 + T % 2) (O % 6) []) := by
  rw [okT]
  exact ⟨by omega, by omega, (by show _ ∨ _ ∨ _; omega), by simp [okL]⟩
theorem ty_12 (T : Int) : 1 + T % 2 = 1 ∨ 1 + T % 2 = 2 := by omega
set_option maxRecDepth 100000 in
set_option maxHeartbeats 16000000 in
theorem made_any (lv : Value) (len : Nat) (w : World) (h : Pieces w lv len) :
    Calls Try.prog 7 #[lv] w (MadeAns w) := by
  obtain ⟨i0, hi, hz0, hz1, hz2⟩ := info_parts info_ex
  obtain ⟨la, lc, rfl⟩ : ∃ la lc, lv = .slice la len lc := by
    rcases h with ⟨rfl, p, c, rfl⟩ | ⟨a, c, rfl, _⟩
    · exact ⟨_, _, rfl⟩
    · exact ⟨_, _, rfl⟩
  have hll : len ≤ 9223372036854775807 := by
    rcases h with ⟨rfl, _⟩ | ⟨a, c, _, h, _⟩
    · omega
    · exact h
  have HP : Hid (∀ i, i < len → ∃ a, la = some a ∧ a.block < w.heap.size ∧ ∃ K O T N : Int, (0 ≤ K ∧ K ≤ 255) ∧ (0 ≤ O ∧ O ≤ 255) ∧ (0 ≤ T ∧ T ≤ 255) ∧ (-9223372036854775808 ≤ N ∧ N ≤ 9223372036854775807) ∧ CellsA w (a.add (i * 4)) (pcL K O T N)) := fun i hi => by
    rcases h with ⟨rfl, _⟩ | ⟨a, c, he, _, hb, hc⟩
    · omega
    · injection he with e1 e2 e3
      exact ⟨a, e1, hb, hc i hi⟩
  clear h
  go_enter Try.func7, Try.ntmps7
  go_wp2
  have HM := Lib.hid (Mk.start w)
  change Code.wp _ _ _ _ (w.alloc (.cells zeroL.toArray 27))
  generalize w.alloc (.cells zeroL.toArray 27) = w1 at *
  go_loopw [3, 4] (fun v iv wr => ∃ (k : Nat) (trees : List Ex) (rows : List (List Value)) (S : Nat → Prop) (sa : Option Addr) (sc : Nat), k ≤ len ∧ k ≤ 60 ∧ iv = .int .i64 k ∧ v = .slice sa trees.length sc ∧ Stk w1 k trees rows S v wr) (fun _ iv _ => 60 - (intOf iv).toNat)
  case atStart => exact ⟨0, [], [], _, none, 0, by omega, by omega, rfl, rfl, Stk.start _⟩
  case round =>
    obtain ⟨k, trees, rows, S, sa, sc, hk, hk60, rfl, rfl, hst⟩ := hrel
    have hz := hst.each.below.size
    have hn60 : trees.length ≤ 60 := by have := hst.len; omega
    obtain ⟨n, hn⟩ : ∃ n, trees.length = n := ⟨_, rfl⟩
    have HN := Lib.hid hn
    rw [hn] at hn60 hst
    have HST := Lib.hid hst
    clear hst
    by_cases hlt : k < len ∧ k < 60
    · obtain ⟨hlt1, hlt2⟩ := hlt
      obtain ⟨a, rfl, hab, K, O, T, N, ⟨K1, K2⟩, ⟨O1, O2⟩, ⟨T1, T2⟩, ⟨N1, N2⟩, hc⟩ := HP.out k hlt1
      have HC := Lib.hid ((hc.below HM.out.below (by rw [add_block]; exact hab)).below HST.out.each.below (by rw [add_block]; have := HM.out.size; omega))
      clear hc
      have hm := tmod_lt2 K 11 (by decide)
      rw [hn]
      go_upto_region 8 with (refine wpList_load_addr rfl 58 _ rfl (a.add (k * 4)) rfl _ _ HC.out Try.underlying58 rfl (by kernel_rfl) ?_)
      have HBX := Lib.hid (Bx.start wr K O T N)
      change Code.wp _ _ _ _ (wr.alloc (.cells (pcL K O T N).toArray 58))
      generalize wr.alloc (.cells (pcL K O T N).toArray 58) = Wp at *
      have HOWN : Hid (wr.ownsRow w1.heap.size 27 8 (.slice sa n sc) n rows.flatten) := by
        show wr.ownsRow w1.heap.size 27 8 (.slice sa n sc) n rows.flatten
        have h := HST.out.each.own
        rw [hn] at h
        exact h
      have p0 := row_at HBX.out.row 0 _ rfl
      have p1 := row_at HBX.out.row 1 _ rfl
      have p3 := row_at HBX.out.row 3 _ rfl
      have m1 : 0 ≤ K % 11 := by omega
      have m2 : K % 11 ≤ 10 := by omega
      by_cases cA : K % 11 < 3 ∨ n = 0
      · have hA : (decide (K % 11 < 3) = true) ∨ (decide (K % 11 < 3) = false ∧ n = 0) := by
          by_cases h : K % 11 < 3
          · exact .inl (decide_eq_true h)
          · exact .inr ⟨decide_eq_false h, by omega⟩
        rcases hA with hA | ⟨hA, hA2⟩
        · go_wp2_with (at_builtin; refine wpList_append_blk _ rfl _ _ 25 rfl w1.heap.size 27 i0 _ 8 96 Try.underlying25 hi hz0 hz1 hz2 rfl (by decide) (.slice sa n sc) n rows.flatten rfl (ownsRow_below HOWN.out (HBX.out.below.alloc HBX.out.below.size _)) ⟨Wp.heap.size, 0, none⟩ 1 1 (exL 0 k ⟨#[]⟩ ⟨#[]⟩ N (1 + T % 2) 0 none 0 0) rfl rfl ?c2 ?c3 ?c4 ?c5 ?c6 ?_; (case c2 => exact new_cells Wp (exL 0 k ⟨#[]⟩ ⟨#[]⟩ N (1 + T % 2) 0 none 0 0) _); (case c3 => exact exL_one _ _ _ _ _ _ _ _ _ _); (case c4 => unfold maxLen; omega); (case c5 => omega); (case c6 => have := HBX.out.below.size; simp; omega); intro v' w3 hown3 hg3 hbl3; have HPU := Lib.hid (HST.out.push hz (HBX.out.below.alloc HBX.out.below.size _) (ok_num k N T N1 N2) (ty_12 T) (HN.out.symm ▸ hown3) hg3 hbl3); obtain ⟨sa', sc', hv'⟩ := own_form hown3; subst hv'; clear hown3 hg3 hbl3)
          go_roundw
          case rel =>
            obtain ⟨rows', S', h⟩ := HPU.out
            exact ⟨k + 1, _, rows', S', sa', sc', by omega, by omega, by go_num, by simp [HN.out], h⟩
          case measure =>
            simp [intOf]
            omega
        · have n0 : ((n : Int) == 0) = true := by simpa using hA2
          clear hA2
          go_wp2_with (at_builtin; refine wpList_append_blk _ rfl _ _ 25 rfl w1.heap.size 27 i0 _ 8 96 Try.underlying25 hi hz0 hz1 hz2 rfl (by decide) (.slice sa n sc) n rows.flatten rfl (ownsRow_below HOWN.out (HBX.out.below.alloc HBX.out.below.size _)) ⟨Wp.heap.size, 0, none⟩ 1 1 (exL 0 k ⟨#[]⟩ ⟨#[]⟩ N (1 + T % 2) 0 none 0 0) rfl rfl ?c2 ?c3 ?c4 ?c5 ?c6 ?_; (case c2 => exact new_cells Wp (exL 0 k ⟨#[]⟩ ⟨#[]⟩ N (1 + T % 2) 0 none 0 0) _); (case c3 => exact exL_one _ _ _ _ _ _ _ _ _ _); (case c4 => unfold maxLen; omega); (case c5 => omega); (case c6 => have := HBX.out.below.size; simp; omega); intro v' w3 hown3 hg3 hbl3; have HPU := Lib.hid (HST.out.push hz (HBX.out.below.alloc HBX.out.below.size _) (ok_num k N T N1 N2) (ty_12 T) (HN.out.symm ▸ hown3) hg3 hbl3); obtain ⟨sa', sc', hv'⟩ := own_form hown3; subst hv'; clear hown3 hg3 hbl3)
          go_roundw
          case rel =>
            obtain ⟨rows', S', h⟩ := HPU.out
            exact ⟨k + 1, _, rows', S', sa', sc', by omega, by omega, by go_num, by simp [HN.out], h⟩
          case measure =>
            simp [intOf]
            omega
      · have n1 : 1 ≤ n := by omega
        have hA : decide (K % 11 < 3) = false := decide_eq_false (by omega)
        have n0 : ((n : Int) == 0) = false := by simp; omega
        by_cases cB : K % 11 < 5
        · go_wp2_with (at_builtin; refine wpList_append_blk _ rfl _ _ 25 rfl w1.heap.size 27 i0 _ 8 96 Try.underlying25 hi hz0 hz1 hz2 rfl (by decide) (.slice sa n sc) n rows.flatten rfl (ownsRow_below HOWN.out (HBX.out.below.alloc HBX.out.below.size _)) ⟨Wp.heap.size, 0, none⟩ 1 1 (exL (26 + K % 2) k ⟨#[]⟩ ⟨#[]⟩ 0 (1 + T % 2) (O % 6) none 0 0) rfl rfl ?c2 ?c3 ?c4 ?c5 ?c6 ?_; (case c2 => exact new_cells Wp (exL (26 + K % 2) k ⟨#[]⟩ ⟨#[]⟩ 0 (1 + T % 2) (O % 6) none 0 0) _); (case c3 => exact exL_one _ _ _ _ _ _ _ _ _ _); (case c4 => unfold maxLen; omega); (case c5 => omega); (case c6 => have := HBX.out.below.size; simp; omega); intro v' w3 hown3 hg3 hbl3; have HPU := Lib.hid (HST.out.push hz (HBX.out.below.alloc HBX.out.below.size _) (ok_loc k K O T) (ty_12 T) (HN.out.symm ▸ hown3) hg3 hbl3); obtain ⟨sa', sc', hv'⟩ := own_form hown3; subst hv'; clear hown3 hg3 hbl3)
          go_roundw
          case rel =>
            obtain ⟨rows', S', h⟩ := HPU.out
            exact ⟨k + 1, _, rows', S', sa', sc', by omega, by omega, by go_num, by simp [HN.out], h⟩
          case measure =>
            simp [intOf]
            omega
        · have hB : decide (K % 11 < 5) = false := decide_eq_false (by omega)
          have ea := HST.out.each
          rw [HN.out] at ea
          have EA := Lib.hid ea
          clear ea
          rcases (by omega : K % 11 = 5 ∨ K % 11 = 10 ∨ (6 ≤ K % 11 ∧ K % 11 ≤ 9)) with hK | hK | ⟨hK1, hK2⟩
          · have hC : (K % 11 == 5) = true := by simpa using hK
            obtain ⟨m, rfl⟩ : ∃ m, n = m + 1 := ⟨n - 1, by omega⟩
            obtain ⟨g, cap, cur, hsv, htop⟩ := HST.out.topOf (by rw [HN.out]; omega)
            rw [HN.out] at hsv htop
            obtain ⟨rfl, _, rfl⟩ := slice_inj hsv
            clear hsv
            have HTOP := Lib.hid htop
            clear htop
            obtain ⟨op1, at1, name1, field1, n1, ty1, ref1, A1, c1, args1, hx, hs, hc⟩ := EA.out.row m (by omega) HN.out.symm
            have HX := Lib.hid hx
            have HSL := Lib.hid hs
            obtain ⟨hok1, hty1⟩ := HST.out.ok _ (List.mem_of_getElem? hx)
            have HOK1 := Lib.hid hok1
            clear hx hs hok1
            have HR : Hid (∀ W, Below Wp.heap.size Wp W → CellsAt W g (m * 8) (exL op1 at1 name1 field1 n1 ty1 ref1 A1 args1.length c1)) := fun W hW => (hc.below HBX.out.below HTOP.out.lt).below hW (by have := HTOP.out.lt; have := HBX.out.size; omega)
            clear hc
            have e1 : IntKind.i64.wrap (m : Int) = m := IntWalk.i64_in _ (by omega)
            have e0 : O.tmod 5 = O % 5 := Int.tmod_eq_emod_of_nonneg O1
            have e2 : IntKind.i64.wrap (O % 5) = O % 5 := IntWalk.i64_in _ (by omega)
            have e3 : IntKind.i64.wrap (4 + O % 5) = 4 + O % 5 := IntWalk.i64_in _ (by omega)
            have e4 : (m : Int) < (m : Int) + 1 := by omega
            go_upto_region 13 with fail
            refine wp_region_noPanic ?_
            have HS : Hid (∀ W', Below Wp.heap.size Wp W' → W'.cell? ⟨wr.heap.size, 1, none⟩ = some (.int .u8 O)) := fun W' hW => by
              have := HBX.out.size
              rw [hW.cell (by show wr.heap.size < Wp.heap.size; omega)]
              exact p1
            refine wp_region_held_drew (S := (fun W' => W'.cell? ⟨wr.heap.size, 1, none⟩ = some (.int .u8 O))) (by kernel_rfl) p1 (fun hHeld => ?_)
            refine' take_ 0 rfl (by kernel_rfl) (by kernel_rfl) (by kernel_rfl) (fun _ _ _ h => h) (by rfl) (fun wS hSw => ?_) hHeld ?_
            rotate_left
            focus (go_simp; (try with_reducible rfl); done)
            try simp only [Act.put, List.setIfInBounds_toArray, List.set_cons_zero, List.set_cons_succ]
            refine' take_ 1 rfl (by kernel_rfl) (by kernel_rfl) (by kernel_rfl) (fun _ _ _ h => h) (by rfl) (fun wS hSw => ?_) hHeld ?_
            rotate_left
            focus (go_simp; (try with_reducible rfl); done)
            try simp only [Act.put, List.setIfInBounds_toArray, List.set_cons_zero, List.set_cons_succ]
            refine' take_ 2 rfl (by kernel_rfl) (by kernel_rfl) (by kernel_rfl) (fun _ _ _ h => h) (by rfl) (fun wS hSw => ?_) hHeld ?_
            rotate_left
            focus (go_simp; (try with_reducible rfl); done)
            try simp only [Act.put, List.setIfInBounds_toArray, List.set_cons_zero, List.set_cons_succ]
            refine' take_ 3 rfl (by kernel_rfl) (by kernel_rfl) (by kernel_rfl) (fun _ _ _ h => h) (by rfl) (fun wS hSw => ?_) hHeld ?_
            rotate_left
            focus (go_simp; (try with_reducible rfl); done)
            try simp only [Act.put, List.setIfInBounds_toArray, List.set_cons_zero, List.set_cons_succ]
            refine' take_ 4 rfl (by kernel_rfl) (by kernel_rfl) (by kernel_rfl) (fun _ _ _ h => h) (by rfl) (fun wS hSw => ?_) hHeld ?_
            rotate_left
            focus (go_simp; (try with_reducible rfl); done)
            try simp only [Act.put, List.setIfInBounds_toArray, List.set_cons_zero, List.set_cons_succ]
            refine' take_ 5 rfl (by kernel_rfl) (by kernel_rfl) (by kernel_rfl) (fun _ _ _ h => h) (by rfl) (fun wS hSw => ?_) hHeld ?_
            rotate_left
            focus (go_simp; (try with_reducible rfl); done)
            try simp only [Act.put, List.setIfInBounds_toArray, List.set_cons_zero, List.set_cons_succ]
            refine' take_ 6 rfl (by kernel_rfl) (by kernel_rfl) (by kernel_rfl) (fun _ _ _ h => h) (by rfl) (fun wS hSw => ?_) hHeld ?_
            rotate_left
            focus (go_simp; (try with_reducible rfl); done)
            try simp only [Act.put, List.setIfInBounds_toArray, List.set_cons_zero, List.set_cons_succ]
            refine' take_ 7 rfl (by kernel_rfl) (by kernel_rfl) (by kernel_rfl) (fun _ _ _ h => h) (by rfl) (fun wS hSw => ?_) hHeld ?_
            rotate_left
            focus (go_simp; (try with_reducible rfl); done)
            try simp only [Act.put, List.setIfInBounds_toArray, List.set_cons_zero, List.set_cons_succ]
            refine' take_ 8 rfl (by kernel_rfl) (by kernel_rfl) (by kernel_rfl) (fun _ _ _ h => h) (by rfl) (fun wS hSw => ?_) hHeld ?_
            rotate_left
            focus (go_simp; (try with_reducible rfl); done)
            try simp only [Act.put, List.setIfInBounds_toArray, List.set_cons_zero, List.set_cons_succ]
            refine' take_ 9 rfl (by kernel_rfl) (by kernel_rfl) (by kernel_rfl) (fun _ _ _ h => h) (by rfl) (fun wS hSw => ?_) hHeld ?_
            rotate_left
            focus (go_simp; (try with_reducible rfl); done)
            try simp only [Act.put, List.setIfInBounds_toArray, List.set_cons_zero, List.set_cons_succ]
            refine' take_ 10 rfl (by kernel_rfl) (by kernel_rfl) (by kernel_rfl) (fun _ _ _ h => h) (by rfl) (fun wS hSw => ?_) hHeld ?_
            rotate_left
            focus (go_simp; (try with_reducible rfl); done)
            try simp only [Act.put, List.setIfInBounds_toArray, List.set_cons_zero, List.set_cons_succ]
            refine' take_ 11 rfl (by kernel_rfl) (by kernel_rfl) (by kernel_rfl) (fun _ _ _ h => h) (by rfl) (fun wS hSw => ?_) hHeld ?_
            rotate_left
            focus (go_simp; (try with_reducible rfl); done)
            try simp only [Act.put, List.setIfInBounds_toArray, List.set_cons_zero, List.set_cons_succ]
            refine' take_ 12 rfl (by kernel_rfl) (by kernel_rfl) (by kernel_rfl) (fun _ _ _ h => h) (by rfl) (fun wS hSw => ?_) hHeld ?_
            rotate_left
            focus (go_simp; (try with_reducible rfl); done)
            try simp only [Act.put, List.setIfInBounds_toArray, List.set_cons_zero, List.set_cons_succ]
            refine only_ 13 rfl (by kernel_rfl) (by rfl) (fun K hK => ?_)
            refine wp_load_row 27 _ rfl g (m * 8) rfl (exL op1 at1 name1 field1 n1 ty1 ref1 A1 args1.length c1) _ (HR.out _ (Below.refl _ _).drew) Try.underlying27 rfl (by kernel_rfl) ?_
            refine hK.out _ _ (hHeld) (fun hHeld2 => ?_)
            clear hK K hHeld
            have hHeld := hHeld2
            clear hHeld2
            try simp only [Act.put, List.setIfInBounds_toArray, List.set_cons_zero, List.set_cons_succ]
            refine only_ 14 rfl (by kernel_rfl) (by rfl) (fun K hK => ?_)
            go_simp
            refine hK.out _ _ (HS.out _ ((Below.refl _ _).alloc (Nat.le_refl _) _).drew) (fun hHeld2 => ?_)
            clear hK K hHeld
            have hHeld := hHeld2
            clear hHeld2
            try simp only [Act.put, List.setIfInBounds_toArray, List.set_cons_zero, List.set_cons_succ]
            refine' take_ 15 rfl (by kernel_rfl) (by kernel_rfl) (by kernel_rfl) (fun _ _ _ h => h) (by rfl) (fun wS hSw => ?_) hHeld ?_
            rotate_left
            focus (go_simp; (try with_reducible rfl); done)
            try simp only [Act.put, List.setIfInBounds_toArray, List.set_cons_zero, List.set_cons_succ]
            refine only_ 16 rfl (by kernel_rfl) (by rfl) (fun K hK => ?_)
            go_simp
            refine (typed_1 (4 + O % 5) k Wp.heap.size 1 op1 at1 name1 field1 n1 ty1 ref1 A1 c1 args1.length (Wp.alloc (.cells (exL op1 at1 name1 field1 n1 ty1 ref1 A1 args1.length c1).toArray 27)).drew (by omega) (by omega) (alloc_at Wp _)).mono ?_
            rintro e W2 ⟨rfl, hb2⟩
            have HB2 : Hid (Below Wp.heap.size Wp W2) := ((Below.refl _ _).alloc (Nat.le_refl _) _).drew.trans (hb2.mono (by simp))
            have HNB : Hid (W2.heap[Wp.heap.size]? = some (.cells (exL op1 at1 name1 field1 n1 ty1 ref1 A1 args1.length c1).toArray 27 (0, 0))) := (hb2.block _ (by simp)).trans (alloc_at Wp _)
            have HBW : Hid (Below wr.heap.size wr W2) := HBX.out.below.trans (HB2.out.mono HBX.out.below.size)
            have hsz2 := hb2.size
            simp at hsz2
            clear hb2
            go_simp
            refine hK.out _ _ (HS.out _ HB2.out) (fun hHeld2 => ?_)
            clear hK K hHeld
            have hHeld := hHeld2
            clear hHeld2
            try simp only [Act.put, List.setIfInBounds_toArray, List.set_cons_zero, List.set_cons_succ]
            refine' take_ 17 rfl (by kernel_rfl) (by kernel_rfl) (by kernel_rfl) (fun _ _ _ h => h) (by rfl) (fun wS hSw => ?_) hHeld ?_
            rotate_left
            focus (go_simp; (try with_reducible rfl); done)
            try simp only [Act.put, List.setIfInBounds_toArray, List.set_cons_zero, List.set_cons_succ]
            refine only_ 18 rfl (by kernel_rfl) (by rfl) (fun K hK => ?_)
            refine wp_store_row rfl 27 _ _ rfl g (m * 8) rfl (exL (4 + O % 5) k ⟨#[]⟩ ⟨#[]⟩ 0 (typedTy (4 + O % 5) ty1) 0 (some Wp.heap.size) 1 1) rfl (by kernel_rfl) cur (newRow cur m (exL (4 + O % 5) k ⟨#[]⟩ ⟨#[]⟩ 0 (typedTy (4 + O % 5) ty1) 0 (some Wp.heap.size) 1 1)) 27 ((HBW.out.block _ HTOP.out.lt).trans HTOP.out.row) (by have := HTOP.out.len; have := HTOP.out.fit; show m * 8 + 8 ≤ cur.length; omega) (exL_one _ _ _ _ _ _ _ _ _ _) rfl ?_
            have HSET := Lib.hid (HST.out.set (S' := fun z => S z ∨ z = Wp.heap.size) (y := .mk (4 + O % 5) k ⟨#[]⟩ ⟨#[]⟩ 0 (typedTy (4 + O % 5) ty1) 0 [.mk op1 at1 name1 field1 n1 ty1 ref1 args1]) m (m + 1) HN.out hz HTOP.out (by omega) HBW.out HX.out (ExIn.mk (A := some Wp.heap.size) (c := 1) (args := [.mk op1 at1 name1 field1 n1 ty1 ref1 args1]) (sl_one HNB.out ((HSL.out.under HBW.out (fun b hb => (HST.out.each.low b hb).2.1)).keep (fun b hb => .inl hb) (fun _ _ _ _ h => h)) (.inr rfl))) (fun b hb => .inl hb) (fun b hb => by rcases hb with hb | rfl; exact .inl hb; exact .inr ⟨HBX.out.below.size, by omega⟩) ⟨ok_un _ k _ (by omega) (by omega) HOK1.out, typedTy_12 _ _ hty1⟩ (by rw [sizeT]; simp only [sizeL]; omega))
            refine hK.out _ _ (by rw [World.cell?_of_block (setRow_other _ g wr.heap.size _ (by have := HTOP.out.lt; omega))]; exact HS.out _ HB2.out) (fun hHeld2 => ?_)
            clear hK K hHeld hHeld2
            try simp only [Act.put]
            refine wpAnyH_done (by kernel_rfl) ?_ _
            refine NoPanic.normal ?_
            generalize W2.setRow g _ = WF at *
            go_wp2
            go_roundw
            case rel =>
              obtain ⟨rows', h⟩ := HSET.out
              exact ⟨k + 1, _, rows', _, some ⟨g, 0, none⟩, sc, by omega, by omega, by go_num, by simp [HN.out], h⟩
            case measure =>
              simp [intOf]
              omega
          · have hC : (K % 11 == 5) = false := by simp; omega
            have hD : (K % 11 == 10) = true := by simpa using hK
            obtain ⟨m, rfl⟩ : ∃ m, n = m + 1 := ⟨n - 1, by omega⟩
            obtain ⟨g, cap, cur, hsv, htop⟩ := HST.out.topOf (by rw [HN.out]; omega)
            rw [HN.out] at hsv htop
            obtain ⟨rfl, _, rfl⟩ := slice_inj hsv
            clear hsv
            have HTOP := Lib.hid htop
            clear htop
            obtain ⟨op1, at1, name1, field1, n1, ty1, ref1, A1, c1, args1, hx, hs, hc⟩ := EA.out.row m (by omega) HN.out.symm
            have HX := Lib.hid hx
            have HSL := Lib.hid hs
            obtain ⟨hok1, hty1⟩ := HST.out.ok _ (List.mem_of_getElem? hx)
            have HOK1 := Lib.hid hok1
            clear hx hs hok1
            have HR : Hid (∀ W, Below Wp.heap.size Wp W → CellsAt W g (m * 8) (exL op1 at1 name1 field1 n1 ty1 ref1 A1 args1.length c1)) := fun W hW => (hc.below HBX.out.below HTOP.out.lt).below hW (by have := HTOP.out.lt; have := HBX.out.size; omega)
            clear hc
            have e1 : IntKind.i64.wrap (m : Int) = m := IntWalk.i64_in _ (by omega)
            have e0 : O.tmod 5 = O % 5 := Int.tmod_eq_emod_of_nonneg O1
            have e00 : O.tmod 4 = O % 4 := Int.tmod_eq_emod_of_nonneg O1
            have e2 : IntKind.i64.wrap (O % 5) = O % 5 := IntWalk.i64_in _ (by omega)
            have e3 : IntKind.i64.wrap (1 + O % 5) = 1 + O % 5 := IntWalk.i64_in _ (by omega)
            have e33 : IntKind.i64.wrap (O % 4) = O % 4 := IntWalk.i64_in _ (by omega)
            have e4 : (m : Int) < (m : Int) + 1 := by omega
            go_upto_region 15 with fail
            refine wp_region_noPanic ?_
            have HS : Hid (∀ W', Below Wp.heap.size Wp W' → W'.cell? ⟨wr.heap.size, 1, none⟩ = some (.int .u8 O)) := fun W' hW => by
              have := HBX.out.size
              rw [hW.cell (by show wr.heap.size < Wp.heap.size; omega)]
              exact p1
            refine wp_region_held_drew (S := (fun W' => W'.cell? ⟨wr.heap.size, 1, none⟩ = some (.int .u8 O))) (by kernel_rfl) p1 (fun hHeld => ?_)
            refine' take_ 0 rfl (by kernel_rfl) (by kernel_rfl) (by kernel_rfl) (fun _ _ _ h => h) (by rfl) (fun wS hSw => ?_) hHeld ?_
            rotate_left
            focus (go_simp; (try with_reducible rfl); done)
            try simp only [Act.put, List.setIfInBounds_toArray, List.set_cons_zero, List.set_cons_succ]
            refine' take_ 1 rfl (by kernel_rfl) (by kernel_rfl) (by kernel_rfl) (fun _ _ _ h => h) (by rfl) (fun wS hSw => ?_) hHeld ?_
            rotate_left
            focus (go_simp; (try with_reducible rfl); done)
            try simp only [Act.put, List.setIfInBounds_toArray, List.set_cons_zero, List.set_cons_succ]
            refine' take_ 2 rfl (by kernel_rfl) (by kernel_rfl) (by kernel_rfl) (fun _ _ _ h => h) (by rfl) (fun wS hSw => ?_) hHeld ?_
            rotate_left
            focus (go_simp; (try with_reducible rfl); done)
            try simp only [Act.put, List.setIfInBounds_toArray, List.set_cons_zero, List.set_cons_succ]
            refine' take_ 3 rfl (by kernel_rfl) (by kernel_rfl) (by kernel_rfl) (fun _ _ _ h => h) (by rfl) (fun wS hSw => ?_) hHeld ?_
            rotate_left
            focus (go_simp; (try with_reducible rfl); done)
            try simp only [Act.put, List.setIfInBounds_toArray, List.set_cons_zero, List.set_cons_succ]
            refine' take_ 4 rfl (by kernel_rfl) (by kernel_rfl) (by kernel_rfl) (fun _ _ _ h => h) (by rfl) (fun wS hSw => ?_) hHeld ?_
            rotate_left
            focus (go_simp; (try with_reducible rfl); done)
            try simp only [Act.put, List.setIfInBounds_toArray, List.set_cons_zero, List.set_cons_succ]
            refine' take_ 5 rfl (by kernel_rfl) (by kernel_rfl) (by kernel_rfl) (fun _ _ _ h => h) (by rfl) (fun wS hSw => ?_) hHeld ?_
            rotate_left
            focus (go_simp; (try with_reducible rfl); done)
            try simp only [Act.put, List.setIfInBounds_toArray, List.set_cons_zero, List.set_cons_succ]
            refine' take_ 6 rfl (by kernel_rfl) (by kernel_rfl) (by kernel_rfl) (fun _ _ _ h => h) (by rfl) (fun wS hSw => ?_) hHeld ?_
            rotate_left
            focus (go_simp; (try with_reducible rfl); done)
            try simp only [Act.put, List.setIfInBounds_toArray, List.set_cons_zero, List.set_cons_succ]
            refine' take_ 7 rfl (by kernel_rfl) (by kernel_rfl) (by kernel_rfl) (fun _ _ _ h => h) (by rfl) (fun wS hSw => ?_) hHeld ?_
            rotate_left
            focus (go_simp; (try with_reducible rfl); done)
            try simp only [Act.put, List.setIfInBounds_toArray, List.set_cons_zero, List.set_cons_succ]
            refine' take_ 8 rfl (by kernel_rfl) (by kernel_rfl) (by kernel_rfl) (fun _ _ _ h => h) (by rfl) (fun wS hSw => ?_) hHeld ?_
            rotate_left
            focus (go_simp; (try with_reducible rfl); done)
            try simp only [Act.put, List.setIfInBounds_toArray, List.set_cons_zero, List.set_cons_succ]
            refine' take_ 9 rfl (by kernel_rfl) (by kernel_rfl) (by kernel_rfl) (fun _ _ _ h => h) (by rfl) (fun wS hSw => ?_) hHeld ?_
            rotate_left
            focus (go_simp; (try with_reducible rfl); done)
            try simp only [Act.put, List.setIfInBounds_toArray, List.set_cons_zero, List.set_cons_succ]
            refine' take_ 10 rfl (by kernel_rfl) (by kernel_rfl) (by kernel_rfl) (fun _ _ _ h => h) (by rfl) (fun wS hSw => ?_) hHeld ?_
            rotate_left
            focus (go_simp; (try with_reducible rfl); done)
            try simp only [Act.put, List.setIfInBounds_toArray, List.set_cons_zero, List.set_cons_succ]
            refine' take_ 11 rfl (by kernel_rfl) (by kernel_rfl) (by kernel_rfl) (fun _ _ _ h => h) (by rfl) (fun wS hSw => ?_) hHeld ?_
            rotate_left
            focus (go_simp; (try with_reducible rfl); done)
            try simp only [Act.put, List.setIfInBounds_toArray, List.set_cons_zero, List.set_cons_succ]
            refine' take_ 12 rfl (by kernel_rfl) (by kernel_rfl) (by kernel_rfl) (fun _ _ _ h => h) (by rfl) (fun wS hSw => ?_) hHeld ?_
            rotate_left
            focus (go_simp; (try with_reducible rfl); done)
            try simp only [Act.put, List.setIfInBounds_toArray, List.set_cons_zero, List.set_cons_succ]
            refine' take_ 13 rfl (by kernel_rfl) (by kernel_rfl) (by kernel_rfl) (fun _ _ _ h => h) (by rfl) (fun wS hSw => ?_) hHeld ?_
            rotate_left
            focus (go_simp; (try with_reducible rfl); done)
            try simp only [Act.put, List.setIfInBounds_toArray, List.set_cons_zero, List.set_cons_succ]
            refine' take_ 14 rfl (by kernel_rfl) (by kernel_rfl) (by kernel_rfl) (fun _ _ _ h => h) (by rfl) (fun wS hSw => ?_) hHeld ?_
            rotate_left
            focus (go_simp; (try with_reducible rfl); done)
            try simp only [Act.put, List.setIfInBounds_toArray, List.set_cons_zero, List.set_cons_succ]
            refine' take_ 15 rfl (by kernel_rfl) (by kernel_rfl) (by kernel_rfl) (fun _ _ _ h => h) (by rfl) (fun wS hSw => ?_) hHeld ?_
            rotate_left
            focus (go_simp; (try with_reducible rfl); done)
            try simp only [Act.put, List.setIfInBounds_toArray, List.set_cons_zero, List.set_cons_succ]
            refine' take_ 16 rfl (by kernel_rfl) (by kernel_rfl) (by kernel_rfl) (fun _ _ _ h => h) (by rfl) (fun wS hSw => ?_) hHeld ?_
            rotate_left
            focus (go_simp; (try with_reducible rfl); done)
            try simp only [Act.put, List.setIfInBounds_toArray, List.set_cons_zero, List.set_cons_succ]
            refine' take_ 17 rfl (by kernel_rfl) (by kernel_rfl) (by kernel_rfl) (fun _ _ _ h => h) (by rfl) (fun wS hSw => ?_) hHeld ?_
            rotate_left
            focus (go_simp; (try with_reducible rfl); done)
            try simp only [Act.put, List.setIfInBounds_toArray, List.set_cons_zero, List.set_cons_succ]
            refine only_ 18 rfl (by kernel_rfl) (by rfl) (fun K hK => ?_)
            refine wp_load_row 27 _ rfl g (m * 8) rfl (exL op1 at1 name1 field1 n1 ty1 ref1 A1 args1.length c1) _ (HR.out _ (Below.refl _ _).drew) Try.underlying27 rfl (by kernel_rfl) ?_
            refine hK.out _ _ (hHeld) (fun hHeld2 => ?_)
            clear hK K hHeld
            have hHeld := hHeld2
            clear hHeld2
            try simp only [Act.put, List.setIfInBounds_toArray, List.set_cons_zero, List.set_cons_succ]
            refine only_ 19 rfl (by kernel_rfl) (by rfl) (fun K hK => ?_)
            go_simp
            refine hK.out _ _ (HS.out _ ((Below.refl _ _).alloc (Nat.le_refl _) _).drew) (fun hHeld2 => ?_)
            clear hK K hHeld
            have hHeld := hHeld2
            clear hHeld2
            try simp only [Act.put, List.setIfInBounds_toArray, List.set_cons_zero, List.set_cons_succ]
            have HB2 : Hid (Below Wp.heap.size Wp ((Wp.alloc (.cells (exL op1 at1 name1 field1 n1 ty1 ref1 A1 args1.length c1).toArray 27)).drew)) := ((Below.refl _ _).alloc (Nat.le_refl _) _).drew
            have HNB : Hid ((((Wp.alloc (.cells (exL op1 at1 name1 field1 n1 ty1 ref1 A1 args1.length c1).toArray 27)).drew)).heap[Wp.heap.size]? = some (.cells (exL op1 at1 name1 field1 n1 ty1 ref1 A1 args1.length c1).toArray 27 (0, 0))) := alloc_at Wp _
            have hsz2 : Wp.heap.size + 1 ≤ (((Wp.alloc (.cells (exL op1 at1 name1 field1 n1 ty1 ref1 A1 args1.length c1).toArray 27)).drew)).heap.size := by simp
            change wpAnyH _ _ _ _ _ _ _ _ (((Wp.alloc (.cells (exL op1 at1 name1 field1 n1 ty1 ref1 A1 args1.length c1).toArray 27)).drew))
            generalize ((Wp.alloc (.cells (exL op1 at1 name1 field1 n1 ty1 ref1 A1 args1.length c1).toArray 27)).drew) = W2 at *
            have HBW : Hid (Below wr.heap.size wr W2) := HBX.out.below.trans (HB2.out.mono HBX.out.below.size)
            refine' take_ 20 rfl (by kernel_rfl) (by kernel_rfl) (by kernel_rfl) (fun _ _ _ h => h) (by rfl) (fun wS hSw => ?_) hHeld ?_
            rotate_left
            focus (go_simp; (try with_reducible rfl); done)
            try simp only [Act.put, List.setIfInBounds_toArray, List.set_cons_zero, List.set_cons_succ]
            refine' take_ 21 rfl (by kernel_rfl) (by kernel_rfl) (by kernel_rfl) (fun _ _ _ h => h) (by rfl) (fun wS hSw => ?_) hHeld ?_
            rotate_left
            focus (go_simp; (try with_reducible rfl); done)
            try simp only [Act.put, List.setIfInBounds_toArray, List.set_cons_zero, List.set_cons_succ]
            refine only_ 22 rfl (by kernel_rfl) (by rfl) (fun K hK => ?_)
            refine wp_store_row rfl 27 _ _ rfl g (m * 8) rfl (exL 28 k ⟨#[]⟩ ⟨#[]⟩ (1 + O % 5) (1 + T % 2) (O % 4) (some Wp.heap.size) 1 1) rfl (by kernel_rfl) cur (newRow cur m (exL 28 k ⟨#[]⟩ ⟨#[]⟩ (1 + O % 5) (1 + T % 2) (O % 4) (some Wp.heap.size) 1 1)) 27 ((HBW.out.block _ HTOP.out.lt).trans HTOP.out.row) (by have := HTOP.out.len; have := HTOP.out.fit; show m * 8 + 8 ≤ cur.length; omega) (exL_one _ _ _ _ _ _ _ _ _ _) rfl ?_
            have HSET := Lib.hid (HST.out.set (S' := fun z => S z ∨ z = Wp.heap.size) (y := .mk 28 k ⟨#[]⟩ ⟨#[]⟩ (1 + O % 5) (1 + T % 2) (O % 4) [.mk op1 at1 name1 field1 n1 ty1 ref1 args1]) m (m + 1) HN.out hz HTOP.out (by omega) HBW.out HX.out (ExIn.mk (A := some Wp.heap.size) (c := 1) (args := [.mk op1 at1 name1 field1 n1 ty1 ref1 args1]) (sl_one HNB.out ((HSL.out.under HBW.out (fun b hb => (HST.out.each.low b hb).2.1)).keep (fun b hb => .inl hb) (fun _ _ _ _ h => h)) (.inr rfl))) (fun b hb => .inl hb) (fun b hb => by rcases hb with hb | rfl; exact .inl hb; exact .inr ⟨HBX.out.below.size, by omega⟩) ⟨ok_cell O T k _ HOK1.out, ty_12 T⟩ (by rw [sizeT]; simp only [sizeL]; omega))
            refine hK.out _ _ (by rw [World.cell?_of_block (setRow_other _ g wr.heap.size _ (by have := HTOP.out.lt; omega))]; exact HS.out _ HB2.out) (fun hHeld2 => ?_)
            clear hK K hHeld hHeld2
            try simp only [Act.put]
            refine wpAnyH_done (by kernel_rfl) ?_ _
            refine NoPanic.normal ?_
            generalize W2.setRow g _ = WF at *
            go_wp2
            go_roundw
            case rel =>
              obtain ⟨rows', h⟩ := HSET.out
              exact ⟨k + 1, _, rows', _, some ⟨g, 0, none⟩, sc, by omega, by omega, by go_num, by simp [HN.out], h⟩
            case measure =>
              simp [intOf]
              omega
          · have hC : (K % 11 == 5) = false := by simp; omega
            have hD : (K % 11 == 10) = false := by simp; omega
            by_cases hn1 : n = 1
            · have hE : decide (1 < (n : Int)) = false := by simp; omega
              go_wp2
              go_roundw
              case rel => exact ⟨k + 1, trees, rows, S, sa, sc, by omega, by omega, by go_num, by simp [HN.out], HST.out.skip hz HBX.out.below⟩
              case measure =>
                simp [intOf]
                omega
            obtain ⟨m, rfl⟩ : ∃ m, n = m + 2 := ⟨n - 2, by omega⟩
            obtain ⟨g, cap, cur, hsv, htop⟩ := HST.out.topOf (by rw [HN.out]; omega)
            rw [HN.out] at hsv htop
            obtain ⟨rfl, _, rfl⟩ := slice_inj hsv
            clear hsv
            have HTOP := Lib.hid htop
            clear htop
            obtain ⟨op1, at1, name1, field1, n1, ty1, ref1, A1, c1, args1, hx, hs, hc⟩ := EA.out.row m (by omega) HN.out.symm
            have HX := Lib.hid hx
            have HSL := Lib.hid hs
            obtain ⟨hok1, hty1⟩ := HST.out.ok _ (List.mem_of_getElem? hx)
            have HOK1 := Lib.hid hok1
            clear hx hs hok1
            obtain ⟨op2, at2, name2, field2, n2, ty2, ref2, A2, c2, args2, hx2, hs2, hc2⟩ := EA.out.row (m + 1) (by omega) HN.out.symm
            have HX2 := Lib.hid hx2
            have HSL2 := Lib.hid hs2
            obtain ⟨hok2, hty2⟩ := HST.out.ok _ (List.mem_of_getElem? hx2)
            have HOK2 := Lib.hid hok2
            clear hx2 hs2 hok2
            have HR : Hid (∀ W, Below Wp.heap.size Wp W → CellsAt W g (m * 8) (exL op1 at1 name1 field1 n1 ty1 ref1 A1 args1.length c1) ∧ CellsAt W g ((m + 1) * 8) (exL op2 at2 name2 field2 n2 ty2 ref2 A2 args2.length c2)) := fun W hW => ⟨(hc.below HBX.out.below HTOP.out.lt).below hW (by have := HTOP.out.lt; have := HBX.out.size; omega), (hc2.below HBX.out.below HTOP.out.lt).below hW (by have := HTOP.out.lt; have := HBX.out.size; omega)⟩
            clear hc hc2
            have e1 : IntKind.i64.wrap (m : Int) = m := IntWalk.i64_in _ (by omega)
            have e11 : IntKind.i64.wrap ((m : Int) + 2 - 1) = m + 1 := (IntWalk.i64_in _ (by omega)).trans (by omega)
            have e13 : (0 : Int) ≤ (m : Int) + 1 := by omega
            have hfit := HTOP.out.fit
            have hf2 : (m : Int) + 1 ≤ (sc : Int) := by omega
            clear hfit
            have e14 : ((m : Int) + 1).toNat = m + 1 := by omega
            have e0 : O.tmod 16 = O % 16 := Int.tmod_eq_emod_of_nonneg O1
            have e2 : IntKind.i64.wrap (O % 16) = O % 16 := IntWalk.i64_in _ (by omega)
            have e3 : IntKind.i64.wrap (9 + O % 16) = 9 + O % 16 := IntWalk.i64_in _ (by omega)
            have e4 : (m : Int) < (m : Int) + 2 := by omega
            have e5 : (m : Int) + 1 < (m : Int) + 2 := by omega
            have HS : Hid (∀ W', Below Wp.heap.size Wp W' → W'.cell? ⟨wr.heap.size, 1, none⟩ = some (.int .u8 O)) := fun W' hW => by
              have := HBX.out.size
              rw [hW.cell (by show wr.heap.size < Wp.heap.size; omega)]
              exact p1
            go_upto_region 17 with fail
            refine wp_region_noPanic ?_
            refine wp_region_held_drew (S := (fun W' => W'.cell? ⟨wr.heap.size, 1, none⟩ = some (.int .u8 O))) (by kernel_rfl) p1 (fun hHeld => ?_)
            refine' take_ 0 rfl (by kernel_rfl) (by kernel_rfl) (by kernel_rfl) (fun _ _ _ h => h) (by rfl) (fun wS hSw => ?_) hHeld ?_
            rotate_left
            focus (go_simp; (try with_reducible rfl); done)
            try simp only [Act.put, List.setIfInBounds_toArray, List.set_cons_zero, List.set_cons_succ]
            refine' take_ 1 rfl (by kernel_rfl) (by kernel_rfl) (by kernel_rfl) (fun _ _ _ h => h) (by rfl) (fun wS hSw => ?_) hHeld ?_
            rotate_left
            focus (go_simp; (try with_reducible rfl); done)
            try simp only [Act.put, List.setIfInBounds_toArray, List.set_cons_zero, List.set_cons_succ]
            refine' take_ 2 rfl (by kernel_rfl) (by kernel_rfl) (by kernel_rfl) (fun _ _ _ h => h) (by rfl) (fun wS hSw => ?_) hHeld ?_
            rotate_left
            focus (go_simp; (try with_reducible rfl); done)
            try simp only [Act.put, List.setIfInBounds_toArray, List.set_cons_zero, List.set_cons_succ]
            refine' take_ 3 rfl (by kernel_rfl) (by kernel_rfl) (by kernel_rfl) (fun _ _ _ h => h) (by rfl) (fun wS hSw => ?_) hHeld ?_
            rotate_left
            focus (go_simp; (try with_reducible rfl); done)
            try simp only [Act.put, List.setIfInBounds_toArray, List.set_cons_zero, List.set_cons_succ]
            refine' take_ 4 rfl (by kernel_rfl) (by kernel_rfl) (by kernel_rfl) (fun _ _ _ h => h) (by rfl) (fun wS hSw => ?_) hHeld ?_
            rotate_left
            focus (go_simp; (try with_reducible rfl); done)
            try simp only [Act.put, List.setIfInBounds_toArray, List.set_cons_zero, List.set_cons_succ]
            refine' take_ 5 rfl (by kernel_rfl) (by kernel_rfl) (by kernel_rfl) (fun _ _ _ h => h) (by rfl) (fun wS hSw => ?_) hHeld ?_
            rotate_left
            focus (go_simp; (try with_reducible rfl); done)
            try simp only [Act.put, List.setIfInBounds_toArray, List.set_cons_zero, List.set_cons_succ]
            refine' take_ 6 rfl (by kernel_rfl) (by kernel_rfl) (by kernel_rfl) (fun _ _ _ h => h) (by rfl) (fun wS hSw => ?_) hHeld ?_
            rotate_left
            focus (go_simp; (try with_reducible rfl); done)
            try simp only [Act.put, List.setIfInBounds_toArray, List.set_cons_zero, List.set_cons_succ]
            refine' take_ 7 rfl (by kernel_rfl) (by kernel_rfl) (by kernel_rfl) (fun _ _ _ h => h) (by rfl) (fun wS hSw => ?_) hHeld ?_
            rotate_left
            focus (go_simp; (try with_reducible rfl); done)
            try simp only [Act.put, List.setIfInBounds_toArray, List.set_cons_zero, List.set_cons_succ]
            refine' take_ 8 rfl (by kernel_rfl) (by kernel_rfl) (by kernel_rfl) (fun _ _ _ h => h) (by rfl) (fun wS hSw => ?_) hHeld ?_
            rotate_left
            focus (go_simp; (try with_reducible rfl); done)
            try simp only [Act.put, List.setIfInBounds_toArray, List.set_cons_zero, List.set_cons_succ]
            refine' take_ 9 rfl (by kernel_rfl) (by kernel_rfl) (by kernel_rfl) (fun _ _ _ h => h) (by rfl) (fun wS hSw => ?_) hHeld ?_
            rotate_left
            focus (go_simp; (try with_reducible rfl); done)
            try simp only [Act.put, List.setIfInBounds_toArray, List.set_cons_zero, List.set_cons_succ]
            refine' take_ 10 rfl (by kernel_rfl) (by kernel_rfl) (by kernel_rfl) (fun _ _ _ h => h) (by rfl) (fun wS hSw => ?_) hHeld ?_
            rotate_left
            focus (go_simp; (try with_reducible rfl); done)
            try simp only [Act.put, List.setIfInBounds_toArray, List.set_cons_zero, List.set_cons_succ]
            refine' take_ 11 rfl (by kernel_rfl) (by kernel_rfl) (by kernel_rfl) (fun _ _ _ h => h) (by rfl) (fun wS hSw => ?_) hHeld ?_
            rotate_left
            focus (go_simp; (try with_reducible rfl); done)
            try simp only [Act.put, List.setIfInBounds_toArray, List.set_cons_zero, List.set_cons_succ]
            refine' take_ 12 rfl (by kernel_rfl) (by kernel_rfl) (by kernel_rfl) (fun _ _ _ h => h) (by rfl) (fun wS hSw => ?_) hHeld ?_
            rotate_left
            focus (go_simp; (try with_reducible rfl); done)
            try simp only [Act.put, List.setIfInBounds_toArray, List.set_cons_zero, List.set_cons_succ]
            refine' take_ 14 rfl (by kernel_rfl) (by kernel_rfl) (by kernel_rfl) (fun _ _ _ h => h) (by rfl) (fun wS hSw => ?_) hHeld ?_
            rotate_left
            focus (go_simp; (try with_reducible rfl); done)
            try simp only [Act.put, List.setIfInBounds_toArray, List.set_cons_zero, List.set_cons_succ]
            refine' take_ 15 rfl (by kernel_rfl) (by kernel_rfl) (by kernel_rfl) (fun _ _ _ h => h) (by rfl) (fun wS hSw => ?_) hHeld ?_
            rotate_left
            focus (go_simp; (try with_reducible rfl); done)
            try simp only [Act.put, List.setIfInBounds_toArray, List.set_cons_zero, List.set_cons_succ]
            refine' take_ 16 rfl (by kernel_rfl) (by kernel_rfl) (by kernel_rfl) (fun _ _ _ h => h) (by rfl) (fun wS hSw => ?_) hHeld ?_
            rotate_left
            focus (go_simp; (try with_reducible rfl); done)
            try simp only [Act.put, List.setIfInBounds_toArray, List.set_cons_zero, List.set_cons_succ]
            refine' take_ 17 rfl (by kernel_rfl) (by kernel_rfl) (by kernel_rfl) (fun _ _ _ h => h) (by rfl) (fun wS hSw => ?_) hHeld ?_
            rotate_left
            focus (go_simp; (try with_reducible rfl); done)
            try simp only [Act.put, List.setIfInBounds_toArray, List.set_cons_zero, List.set_cons_succ]
            refine both_ 13 18 rfl rfl (by kernel_rfl) (by rfl) (by rfl) (fun K hK => ?_) (fun K hK => ?_)
            · refine wp_load_row 27 _ rfl g (m * 8) rfl (exL op1 at1 name1 field1 n1 ty1 ref1 A1 args1.length c1) _ (HR.out _ (Below.refl _ _).drew).1 Try.underlying27 rfl (by kernel_rfl) ?_
              refine hK.out _ _ (hHeld) (fun hHeld2 => ?_)
              clear hK K hHeld
              have hHeld := hHeld2
              clear hHeld2
              try simp only [Act.put, List.setIfInBounds_toArray, List.set_cons_zero, List.set_cons_succ]
              refine only_ 18 rfl (by kernel_rfl) (by rfl) (fun K hK => ?_)
              refine wp_load_row 27 _ rfl g ((m + 1) * 8) rfl (exL op2 at2 name2 field2 n2 ty2 ref2 A2 args2.length c2) _ (HR.out _ (Below.refl _ _).drew).2 Try.underlying27 rfl (by kernel_rfl) ?_
              refine hK.out _ _ (hHeld) (fun hHeld2 => ?_)
              clear hK K hHeld
              have hHeld := hHeld2
              clear hHeld2
              try simp only [Act.put, List.setIfInBounds_toArray, List.set_cons_zero, List.set_cons_succ]
              refine only_ 19 rfl (by kernel_rfl) (by rfl) (fun K hK => ?_)
              go_simp
              refine hK.out _ _ (HS.out _ ((Below.refl _ _).alloc (Nat.le_refl _) _).drew) (fun hHeld2 => ?_)
              clear hK K hHeld
              have hHeld := hHeld2
              clear hHeld2
              try simp only [Act.put, List.setIfInBounds_toArray, List.set_cons_zero, List.set_cons_succ]
              refine' take_ 20 rfl (by kernel_rfl) (by kernel_rfl) (by kernel_rfl) (fun _ _ _ h => h) (by rfl) (fun wS hSw => ?_) hHeld ?_
              rotate_left
              focus (go_simp; (try with_reducible rfl); done)
              try simp only [Act.put, List.setIfInBounds_toArray, List.set_cons_zero, List.set_cons_succ]
              refine only_ 21 rfl (by kernel_rfl) (by rfl) (fun K hK => ?_)
              go_simp
              by_cases hno : 9 + O % 16 = 14 ∨ 9 + O % 16 = 15 ∨ ty2 = ty1
              · refine (typed_2n (9 + O % 16) k Wp.heap.size 2 op1 at1 name1 field1 n1 ty1 ref1 A1 c1 args1.length op2 at2 name2 field2 n2 ty2 ref2 A2 c2 args2.length ((Wp.alloc (.cells (exL2 op1 at1 name1 field1 n1 ty1 ref1 A1 args1.length c1 op2 at2 name2 field2 n2 ty2 ref2 A2 args2.length c2).toArray 27)).drew) (by omega) (by omega) hno (alloc_at Wp _)).mono ?_
                rintro e W2 ⟨rfl, hb2⟩
                have HB2 : Hid (Below Wp.heap.size Wp W2) := ((Below.refl _ _).alloc (Nat.le_refl _) _).drew.trans (hb2.mono (by simp))
                have HNB : Hid (W2.heap[Wp.heap.size]? = some (.cells (exL2 op1 at1 name1 field1 n1 ty1 ref1 A1 args1.length c1 op2 at2 name2 field2 n2 ty2 ref2 A2 args2.length c2).toArray 27 (0, 0))) := (hb2.block _ (by simp)).trans (alloc_at Wp _)
                have HBW : Hid (Below wr.heap.size wr W2) := HBX.out.below.trans (HB2.out.mono HBX.out.below.size)
                have hsz2 := hb2.size
                simp at hsz2
                clear hb2
                go_simp
                refine hK.out _ _ (HS.out _ HB2.out) (fun hHeld2 => ?_)
                clear hK K hHeld
                have hHeld := hHeld2
                clear hHeld2
                try simp only [Act.put, List.setIfInBounds_toArray, List.set_cons_zero, List.set_cons_succ]
                refine' take_ 22 rfl (by kernel_rfl) (by kernel_rfl) (by kernel_rfl) (fun _ _ _ h => h) (by rfl) (fun wS hSw => ?_) hHeld ?_
                rotate_left
                focus (go_simp; (try with_reducible rfl); done)
                try simp only [Act.put, List.setIfInBounds_toArray, List.set_cons_zero, List.set_cons_succ]
                refine only_ 23 rfl (by kernel_rfl) (by rfl) (fun K hK => ?_)
                refine wp_store_row rfl 27 _ _ rfl g (m * 8) rfl (exL (9 + O % 16) k ⟨#[]⟩ ⟨#[]⟩ 0 (typedTy (9 + O % 16) ty1) 0 (some Wp.heap.size) 2 2) rfl (by kernel_rfl) cur (newRow cur m (exL (9 + O % 16) k ⟨#[]⟩ ⟨#[]⟩ 0 (typedTy (9 + O % 16) ty1) 0 (some Wp.heap.size) 2 2)) 27 ((HBW.out.block _ HTOP.out.lt).trans HTOP.out.row) (by have := HTOP.out.len; have := HTOP.out.fit; show m * 8 + 8 ≤ cur.length; omega) (exL_one _ _ _ _ _ _ _ _ _ _) rfl ?_
                have HSET := Lib.hid (HST.out.join (S' := fun z => S z ∨ z = Wp.heap.size) (y := .mk (9 + O % 16) k ⟨#[]⟩ ⟨#[]⟩ 0 (typedTy (9 + O % 16) ty1) 0 [.mk op1 at1 name1 field1 n1 ty1 ref1 args1, .mk op2 at2 name2 field2 n2 ty2 ref2 args2]) HN.out hz HTOP.out HBW.out HX.out HX2.out (ExIn.mk (A := some Wp.heap.size) (c := 2) (args := [.mk op1 at1 name1 field1 n1 ty1 ref1 args1, .mk op2 at2 name2 field2 n2 ty2 ref2 args2]) (sl_two HNB.out ((HSL.out.under HBW.out (fun b hb => (HST.out.each.low b hb).2.1)).keep (fun b hb => .inl hb) (fun _ _ _ _ h => h)) ((HSL2.out.under HBW.out (fun b hb => (HST.out.each.low b hb).2.1)).keep (fun b hb => .inl hb) (fun _ _ _ _ h => h)) (.inr rfl))) (fun b hb => .inl hb) (fun b hb => by rcases hb with hb | rfl; exact .inl hb; exact .inr ⟨HBX.out.below.size, by omega⟩) ⟨ok_bin (9 + O % 16) k (.mk op1 at1 name1 field1 n1 ty1 ref1 args1) (.mk op2 at2 name2 field2 n2 ty2 ref2 args2) (by omega) (by omega) hno HOK1.out HOK2.out, typedTy_12 _ _ hty1⟩ (by simp only [sizeT, sizeL]; omega))
                refine hK.out _ _ (by rw [World.cell?_of_block (setRow_other _ g wr.heap.size _ (by have := HTOP.out.lt; omega))]; exact HS.out _ HB2.out) (fun hHeld2 => ?_)
                clear hK K hHeld hHeld2
                try simp only [Act.put]
                refine wpAnyH_done (by kernel_rfl) ?_ _
                refine NoPanic.normal ?_
                generalize W2.setRow g _ = WF at *
                go_wp2
                go_roundw
                case rel =>
                  obtain ⟨rows', h⟩ := HSET.out
                  exact ⟨k + 1, _, rows', _, some ⟨g, 0, none⟩, sc, by omega, by omega, by go_num, by simp [HN.out], h⟩
                case measure =>
                  simp [intOf]
                  omega
              · refine (typed_2c (9 + O % 16) k Wp.heap.size 2 op1 at1 name1 field1 n1 ty1 ref1 A1 c1 args1.length op2 at2 name2 field2 n2 ty2 ref2 A2 c2 args2.length ((Wp.alloc (.cells (exL2 op1 at1 name1 field1 n1 ty1 ref1 A1 args1.length c1 op2 at2 name2 field2 n2 ty2 ref2 A2 args2.length c2).toArray 27)).drew) (by omega) (by omega) (fun h => hno (.inl h)) (fun h => hno (.inr (.inl h))) (fun h => hno (.inr (.inr h))) hty1 (alloc_at Wp _)).mono ?_
                rintro e W2 ⟨rfl, nb, c3, hnb1, hnb2, hrow, hnrow, hb2⟩
                have HB2 : Hid (Below Wp.heap.size Wp W2) := ((Below.refl _ _).alloc (Nat.le_refl _) _).drew.trans hb2
                have HNB := Lib.hid hrow
                have HNN := Lib.hid hnrow
                have HBW : Hid (Below wr.heap.size wr W2) := HBX.out.below.trans (HB2.out.mono HBX.out.below.size)
                have hsz2 := hb2.size
                simp at hsz2 hnb1
                clear hb2 hrow hnrow
                go_simp
                refine hK.out _ _ (HS.out _ HB2.out) (fun hHeld2 => ?_)
                clear hK K hHeld
                have hHeld := hHeld2
                clear hHeld2
                try simp only [Act.put, List.setIfInBounds_toArray, List.set_cons_zero, List.set_cons_succ]
                refine' take_ 22 rfl (by kernel_rfl) (by kernel_rfl) (by kernel_rfl) (fun _ _ _ h => h) (by rfl) (fun wS hSw => ?_) hHeld ?_
                rotate_left
                focus (go_simp; (try with_reducible rfl); done)
                try simp only [Act.put, List.setIfInBounds_toArray, List.set_cons_zero, List.set_cons_succ]
                refine only_ 23 rfl (by kernel_rfl) (by rfl) (fun K hK => ?_)
                refine wp_store_row rfl 27 _ _ rfl g (m * 8) rfl (exL (9 + O % 16) k ⟨#[]⟩ ⟨#[]⟩ 0 (typedTy (9 + O % 16) ty1) 0 (some Wp.heap.size) 2 2) rfl (by kernel_rfl) cur (newRow cur m (exL (9 + O % 16) k ⟨#[]⟩ ⟨#[]⟩ 0 (typedTy (9 + O % 16) ty1) 0 (some Wp.heap.size) 2 2)) 27 ((HBW.out.block _ HTOP.out.lt).trans HTOP.out.row) (by have := HTOP.out.len; have := HTOP.out.fit; show m * 8 + 8 ≤ cur.length; omega) (exL_one _ _ _ _ _ _ _ _ _ _) rfl ?_
                have HSET := Lib.hid (HST.out.join (S' := fun z => S z ∨ z = Wp.heap.size ∨ z = nb) (y := .mk (9 + O % 16) k ⟨#[]⟩ ⟨#[]⟩ 0 (typedTy (9 + O % 16) ty1) 0 [.mk op1 at1 name1 field1 n1 ty1 ref1 args1, .mk (7 + ty1 - 1) k ⟨#[]⟩ ⟨#[]⟩ 0 ty1 0 [.mk op2 at2 name2 field2 n2 ty2 ref2 args2]]) HN.out hz HTOP.out HBW.out HX.out HX2.out (ExIn.mk (A := some Wp.heap.size) (c := 2) (args := [.mk op1 at1 name1 field1 n1 ty1 ref1 args1, .mk (7 + ty1 - 1) k ⟨#[]⟩ ⟨#[]⟩ 0 ty1 0 [.mk op2 at2 name2 field2 n2 ty2 ref2 args2]]) (sl_two (args2 := [.mk op2 at2 name2 field2 n2 ty2 ref2 args2]) HNB.out ((HSL.out.under HBW.out (fun b hb => (HST.out.each.low b hb).2.1)).keep (fun b hb => .inl hb) (fun _ _ _ _ h => h)) (sl_one HNN.out ((HSL2.out.under HBW.out (fun b hb => (HST.out.each.low b hb).2.1)).keep (fun b hb => .inl hb) (fun _ _ _ _ h => h)) (.inr (.inr rfl))) (.inr (.inl rfl)))) (fun b hb => .inl hb) (fun b hb => by rcases hb with hb | rfl | rfl; exact .inl hb; exact .inr ⟨HBX.out.below.size, by omega⟩; exact .inr ⟨by have := HBX.out.below.size; omega, by omega⟩) ⟨ok_bin (9 + O % 16) k (.mk op1 at1 name1 field1 n1 ty1 ref1 args1) (.mk (7 + ty1 - 1) k ⟨#[]⟩ ⟨#[]⟩ 0 ty1 0 [.mk op2 at2 name2 field2 n2 ty2 ref2 args2]) (by omega) (by omega) (.inr (.inr rfl)) HOK1.out (ok_conv k ty1 _ hty1 HOK2.out), typedTy_12 _ _ hty1⟩ (by simp only [sizeT, sizeL]; omega))
                refine hK.out _ _ (by rw [World.cell?_of_block (setRow_other _ g wr.heap.size _ (by have := HTOP.out.lt; omega))]; exact HS.out _ HB2.out) (fun hHeld2 => ?_)
                clear hK K hHeld hHeld2
                try simp only [Act.put]
                refine wpAnyH_done (by kernel_rfl) ?_ _
                refine NoPanic.normal ?_
                generalize W2.setRow g _ = WF at *
                go_wp2
                go_roundw
                case rel =>
                  obtain ⟨rows', h⟩ := HSET.out
                  exact ⟨k + 1, _, rows', _, some ⟨g, 0, none⟩, sc, by omega, by omega, by go_num, by simp [HN.out], h⟩
                case measure =>
                  simp [intOf]
                  omega
            · refine wp_load_row 27 _ rfl g ((m + 1) * 8) rfl (exL op2 at2 name2 field2 n2 ty2 ref2 A2 args2.length c2) _ (HR.out _ (Below.refl _ _).drew).2 Try.underlying27 rfl (by kernel_rfl) ?_
              refine hK.out _ _ (hHeld) (fun hHeld2 => ?_)
              clear hK K hHeld
              have hHeld := hHeld2
              clear hHeld2
              try simp only [Act.put, List.setIfInBounds_toArray, List.set_cons_zero, List.set_cons_succ]
              refine only_ 13 rfl (by kernel_rfl) (by rfl) (fun K hK => ?_)
              refine wp_load_row 27 _ rfl g (m * 8) rfl (exL op1 at1 name1 field1 n1 ty1 ref1 A1 args1.length c1) _ (HR.out _ (Below.refl _ _).drew).1 Try.underlying27 rfl (by kernel_rfl) ?_
              refine hK.out _ _ (hHeld) (fun hHeld2 => ?_)
              clear hK K hHeld
              have hHeld := hHeld2
              clear hHeld2
              try simp only [Act.put, List.setIfInBounds_toArray, List.set_cons_zero, List.set_cons_succ]
              refine only_ 19 rfl (by kernel_rfl) (by rfl) (fun K hK => ?_)
              go_simp
              refine hK.out _ _ (HS.out _ ((Below.refl _ _).alloc (Nat.le_refl _) _).drew) (fun hHeld2 => ?_)
              clear hK K hHeld
              have hHeld := hHeld2
              clear hHeld2
              try simp only [Act.put, List.setIfInBounds_toArray, List.set_cons_zero, List.set_cons_succ]
              refine' take_ 20 rfl (by kernel_rfl) (by kernel_rfl) (by kernel_rfl) (fun _ _ _ h => h) (by rfl) (fun wS hSw => ?_) hHeld ?_
              rotate_left
              focus (go_simp; (try with_reducible rfl); done)
              try simp only [Act.put, List.setIfInBounds_toArray, List.set_cons_zero, List.set_cons_succ]
              refine only_ 21 rfl (by kernel_rfl) (by rfl) (fun K hK => ?_)
              go_simp
              by_cases hno : 9 + O % 16 = 14 ∨ 9 + O % 16 = 15 ∨ ty2 = ty1
              · refine (typed_2n (9 + O % 16) k Wp.heap.size 2 op1 at1 name1 field1 n1 ty1 ref1 A1 c1 args1.length op2 at2 name2 field2 n2 ty2 ref2 A2 c2 args2.length ((Wp.alloc (.cells (exL2 op1 at1 name1 field1 n1 ty1 ref1 A1 args1.length c1 op2 at2 name2 field2 n2 ty2 ref2 A2 args2.length c2).toArray 27)).drew) (by omega) (by omega) hno (alloc_at Wp _)).mono ?_
                rintro e W2 ⟨rfl, hb2⟩
                have HB2 : Hid (Below Wp.heap.size Wp W2) := ((Below.refl _ _).alloc (Nat.le_refl _) _).drew.trans (hb2.mono (by simp))
                have HNB : Hid (W2.heap[Wp.heap.size]? = some (.cells (exL2 op1 at1 name1 field1 n1 ty1 ref1 A1 args1.length c1 op2 at2 name2 field2 n2 ty2 ref2 A2 args2.length c2).toArray 27 (0, 0))) := (hb2.block _ (by simp)).trans (alloc_at Wp _)
                have HBW : Hid (Below wr.heap.size wr W2) := HBX.out.below.trans (HB2.out.mono HBX.out.below.size)
                have hsz2 := hb2.size
                simp at hsz2
                clear hb2
                go_simp
                refine hK.out _ _ (HS.out _ HB2.out) (fun hHeld2 => ?_)
                clear hK K hHeld
                have hHeld := hHeld2
                clear hHeld2
                try simp only [Act.put, List.setIfInBounds_toArray, List.set_cons_zero, List.set_cons_succ]
                refine' take_ 22 rfl (by kernel_rfl) (by kernel_rfl) (by kernel_rfl) (fun _ _ _ h => h) (by rfl) (fun wS hSw => ?_) hHeld ?_
                rotate_left
                focus (go_simp; (try with_reducible rfl); done)
                try simp only [Act.put, List.setIfInBounds_toArray, List.set_cons_zero, List.set_cons_succ]
                refine only_ 23 rfl (by kernel_rfl) (by rfl) (fun K hK => ?_)
                refine wp_store_row rfl 27 _ _ rfl g (m * 8) rfl (exL (9 + O % 16) k ⟨#[]⟩ ⟨#[]⟩ 0 (typedTy (9 + O % 16) ty1) 0 (some Wp.heap.size) 2 2) rfl (by kernel_rfl) cur (newRow cur m (exL (9 + O % 16) k ⟨#[]⟩ ⟨#[]⟩ 0 (typedTy (9 + O % 16) ty1) 0 (some Wp.heap.size) 2 2)) 27 ((HBW.out.block _ HTOP.out.lt).trans HTOP.out.row) (by have := HTOP.out.len; have := HTOP.out.fit; show m * 8 + 8 ≤ cur.length; omega) (exL_one _ _ _ _ _ _ _ _ _ _) rfl ?_
                have HSET := Lib.hid (HST.out.join (S' := fun z => S z ∨ z = Wp.heap.size) (y := .mk (9 + O % 16) k ⟨#[]⟩ ⟨#[]⟩ 0 (typedTy (9 + O % 16) ty1) 0 [.mk op1 at1 name1 field1 n1 ty1 ref1 args1, .mk op2 at2 name2 field2 n2 ty2 ref2 args2]) HN.out hz HTOP.out HBW.out HX.out HX2.out (ExIn.mk (A := some Wp.heap.size) (c := 2) (args := [.mk op1 at1 name1 field1 n1 ty1 ref1 args1, .mk op2 at2 name2 field2 n2 ty2 ref2 args2]) (sl_two HNB.out ((HSL.out.under HBW.out (fun b hb => (HST.out.each.low b hb).2.1)).keep (fun b hb => .inl hb) (fun _ _ _ _ h => h)) ((HSL2.out.under HBW.out (fun b hb => (HST.out.each.low b hb).2.1)).keep (fun b hb => .inl hb) (fun _ _ _ _ h => h)) (.inr rfl))) (fun b hb => .inl hb) (fun b hb => by rcases hb with hb | rfl; exact .inl hb; exact .inr ⟨HBX.out.below.size, by omega⟩) ⟨ok_bin (9 + O % 16) k (.mk op1 at1 name1 field1 n1 ty1 ref1 args1) (.mk op2 at2 name2 field2 n2 ty2 ref2 args2) (by omega) (by omega) hno HOK1.out HOK2.out, typedTy_12 _ _ hty1⟩ (by simp only [sizeT, sizeL]; omega))
                refine hK.out _ _ (by rw [World.cell?_of_block (setRow_other _ g wr.heap.size _ (by have := HTOP.out.lt; omega))]; exact HS.out _ HB2.out) (fun hHeld2 => ?_)
                clear hK K hHeld hHeld2
                try simp only [Act.put]
                refine wpAnyH_done (by kernel_rfl) ?_ _
                refine NoPanic.normal ?_
                generalize W2.setRow g _ = WF at *
                go_wp2
                go_roundw
                case rel =>
                  obtain ⟨rows', h⟩ := HSET.out
                  exact ⟨k + 1, _, rows', _, some ⟨g, 0, none⟩, sc, by omega, by omega, by go_num, by simp [HN.out], h⟩
                case measure =>
                  simp [intOf]
                  omega
              · refine (typed_2c (9 + O % 16) k Wp.heap.size 2 op1 at1 name1 field1 n1 ty1 ref1 A1 c1 args1.length op2 at2 name2 field2 n2 ty2 ref2 A2 c2 args2.length ((Wp.alloc (.cells (exL2 op1 at1 name1 field1 n1 ty1 ref1 A1 args1.length c1 op2 at2 name2 field2 n2 ty2 ref2 A2 args2.length c2).toArray 27)).drew) (by omega) (by omega) (fun h => hno (.inl h)) (fun h => hno (.inr (.inl h))) (fun h => hno (.inr (.inr h))) hty1 (alloc_at Wp _)).mono ?_
                rintro e W2 ⟨rfl, nb, c3, hnb1, hnb2, hrow, hnrow, hb2⟩
                have HB2 : Hid (Below Wp.heap.size Wp W2) := ((Below.refl _ _).alloc (Nat.le_refl _) _).drew.trans hb2
                have HNB := Lib.hid hrow
                have HNN := Lib.hid hnrow
                have HBW : Hid (Below wr.heap.size wr W2) := HBX.out.below.trans (HB2.out.mono HBX.out.below.size)
                have hsz2 := hb2.size
                simp at hsz2 hnb1
                clear hb2 hrow hnrow
                go_simp
                refine hK.out _ _ (HS.out _ HB2.out) (fun hHeld2 => ?_)
                clear hK K hHeld
                have hHeld := hHeld2
                clear hHeld2
                try simp only [Act.put, List.setIfInBounds_toArray, List.set_cons_zero, List.set_cons_succ]
                refine' take_ 22 rfl (by kernel_rfl) (by kernel_rfl) (by kernel_rfl) (fun _ _ _ h => h) (by rfl) (fun wS hSw => ?_) hHeld ?_
                rotate_left
                focus (go_simp; (try with_reducible rfl); done)
                try simp only [Act.put, List.setIfInBounds_toArray, List.set_cons_zero, List.set_cons_succ]
                refine only_ 23 rfl (by kernel_rfl) (by rfl) (fun K hK => ?_)
                refine wp_store_row rfl 27 _ _ rfl g (m * 8) rfl (exL (9 + O % 16) k ⟨#[]⟩ ⟨#[]⟩ 0 (typedTy (9 + O % 16) ty1) 0 (some Wp.heap.size) 2 2) rfl (by kernel_rfl) cur (newRow cur m (exL (9 + O % 16) k ⟨#[]⟩ ⟨#[]⟩ 0 (typedTy (9 + O % 16) ty1) 0 (some Wp.heap.size) 2 2)) 27 ((HBW.out.block _ HTOP.out.lt).trans HTOP.out.row) (by have := HTOP.out.len; have := HTOP.out.fit; show m * 8 + 8 ≤ cur.length; omega) (exL_one _ _ _ _ _ _ _ _ _ _) rfl ?_
                have HSET := Lib.hid (HST.out.join (S' := fun z => S z ∨ z = Wp.heap.size ∨ z = nb) (y := .mk (9 + O % 16) k ⟨#[]⟩ ⟨#[]⟩ 0 (typedTy (9 + O % 16) ty1) 0 [.mk op1 at1 name1 field1 n1 ty1 ref1 args1, .mk (7 + ty1 - 1) k ⟨#[]⟩ ⟨#[]⟩ 0 ty1 0 [.mk op2 at2 name2 field2 n2 ty2 ref2 args2]]) HN.out hz HTOP.out HBW.out HX.out HX2.out (ExIn.mk (A := some Wp.heap.size) (c := 2) (args := [.mk op1 at1 name1 field1 n1 ty1 ref1 args1, .mk (7 + ty1 - 1) k ⟨#[]⟩ ⟨#[]⟩ 0 ty1 0 [.mk op2 at2 name2 field2 n2 ty2 ref2 args2]]) (sl_two (args2 := [.mk op2 at2 name2 field2 n2 ty2 ref2 args2]) HNB.out ((HSL.out.under HBW.out (fun b hb => (HST.out.each.low b hb).2.1)).keep (fun b hb => .inl hb) (fun _ _ _ _ h => h)) (sl_one HNN.out ((HSL2.out.under HBW.out (fun b hb => (HST.out.each.low b hb).2.1)).keep (fun b hb => .inl hb) (fun _ _ _ _ h => h)) (.inr (.inr rfl))) (.inr (.inl rfl)))) (fun b hb => .inl hb) (fun b hb => by rcases hb with hb | rfl | rfl; exact .inl hb; exact .inr ⟨HBX.out.below.size, by omega⟩; exact .inr ⟨by have := HBX.out.below.size; omega, by omega⟩) ⟨ok_bin (9 + O % 16) k (.mk op1 at1 name1 field1 n1 ty1 ref1 args1) (.mk (7 + ty1 - 1) k ⟨#[]⟩ ⟨#[]⟩ 0 ty1 0 [.mk op2 at2 name2 field2 n2 ty2 ref2 args2]) (by omega) (by omega) (.inr (.inr rfl)) HOK1.out (ok_conv k ty1 _ hty1 HOK2.out), typedTy_12 _ _ hty1⟩ (by simp only [sizeT, sizeL]; omega))
                refine hK.out _ _ (by rw [World.cell?_of_block (setRow_other _ g wr.heap.size _ (by have := HTOP.out.lt; omega))]; exact HS.out _ HB2.out) (fun hHeld2 => ?_)
                clear hK K hHeld hHeld2
                try simp only [Act.put]
                refine wpAnyH_done (by kernel_rfl) ?_ _
                refine NoPanic.normal ?_
                generalize W2.setRow g _ = WF at *
                go_wp2
                go_roundw
                case rel =>
                  obtain ⟨rows', h⟩ := HSET.out
                  exact ⟨k + 1, _, rows', _, some ⟨g, 0, none⟩, sc, by omega, by omega, by go_num, by simp [HN.out], h⟩
                case measure =>
                  simp [intOf]
                  omega
    · have HRES : Hid (wr.heap[w.heap.size]? = some (.cells zeroL.toArray 27 (0, 0))) := (HST.out.each.below.block _ (by have := HM.out.size; omega)).trans HM.out.row
      have HBW : Hid (Below w.heap.size w wr) := HM.out.below.trans (HST.out.each.below.mono HM.out.below.size)
      have z0 := row_at HRES.out 0 _ rfl
      have f0 : wr.frozen? ⟨w.heap.size, 0, none⟩ = false := row_free HRES.out
      have z1 := row_at HRES.out 1 _ rfl
      have f1 : wr.frozen? ⟨w.heap.size, 1, none⟩ = false := row_free HRES.out
      have z2 := row_at HRES.out 2 _ rfl
      have f2 : wr.frozen? ⟨w.heap.size, 2, none⟩ = false := row_free HRES.out
      have z3 := row_at HRES.out 3 _ rfl
      have f3 : wr.frozen? ⟨w.heap.size, 3, none⟩ = false := row_free HRES.out
      have z4 := row_at HRES.out 4 _ rfl
      have f4 : wr.frozen? ⟨w.heap.size, 4, none⟩ = false := row_free HRES.out
      have z5 := row_at HRES.out 5 _ rfl
      have f5 : wr.frozen? ⟨w.heap.size, 5, none⟩ = false := row_free HRES.out
      have z6 := row_at HRES.out 6 _ rfl
      have f6 : wr.frozen? ⟨w.heap.size, 6, none⟩ = false := row_free HRES.out
      have z7 := row_at HRES.out 7 _ rfl
      have f7 : wr.frozen? ⟨w.heap.size, 7, none⟩ = false := row_free HRES.out
      have hcond : k = len ∨ k < len ∧ k = 60 := by omega
      rw [hn]
      by_cases hn0 : n = 0
      · have hE : ((n : Int) == 0) = true := by simpa using hn0
        rcases hcond with rfl | ⟨hc1, rfl⟩
        all_goals
          go_wp2
          refine made_fin (g := w.heap.size) rfl (set8_row (z0 := .int .i64 0) (z1 := .int .i64 0) (z2 := .string ⟨#[]⟩) (z3 := .string ⟨#[]⟩) (z4 := .int .i64 0) (z5 := .int .i64 0) (z6 := .int .i64 0) (z7 := .slice none 0 0) _ _ _ _ _ _ _ _ HRES.out) ⟨0, 0, ⟨#[]⟩, ⟨#[]⟩, 0, 0, 0, none, 0, [], fun _ => False, rfl, ?_, ?_, .nil, fun _ h => h.elim, set8_below HBW.out (Nat.le_refl _) _ _ _ _ _ _ _ _⟩
          · rw [okT]
            exact ⟨by omega, by omega, .inl rfl, by simp [okL]⟩
          · rw [sizeT]
            simp only [sizeL]
            omega
      · obtain ⟨m, rfl⟩ : ∃ m, n = m + 1 := ⟨n - 1, by omega⟩
        have hE : (((m + 1 : Nat) : Int) == 0) = false := by simp; omega
        have ea := HST.out.each
        rw [HN.out] at ea
        have EA := Lib.hid ea
        clear ea
        obtain ⟨g, cap, cur, hsv, htop⟩ := HST.out.topOf (by rw [HN.out]; omega)
        rw [HN.out] at hsv htop
        obtain ⟨rfl, _, rfl⟩ := slice_inj hsv
        clear hsv
        have hgl := htop.lt
        clear htop
        obtain ⟨op1, at1, name1, field1, n1, ty1, ref1, A1, c1, args1, hx, hs, hc⟩ := EA.out.row m (by omega) HN.out.symm
        have HX := Lib.hid hx
        have HSL := Lib.hid hs
        obtain ⟨hok1, hty1⟩ := HST.out.ok _ (List.mem_of_getElem? hx)
        have HOK1 := Lib.hid hok1
        have HC := Lib.hid hc
        have HSZ : Hid (sizeT (.mk op1 at1 name1 field1 n1 ty1 ref1 args1) ≤ 120) := by
          have h1 := sizeL_take trees m _ hx
          have h2 := sizeL_le trees (m + 1)
          have h3 := HST.out.size
          show sizeT (.mk op1 at1 name1 field1 n1 ty1 ref1 args1) ≤ 120
          omega
        clear hx hs hok1 hc
        rcases hcond with rfl | ⟨hc1, rfl⟩
        all_goals
          go_wp2_with (refine wpList_load_at rfl 27 _ rfl g (m * 8) rfl (exL op1 at1 name1 field1 n1 ty1 ref1 A1 args1.length c1) _ HC.out Try.underlying27 rfl (by kernel_rfl) ?_)
          refine made_fin (g := w.heap.size) rfl (set8_row (z0 := .int .i64 0) (z1 := .int .i64 0) (z2 := .string ⟨#[]⟩) (z3 := .string ⟨#[]⟩) (z4 := .int .i64 0) (z5 := .int .i64 0) (z6 := .int .i64 0) (z7 := .slice none 0 0) _ _ _ _ _ _ _ _ HRES.out) ⟨op1, at1, name1, field1, n1, ty1, ref1, A1, c1, args1, S, rfl, HOK1.out, HSZ.out, HSL.out.keep (fun _ h => h) (fun b hb j v hv => ?_), fun b hb => ?_, set8_below HBW.out (Nat.le_refl _) _ _ _ _ _ _ _ _⟩
          · have hne : b ≠ w.heap.size := by
              have := (EA.out.low b hb).1
              have := HM.out.size
              omega
            exact (set8_cell (W := wr) hne (.int .i64 op1) (.int .i64 at1) (.string name1) (.string field1) (.int .i64 n1) (.int .i64 ty1) (.int .i64 ref1) (slV A1 args1.length c1) j).trans hv
          · have h1 := EA.out.low b hb
            have h2 := HM.out.size
            rw [set8_size]
            omega
end Go.Proofs.Ythmphmndpfkbcaa
