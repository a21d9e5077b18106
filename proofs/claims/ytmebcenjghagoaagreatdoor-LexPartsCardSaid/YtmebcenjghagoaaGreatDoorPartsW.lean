/-
  LexParts, its walk: it answers true for all slices of bytes. Conditions: the listed variables hold what they hold.
-/
import Derived.Test.YtmebcenjghagoaaGreatDoorPartsP
import Derived.Test.YtmebcenjghagoaaGreatDoorWorks
namespace Go.Proofs.YtmebcenjghagoaaGreatDoor
open Go.RowKit

set_option maxRecDepth 100000 in
set_option maxHeartbeats 8000000 in
theorem parts_any (A : Option Addr) (n c : Nat) (l : List Nat) (A' : Option Addr) (n' c' : Nat) (l' : List Nat) (w : World) (hL : LaidL w) (hl : l.length = n) (h256 : ∀ x ∈ l, x < 256) (hA : RdB w w.heap.size A l) (hl' : l'.length = n') (h256' : ∀ x ∈ l', x < 256) (hA' : RdB w w.heap.size A' l') :
    Calls Tryz.prog 7 #[.slice A n c, .slice A' n' c'] w fun e w' => e = .returned (.bool true) ∧ Below w.heap.size w w' := by
  have HL := Lib.hid hL
  have hlt := hL.lt
  have HA := Lib.hid hA
  have HA' := Lib.hid hA'
  have Hl := Lib.hid hl
  have Hl' := Lib.hid hl'
  clear hL hA hA' hl hl'
  have HC := Lib.hid count_all
  go_enter Tryz.func7, Tryz.ntmps7
  go_wp2_with fail
  refine (works_any _ HL.out).mono ?_
  rintro e w1 ⟨rfl, hb1⟩
  have B1 := Lib.hid hb1
  have HR := Lib.hid (HA.out.below B1.out (Nat.le_refl _))
  have HR' := Lib.hid (HA'.out.below B1.out (Nat.le_refl _))
  clear hb1
  go_wp2_with fail
  refine (made_any A n c l w1 Hl.out h256 ⟨HR.out.none_, fun a ha hne => Nat.lt_of_lt_of_le (HR.out.low a ha hne) B1.out.size, HR.out.cells⟩).mono ?_
  rintro e w2 ⟨s, rfl, hs, hb2⟩
  have B2 := Lib.hid (B1.out.trans (hb2.mono B1.out.size))
  have HR2 := Lib.hid (HA'.out.below B2.out (Nat.le_refl _))
  clear hb2 B1 HR HR' HA
  go_wp2_with fail
  refine (made_any A' n' c' l' w2 Hl'.out h256' ⟨HR2.out.none_, fun a ha hne => Nat.lt_of_lt_of_le (HR2.out.low a ha hne) B2.out.size, HR2.out.cells⟩).mono ?_
  rintro e w3 ⟨b, rfl, hs', hb3⟩
  have B3 := Lib.hid (B2.out.trans (hb3.mono B2.out.size))
  clear hb3 B2 HR2 HA'
  have HP := Lib.hid (parts_of s b hs hs')
  have hz : (s ++ (⟨#[10]⟩ : ByteArray)).size ≤ 2001 := by rw [ByteArray.size_append]; show s.size + 1 ≤ _; omega
  have hz2 : ((s ++ (⟨#[10]⟩ : ByteArray)) ++ b).size ≤ 4001 := by
    have : ((s ++ (⟨#[10]⟩ : ByteArray)) ++ b).size = (s ++ (⟨#[10]⟩ : ByteArray)).size + b.size := ByteArray.size_append
    omega
  have HY1 := Lib.hid (lexS_lies (s ++ ⟨#[10]⟩))
  have HY2 := Lib.hid (lexS_lies b)
  have hq1 := lexS_at (s ++ ⟨#[10]⟩)
  have hq2 := lexS_at b
  have hn1 := lexS_len (s ++ ⟨#[10]⟩)
  have hn2 := lexS_len b
  have hL1 := nls_le (s ++ (⟨#[10]⟩ : ByteArray)) 0 (s ++ (⟨#[10]⟩ : ByteArray)).size
  have HX1 := Lib.hid (fun w hL => Lex_any (s ++ ⟨#[10]⟩) w hL (by omega))
  have HX2 := Lib.hid (fun w hL => Lex_any b w hL (by omega))
  have HX3 := Lib.hid (fun w hL => Lex_any ((s ++ ⟨#[10]⟩) ++ b) w hL (by omega))
  have HC1 := Lib.hid (fun w => HC.out (s ++ ⟨#[10]⟩) w)
  clear HC
  obtain ⟨T, hT⟩ : ∃ T, (s ++ (⟨#[10]⟩ : ByteArray)) = T := ⟨_, rfl⟩
  rw [hT] at HP hz hz2 HY1 hn1 hq1 hL1 HX1 HX3 HC1 ⊢
  clear hT
  go_wp2_with fail
  refine (HX1.out w3 (HL.out.below B3.out hlt)).mono ?_
  rintro e w4 ⟨v4, ev4, rfl, ho4, he4, hb4⟩
  have B4 := Lib.hid (B3.out.trans (hb4.mono B3.out.size))
  have HO4 := Lib.hid ho4
  have HE4 := Lib.hid he4
  obtain ⟨A4, c4, rfl⟩ := ho4.form
  clear hb4 ho4 he4 B3 HX1
  go_wp2_with fail
  refine (HX2.out w4 (HL.out.below B4.out hlt)).mono ?_
  rintro e w5 ⟨v5, ev5, rfl, ho5, he5, hb5⟩
  have B5 := Lib.hid (B4.out.trans (hb5.mono B4.out.size))
  have HO5 := Lib.hid ho5
  have HE5 := Lib.hid he5
  have HO4' := Lib.hid (HO4.out.below hb5 (Nat.le_refl _))
  have HE4' := Lib.hid (HE4.out.below hb5 (Nat.le_refl _))
  obtain ⟨A5, c5, rfl⟩ := ho5.form
  clear hb5 ho5 he5 B4 HX2 HO4 HE4
  go_wp2_with fail
  refine (HX3.out w5 (HL.out.below B5.out hlt)).mono ?_
  rintro e w6 ⟨v6, ev6, rfl, ho6, he6, hb6⟩
  have B6 := Lib.hid (B5.out.trans (hb6.mono B5.out.size))
  have HO6 := Lib.hid ho6
  have HE6 := Lib.hid he6
  have HO4 := Lib.hid (HO4'.out.below hb6 (Nat.le_refl _))
  have HE4 := Lib.hid (HE4'.out.below hb6 (Nat.le_refl _))
  have HO5' := Lib.hid (HO5.out.below hb6 (Nat.le_refl _))
  have HE5' := Lib.hid (HE5.out.below hb6 (Nat.le_refl _))
  obtain ⟨A6, c6, rfl⟩ := ho6.form
  clear hb6 ho6 he6 B5 HX3 HO4' HE4' HO5 HE5
  generalize lexS T = X at *
  generalize lexS b = Y at *
  generalize lexS (T ++ b) = Z at *
  obtain ⟨x, e1⟩ := X
  obtain ⟨y, e2⟩ := Y
  obtain ⟨z, e3⟩ := Z
  simp only at *
  by_cases hbad1 : e1.1 ≠ 0
  · have hz3 := HP.out.bad1 hbad1
    simp only [Prod.mk.injEq] at hz3
    obtain ⟨hz31, hz32⟩ := hz3
    subst hz31 hz32
    obtain ⟨b1, rfl, r1⟩ := HE4.out.row hbad1
    obtain ⟨b3, rfl, r3⟩ := HE6.out.row hbad1
    have HS := Lib.hid (same_hit b1 b3 _ _ _ 0 w6 (HL.out.below B6.out hlt) r1 r3 (by omega) (by omega) (by omega))
    clear r1 r3 HE4 HE6 HE5' hbad1
    go_wp2_with (go_at_call 24; go_must (refine HS.out.mono ?_; rintro e w7 ⟨rfl, hb7⟩; have HB7 := Lib.hid (B6.out.trans (hb7.mono B6.out.size)); clear hb7))
    go_ret
    exact ⟨rfl, HB7.out⟩
  have hok1 : e1.1 = 0 := by omega
  have hnil1 := HE4.out.nil hok1
  subst hnil1
  by_cases hbad2 : e2.1 ≠ 0
  · have hz3 := HP.out.bad2 hok1 hbad2
    simp only [Prod.mk.injEq] at hz3
    obtain ⟨hz31, hz32⟩ := hz3
    subst hz31 hz32
    obtain ⟨b2, rfl, r2⟩ := HE5'.out.row hbad2
    obtain ⟨b3, rfl, r3⟩ := HE6.out.row hbad2
    have HS := Lib.hid (same_hit b2 b3 _ _ _ (T.size : Int) w6 (HL.out.below B6.out hlt) r2 r3 (by simp only; omega) (by simp only; omega) (by simp only; omega))
    clear r2 r3 HE4 HE6 HE5' hbad1 hbad2
    go_wp2_with (go_at_call 24; go_must (refine HS.out.mono ?_; rintro e w7 ⟨rfl, hb7⟩; have HB7 := Lib.hid (B6.out.trans (hb7.mono B6.out.size)); clear hb7))
    go_ret
    exact ⟨rfl, HB7.out⟩
  have hok2 : e2.1 = 0 := by omega
  have hnil2 := HE5'.out.nil hok2
  subst hnil2
  have hz3 := HP.out.good hok1 hok2
  simp only [Prod.mk.injEq] at hz3
  obtain ⟨hz31, hz32⟩ := hz3
  have hnil3 := HE6.out.nil (by rw [hz32])
  subst hnil3
  have hxp := (HP.out.pos hok1).1
  have hx1 : 1 ≤ x.length := List.length_pos_iff.2 hxp
  have hzl : z.length = x.length - 1 + y.length := by rw [hz31, List.length_append, List.length_dropLast, List.length_map]
  have HZ := Lib.hid hz31
  have HT4 := Lib.hid HO4.out
  clear hz31 hz32 hxp HE4 HE5' HE6 hbad1 hbad2 hok1 hok2 HP
  obtain ⟨nx, hnx⟩ : ∃ k, x.length = k := ⟨_, rfl⟩
  obtain ⟨ny, hny⟩ : ∃ k, y.length = k := ⟨_, rfl⟩
  obtain ⟨nz, hnz⟩ : ∃ k, z.length = k := ⟨_, rfl⟩
  rw [hnx] at hx1 hzl hn1 ⊢
  rw [hny] at hzl hn2 ⊢
  rw [hnz] at hzl ⊢
  have g1 : ((nz : Int) != (nx : Int) - 1 + (ny : Int)) = false := by simp; omega
  have Hzl := Lib.hid hzl
  have Hnx := Lib.hid hnx
  have Hny := Lib.hid hny
  have Hnz := Lib.hid hnz
  have hny2 : ny ≤ 2001 := by omega
  clear hzl hnx hny hnz hn2
  go_wp2_with fail
  go_loopw [13] (fun i wr => ∃ k : Nat, k ≤ nz ∧ i = .int .i64 k ∧ Below w6.heap.size w6 wr) (fun i _ => nz - (intOf i).toNat)
  case atStart => exact ⟨0, Nat.zero_le _, rfl, Below.refl _ _⟩
  case round =>
    obtain ⟨k, hk, rfl, hbr⟩ := hrel
    have HB := Lib.hid hbr
    have hzw := hbr.size
    have HQ4 := Lib.hid (HO4.out.below hbr (Nat.le_refl _))
    have HQ5 := Lib.hid (HO5'.out.below hbr (Nat.le_refl _))
    have HQ6 := Lib.hid (HO6.out.below hbr (Nat.le_refl _))
    clear hbr
    by_cases hgo : k < nz
    · have k1 : (k : Int) < (nz : Int) := by omega
      obtain ⟨t, ht⟩ : ∃ t, z[k]? = some t := ⟨_, List.getElem?_eq_getElem (by rw [Hnz.out]; exact hgo)⟩
      obtain ⟨a6, rfl⟩ : ∃ a, A6 = some a := by
        cases A6 with
        | none => rw [HQ6.out.at_.1.none_ rfl] at ht; cases ht
        | some a => exact ⟨a, rfl⟩
      by_cases hk2 : k + 1 < nx
      · have k2 : (k : Int) < (nx : Int) - 1 := by omega
        have ht4 : x[k]? = some t := by
          rw [HZ.out, List.getElem?_append_left (by rw [List.length_dropLast, Hnx.out]; omega), List.getElem?_dropLast, if_pos (by rw [Hnx.out]; omega)] at ht
          exact ht
        obtain ⟨a4, rfl⟩ : ∃ a, A4 = some a := by
          cases A4 with
          | none => rw [HQ4.out.at_.1.none_ rfl] at ht4; cases ht4
          | some a => exact ⟨a, rfl⟩
        have HXA := Lib.hid ((HQ4.out.alloc (.cells #[.int .i64 0, .int .i64 0, .int .i64 0, .string ⟨#[]⟩, .int .i64 0] 38)).at_.1)
        have HZA := Lib.hid ((HQ6.out.alloc (.cells #[.int .i64 (t.k : Int), .int .i64 (t.p : Int), .int .i64 (t.l : Int), .string t.t, .int .i64 t.n] 38)).at_.1)
        obtain ⟨c0, c1, c2, c3, c4⟩ := HXA.out.cells a4 rfl k t ht4
        obtain ⟨d0, d1, d2, d3, d4⟩ := HZA.out.cells a6 rfl k t ht
        clear ht ht4
        go_wp2
        go_quiet (fail)
        go_wp2
        exact ⟨⟨k + 1, by omega, by go_num, below_drewN (HB.out.alloc hzw _) _⟩, by simp only [intOf]; omega⟩
      · have k2 : ¬ (k : Int) < (nx : Int) - 1 := by omega
        obtain ⟨j, hj⟩ : ∃ j, k + 1 = nx + j := ⟨k + 1 - nx, by omega⟩
        have hjy : j < ny := by have := Hzl.out; omega
        obtain ⟨u, hu⟩ : ∃ u, y[j]? = some u := ⟨_, List.getElem?_eq_getElem (by rw [Hny.out]; exact hjy)⟩
        have htu : t = mv T.size (nls T 0 T.size) u := by
          rw [HZ.out, List.getElem?_append_right (by rw [List.length_dropLast, Hnx.out]; omega), List.length_dropLast, Hnx.out, show k - (nx - 1) = j from by omega, List.getElem?_map, hu] at ht
          exact (Option.some.inj ht).symm
        obtain ⟨a5, rfl⟩ : ∃ a, A5 = some a := by
          cases A5 with
          | none => rw [HQ5.out.at_.1.none_ rfl] at hu; cases hu
          | some a => exact ⟨a, rfl⟩
        have hlu := HY2.out u (List.mem_of_getElem? hu)
        have u1 := hlu.p
        have u2 := hlu.l
        have i1 : (k : Int) - (nx : Int) + 1 = (j : Int) := by omega
        have j1 : (j : Int) < (ny : Int) := by omega
        have HXA := Lib.hid ((HQ5.out.alloc (.cells #[.int .i64 0, .int .i64 0, .int .i64 0, .string ⟨#[]⟩, .int .i64 0] 38)).at_.1)
        obtain ⟨c0, c1, c2, c3, c4⟩ := HXA.out.cells a5 rfl j u hu
        have HZA := Lib.hid ((HQ6.out.alloc (.cells #[.int .i64 (u.k : Int), .int .i64 ((u.p : Int) + (T.size : Int)), .int .i64 ((u.l : Int) + (nls T 0 T.size : Int)), .string u.t, .int .i64 u.n] 38)).at_.1)
        obtain ⟨d0, d1, d2, d3, d4⟩ := HZA.out.cells a6 rfl k t ht
        rw [htu] at d0 d1 d2 d3 d4
        simp only [mv] at d0 d1 d2 d3 d4
        rw [show ((T.size + u.p : Nat) : Int) = (u.p : Int) + (T.size : Int) from by omega] at d1
        rw [show ((u.l + nls T 0 T.size : Nat) : Int) = (u.l : Int) + (nls T 0 T.size : Int) from by omega] at d2
        have hwl : IntKind.i64.wrap ((u.l : Int) + (nls T 0 T.size : Int)) = (u.l : Int) + (nls T 0 T.size : Int) := IntWalk.i64_in _ (by omega)
        clear ht hu htu hlu hj
        go_wp2
        go_region_with (go_at_call 25; refine (HC1.out _).mono ?_; rintro e w' ⟨rfl, rfl⟩)
        all_goals go_wp2
        all_goals go_quiet (fail)
        all_goals go_wp2
        all_goals exact ⟨⟨k + 1, by omega, by go_num, below_drewN (HB.out.alloc hzw _) _⟩, by simp only [intOf]; omega⟩
    · have k1 : ¬ (k : Int) < (nz : Int) := by omega
      go_wp2
      go_ret
      exact ⟨rfl, B6.out.trans (HB.out.mono B6.out.size)⟩
end Go.Proofs.YtmebcenjghagoaaGreatDoor
