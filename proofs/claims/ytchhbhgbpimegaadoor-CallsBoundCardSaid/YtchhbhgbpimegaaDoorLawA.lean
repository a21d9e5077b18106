/-
  The law CallsBound, walked whole: what its first loop builds, the order, the places, the ways, the bounds. Conditions: its arguments are slices of bytes (and of such), and the table of math/bits lies where the program lays it.
-/
import Derived.Test.YtchhbhgbpimegaaDoorWorks
import Derived.Test.YtchhbhgbpimegaaDoorFacts
import Derived.Deep.CutBlock
namespace Go.Proofs.YtchhbhgbpimegaaDoor
open Go.RowKit
set_option linter.unusedVariables false
theorem rowinfo2 : (Tryd.prog.info? 36).map (fun i => (i.zero, i.size, i.bytes)) = some (some (.slice none 0 0), 1, 24) := by kernel_rfl
set_option maxRecDepth 100000 in
set_option maxHeartbeats 4000000 in
theorem bounds_any (n : Nat) (R : Nat → List Nat) (S Pr : List Nat) (rv sv pv : Value) (w : World) (hR : RawIs w rv n R) (hS : BytesIs w sv S) (hP : BytesIs w pv Pr) (hT : Tab w) :
    Calls Tryd.prog 4 #[rv, sv, pv] w fun e w' => e = .returned (.bool true) ∧ Below w.heap.size w w' := by
  obtain ⟨rA, rc, rfl, hrn, hrows⟩ := hR
  obtain ⟨sA, sc, rfl, hsn, hsb, hsc⟩ := hS
  obtain ⟨pA, pc, rfl, hpn, hpb, hpc⟩ := hP
  have HT := Lib.hid hT
  have HR := Lib.hid hrows
  have HSB := Lib.hid hsb
  have HSC := Lib.hid hsc
  have HPB := Lib.hid hpb
  have HPC := Lib.hid hpc
  obtain ⟨i0, hi0, hz0, hz1, hz2⟩ := info_parts intinfo
  have H9 := Lib.hid hz0
  have H10 := Lib.hid hz1
  have H11 := Lib.hid hz2
  have H12 := Lib.hid hi0
  obtain ⟨i1, hi1, hy0, hy1, hy2⟩ := info_parts rowinfo2
  have J9 := Lib.hid hy0
  have J10 := Lib.hid hy1
  have J11 := Lib.hid hy2
  have J12 := Lib.hid hi1
  simp only [maxLen] at hrn hsn hpn
  clear hz0 hz1 hz2 hi0 hy0 hy1 hy2 hi1 hT hrows hsb hsc hpb hpc
  go_enter Tryd.func4, Tryd.ntmps4
  go_upto_block 0 with (go_at_call 14; (refine (works_any _ HT.out).mono ?_); rintro e w1 ⟨rfl, hb1⟩; have HB1 := Lib.hid hb1; clear hb1)
  go_cut [7, 8, 9] (fun gv sv pv wx => ∃ (W : World) (us : List Value) (G : List (List Nat)) (sz pr : List Int), W = wx ∧ G.length ≤ 9 ∧ sz.length = G.length ∧ pr.length = G.length ∧ Below w.heap.size w W ∧ Built w.heap.size W gv sv pv us G sz pr)
  case first =>
    go_wp2_with fail
    go_loopw [7, 8, 9, 10] (fun gv sv pv i wr => ∃ (k : Nat) (us : List Value) (G : List (List Nat)) (sz pr : List Int), k ≤ 9 ∧ k ≤ n ∧ i = .int .i64 k ∧ G.length = k ∧ sz.length = k ∧ pr.length = k ∧ Below w.heap.size w wr ∧ Built w.heap.size wr gv sv pv us G sz pr) (fun _ _ _ i _ => 9 - (intOf i).toNat)
    case atStart => exact ⟨0, [], [], [], [], by omega, by omega, rfl, rfl, rfl, rfl, HB1.out, Built.start _ _⟩
    case round =>
      obtain ⟨k, us, G, sz, pr, hk9, hkn, rfl, hGk, hszk, hprk, hb, hbl⟩ := hrel
      obtain ⟨wo, rfl⟩ : ∃ wo, wo = wr := ⟨_, rfl⟩
      have HBL := Lib.hid hbl
      have HB := Lib.hid hb
      have HGK := Lib.hid hGk
      have HSK := Lib.hid hszk
      have HPK := Lib.hid hprk
      have HUL : Hid (us.length = k) := by
        have := hbl.len
        show us.length = k
        omega
      have hzb := hb.size
      obtain ⟨gA, gc, rfl⟩ := own_form hbl.g
      obtain ⟨zA, zc, rfl⟩ := own_form hbl.s
      obtain ⟨qA, qc, rfl⟩ := own_form hbl.p
      clear hb hbl hGk hszk hprk
      by_cases hlt : k < n ∧ k < 9
      · obtain ⟨h1, h2⟩ := hlt
        obtain ⟨a, u, rfl, hcu, A', c', rfl, hlen, hby, hbc⟩ := HR.out k h1
        have HBY := Lib.hid hby
        have HBC := Lib.hid hbc
        have HCU := Lib.hid hcu
        have h3 : (k : Int) < (n : Int) := by omega
        have h4 : (k : Int) < 9 := by omega
        clear hby hbc hcu
        simp only [maxLen] at hlen
        go_upto_block 2 with fail
        go_cut [11] (fun lv wx => ∃ (W : World) (l : List Nat), W = wx ∧ l.length ≤ 5 ∧ (∀ c ∈ l, c < k) ∧ Below wo.heap.size wo W ∧ W.ownsRow wo.heap.size 3 1 lv l.length (l.map iv))
        case first =>
          go_wp2_with fail
          go_loopw [11, 12] (fun lv i wq => ∃ (j : Nat) (l : List Nat), j ≤ 5 ∧ i = .int .i64 j ∧ l.length = j ∧ (∀ c ∈ l, c < k) ∧ Below wo.heap.size wo wq ∧ wq.ownsRow wo.heap.size 3 1 lv l.length (l.map iv)) (fun _ i _ => 5 - (intOf i).toNat)
          case atStart => exact ⟨0, [], by omega, rfl, rfl, by simp, Below.refl _ _, World.ownsRow_nil _ _ _ _⟩
          case round =>
            obtain ⟨j, l, hj5, rfl, hlj, hck, hbq, hown⟩ := hrel
            obtain ⟨lA, lc, rfl⟩ := own_form hown
            have HO := Lib.hid hown
            have HBQ := Lib.hid hbq
            have HCK := Lib.hid hck
            have HLJ := Lib.hid hlj
            have c1 := cell_below HCU.out (HB.out.trans (hbq.mono hzb))
            have hzq := hbq.size
            have hl5 : l.length ≤ 5 := by omega
            clear hown hbq hck hlj
            by_cases hcc : j < (R k).length ∧ j < 5 ∧ 0 < k
            · obtain ⟨d1, d2, d3⟩ := hcc
              obtain ⟨x, hx⟩ : ∃ x, (R k)[j]? = some x := ⟨_, List.getElem?_eq_getElem d1⟩
              obtain ⟨a', rfl, hc2⟩ := HBC.out j x hx
              have c2 := cell_below hc2 (HB.out.trans (HBQ.out.mono hzb))
              have hx8 := HBY.out x (List.mem_of_getElem? hx)
              have d4 : (j : Int) < ((R k).length : Int) := by omega
              have d5 : (j : Int) < 5 := by omega
              have d6 : (0 : Int) < (k : Int) := by omega
              have d7 : ¬ (k : Int) = 0 := by omega
              have hm : (x : Int).tmod (k : Int) = ((x % k : Nat) : Int) := rfl
              have hmk : x % k < k := Nat.mod_lt _ d3
              clear hx hc2
              go_wp2_with (at_builtin; go_must (refine wpList_append_blk _ rfl (.tmp 56) (.tmp 67) 36 rfl wo.heap.size 3 i0 (.int .i64 0) 1 8 Tryd.underlying36 H12.out H9.out H10.out H11.out rfl (by decide) (.slice lA l.length lc) l.length (l.map iv) rfl (own_ne HO.out (gb_alloc _ none _) (by simp)) ⟨_, 0, none⟩ 1 1 [iv (x % k)] rfl rfl (new_one _ _ _ _ rfl) (by simp [Value.oneCell', iv]) (by simp only [maxLen]; omega) (by omega) (by first | (simp; done) | (simp; omega)) ?_; intro v3 w3 hown3 hg3 hb3; obtain ⟨g3, cap3, rfl⟩ := ownsRow_succ hown3; have O3 := Lib.hid hown3; have G3 := Lib.hid hg3; have B3 := Lib.hid hb3; clear hown3 hg3 hb3))
              go_roundw
              case rel => exact ⟨j + 1, l ++ [x % k], by omega, by go_num, by simp [HLJ.out], fun c hc => by
                rcases List.mem_append.1 hc with h | h
                · exact HCK.out c h
                · rw [List.mem_singleton] at h
                  rw [h]
                  exact hmk, below_gb (HBQ.out.alloc (by omega) _) G3.out (by simp; omega) (fun b hb => (HO.out.lt b hb).1), by simpa using O3.out⟩
              case measure =>
                simp [intOf]
                omega
            · by_cases d1 : j < (R k).length
              · have d4 : (j : Int) < ((R k).length : Int) := by omega
                by_cases d2 : j < 5
                · have d5 : (j : Int) < 5 := by omega
                  have d6 : ¬ (0 : Int) < (k : Int) := by omega
                  clear hcc
                  go_wp2_with fail
                  go_meet
                  case rel => exact ⟨_, l, rfl, hl5, HCK.out, HBQ.out, HO.out⟩
                · have d5 : ¬ (j : Int) < 5 := by omega
                  clear hcc
                  go_wp2_with fail
                  go_meet
                  case rel => exact ⟨_, l, rfl, hl5, HCK.out, HBQ.out, HO.out⟩
              · have d4 : ¬ (j : Int) < ((R k).length : Int) := by omega
                clear hcc
                go_wp2_with fail
                go_meet
                case rel => exact ⟨_, l, rfl, hl5, HCK.out, HBQ.out, HO.out⟩
        case rest =>
          obtain ⟨W, l, rfl, hl5, hck, hbw, hown⟩ := hcut
          obtain ⟨lA, lc, rfl⟩ := own_form hown
          have HO := Lib.hid hown
          have HBW := Lib.hid hbw
          have hzW := hbw.size
          have HCK := Lib.hid hck
          have HBu := Lib.hid (HBL.out.grow (gb_below hbw))
          have HBL0 := Lib.hid HBL.out
          clear hown hbw hck HBL
          go_upto_region 14 with (at_builtin; go_must (refine wpList_append_blk _ rfl (.tmp 69) (.tmp 71) 33 rfl w.heap.size 36 i1 (.slice none 0 0) 1 24 Tryd.underlying33 J12.out J9.out J10.out J11.out rfl (by decide) (.slice gA us.length gc) us.length us rfl (own_ne HBu.out.g (gb_alloc _ none _) (by simp)) ⟨_, 0, none⟩ 1 1 [.slice lA l.length lc] rfl rfl (new_one _ _ _ _ rfl) (by simp [Value.oneCell']) (by have := HUL.out; simp only [maxLen]; omega) (by have := HUL.out; omega) (by first | (simp; done) | (simp; omega)) ?_; intro v3 w3 hown3 hg3 hb3; obtain ⟨g3, cap3, rfl⟩ := ownsRow_succ hown3; have HB3 := Lib.hid (HBu.out.grow (gb_alloc _ none _) |>.addG hg3 hown3 hb3 (own_ne (own_base HO.out (by omega)) (gb_alloc _ none _) (by simp)) (fun b hb => by have := (HO.out.lt b hb).1; exact ⟨fun e => by have := (HBL0.out.g.lt b e).2; omega, fun e => by have := (HBL0.out.s.lt b e).2; omega, fun e => by have := (HBL0.out.p.lt b e).2; omega⟩) ⟨hl5, by rw [HGK.out]; exact HCK.out⟩); have G3 := Lib.hid hg3; clear hown3 hg3 hb3))
          have HBW3 := Lib.hid (below_gb ((HB.out.trans (HBW.out.mono hzb)).alloc (by omega) _) G3.out (by simp; omega) (fun b hb => (HBu.out.g.lt b hb).1))
          have HLG : Hid ((us ++ [Value.slice lA l.length lc]).length = k + 1) := by
            show _ = k + 1
            rw [List.length_append, List.length_singleton, HUL.out]
          have HLG2 : Hid ((G ++ [l]).length = k + 1) := by
            show _ = k + 1
            rw [List.length_append, List.length_singleton, HGK.out]
          have hul : us.length ≤ 9 := by
            have := HUL.out
            omega
          have hsl : sz.length ≤ 9 := by
            have := HSK.out
            omega
          have hpl : pr.length ≤ 9 := by
            have := HPK.out
            omega
          clear HBu HBL0 HO HBW HCK G3 HCU HBY HBC HB hzW hzb HLG
          generalize (us ++ [Value.slice lA l.length lc]) = us' at *
          generalize (G ++ [l]) = G' at *
          generalize us.length + 1 = m3 at *
          go_upto_if 76 with fail
          go_cut [13] (fun nv wx => ∃ (W : World) (x : Int), W = wx ∧ nv = .int .i64 x ∧ 0 ≤ x ∧ x < 40 ∧ Below w.heap.size w W ∧ Built w.heap.size W (.slice (some ⟨g3, 0, none⟩) m3 cap3) (.slice zA sz.length zc) (.slice qA pr.length qc) us' G' sz pr)
          case first =>
            by_cases d1 : k < S.length
            · obtain ⟨y, hy⟩ : ∃ y, S[k]? = some y := ⟨_, List.getElem?_eq_getElem d1⟩
              obtain ⟨sa, rfl, hc⟩ := HSC.out k y hy
              have c1 := cell_below hc HBW3.out
              have hy8 := HSB.out y (List.mem_of_getElem? hy)
              have d2 : (k : Int) < (S.length : Int) := by omega
              have hm : (y : Int).tmod 40 = ((y % 40 : Nat) : Int) := rfl
              clear hc hy
              go_wp2_with fail
              go_meet
              case rel => exact ⟨_, ((y % 40 : Nat) : Int), rfl, rfl, by omega, by omega, HBW3.out, HB3.out⟩
            · have d2 : ¬ (k : Int) < (S.length : Int) := by omega
              go_wp2_with fail
              go_meet
              case rel => exact ⟨_, 1, rfl, rfl, by decide, by decide, HBW3.out, HB3.out⟩
          case rest =>
            obtain ⟨W4, x, rfl, rfl, hx0, hx40, hbw4, hbl4⟩ := hcut
            have HBW4 := Lib.hid hbw4
            have HB4 := Lib.hid hbl4
            clear hbw4 hbl4 HBW3 HB3
            go_upto_if 86 with fail
            go_cut [14] (fun nv wx => ∃ (W : World) (x : Int), W = wx ∧ nv = .int .i64 x ∧ 0 ≤ x ∧ x < 8 ∧ Below w.heap.size w W ∧ Built w.heap.size W (.slice (some ⟨g3, 0, none⟩) m3 cap3) (.slice zA sz.length zc) (.slice qA pr.length qc) us' G' sz pr)
            case first =>
              by_cases d1 : k < Pr.length
              · obtain ⟨y, hy⟩ : ∃ y, Pr[k]? = some y := ⟨_, List.getElem?_eq_getElem d1⟩
                obtain ⟨sa, rfl, hc⟩ := HPC.out k y hy
                have c1 := cell_below hc HBW4.out
                have hy8 := HPB.out y (List.mem_of_getElem? hy)
                have d2 : (k : Int) < (Pr.length : Int) := by omega
                have hm : (y : Int).tmod 8 = ((y % 8 : Nat) : Int) := rfl
                clear hc hy
                go_wp2_with fail
                go_meet
                case rel => exact ⟨_, ((y % 8 : Nat) : Int), rfl, rfl, by omega, by omega, HBW4.out, HB4.out⟩
              · have d2 : ¬ (k : Int) < (Pr.length : Int) := by omega
                go_wp2_with fail
                go_meet
                case rel => exact ⟨_, 0, rfl, rfl, by decide, by decide, HBW4.out, HB4.out⟩
            case rest =>
              obtain ⟨W5, y, rfl, rfl, hy0, hy8, hbw5, hbl5⟩ := hcut
              have HBW5 := Lib.hid hbw5
              have HB5 := Lib.hid hbl5
              have hz5 := hbw5.size
              clear hbw5 hbl5 HBW4 HB4
              go_upto_region 20 with (at_builtin; go_must (refine wpList_append_blk _ rfl (.tmp 93) (.tmp 95) 36 rfl w.heap.size 3 i0 (.int .i64 0) 1 8 Tryd.underlying36 H12.out H9.out H10.out H11.out rfl (by decide) (.slice zA sz.length zc) sz.length (sz.map jv) rfl (own_ne HB5.out.s (gb_alloc _ none _) (by simp)) ⟨_, 0, none⟩ 1 1 [jv x] rfl rfl (new_one _ _ _ _ rfl) (by simp [Value.oneCell']) (by simp only [maxLen]; omega) (by omega) (by first | (simp; done) | (simp; omega)) ?_; intro v3 w3 hown3 hg3 hb3; obtain ⟨g6, cap6, rfl⟩ := ownsRow_succ hown3; have HB6 := Lib.hid (HB5.out.grow (gb_alloc _ none _) |>.addS hg3 hown3 hb3 ⟨hx0, hx40⟩); have HBW6 := Lib.hid (below_gb (HBW5.out.alloc (by omega) _) hg3 (by simp; omega) (fun b hb => (HB5.out.s.lt b hb).1)); have hz6 := HBW6.out.size; clear hown3 hg3 hb3))
              clear HB5 HBW5
              go_wp2_with (at_builtin; go_must (refine wpList_append_blk _ rfl (.tmp 97) (.tmp 99) 36 rfl w.heap.size 3 i0 (.int .i64 0) 1 8 Tryd.underlying36 H12.out H9.out H10.out H11.out rfl (by decide) (.slice qA pr.length qc) pr.length (pr.map jv) rfl (own_ne HB6.out.p (gb_alloc _ none _) (by simp)) ⟨_, 0, none⟩ 1 1 [jv y] rfl rfl (new_one _ _ _ _ rfl) (by simp [Value.oneCell']) (by simp only [maxLen]; omega) (by omega) (by first | (simp; done) | (simp; omega)) ?_; intro v3 w7 hown3 hg3 hb3; obtain ⟨g7, cap7, rfl⟩ := ownsRow_succ hown3; have HB7 := Lib.hid (HB6.out.grow (gb_alloc _ none _) |>.addP hg3 hown3 hb3 ⟨hy0, hy8⟩); have HBW7 := Lib.hid (below_gb (HBW6.out.alloc (by omega) _) hg3 (by simp; omega) (fun b hb => (HB6.out.p.lt b hb).1)); clear hown3 hg3 hb3))
              go_roundw
              case rel => exact ⟨k + 1, us', G', sz ++ [x], pr ++ [y], by omega, by omega, by go_num, HLG2.out, by simp [HSK.out], by simp [HPK.out], HBW7.out, HB7.out⟩
              case measure =>
                simp [intOf]
                omega
      · by_cases d1 : k < n
        · have h4 : ¬ (k : Int) < 9 := by omega
          have h3 : (k : Int) < (n : Int) := by omega
          clear hlt
          go_wp2_with fail
          go_meet
          case rel => exact ⟨_, us, G, sz, pr, rfl, by rw [HGK.out]; omega, by rw [HSK.out, HGK.out], by rw [HPK.out, HGK.out], HB.out, HBL.out⟩
        · have h3 : ¬ (k : Int) < (n : Int) := by omega
          clear hlt
          go_wp2_with fail
          go_meet
          case rel => exact ⟨_, us, G, sz, pr, rfl, by rw [HGK.out]; omega, by rw [HSK.out, HGK.out], by rw [HPK.out, HGK.out], HB.out, HBL.out⟩
  case rest =>
    obtain ⟨W, us, G, sz, pr, rfl, h9, hs, hp, hbw, hbl⟩ := hcut
    obtain ⟨ol, D, hf⟩ := built_facts hbl h9 hs hp (HT.out.below hbw (Nat.le_refl _))
    obtain ⟨gA, gc, rfl, hrows⟩ := hbl.graph
    have hpi : IntsIs W _ pr := intsIs_own hbl.p
    obtain ⟨qA, qc, rfl, hpc⟩ := hpi
    have hsi : IntsIs W _ sz := intsIs_own hbl.s
    obtain ⟨zA, zc, rfl, -⟩ := hsi
    have HROWS : Hid (∀ f, f < G.length → ∃ b u, gA = some ⟨b, 0, none⟩ ∧ W.cell? ⟨b, f, none⟩ = some u ∧ RowIs W u (G.getD f [])) := hrows
    have HPCS := Lib.hid hpc
    have HF := Lib.hid hf
    have HBW := Lib.hid hbw
    have HPL := Lib.hid hp
    clear hrows hpc hf hbw hbl hs hp HR HSB HSC HPB HPC
    obtain ⟨Gf, hGf⟩ : ∃ Gf, (fun f => G.getD f []) = Gf := ⟨_, rfl⟩
    rw [hGf] at HF
    have hGf2 : ∀ f, G.getD f [] = Gf f := fun f => congrFun hGf f
    simp only [hGf2] at HROWS
    clear hGf hGf2
    obtain ⟨N, hN⟩ : ∃ N, G.length = N := ⟨_, rfl⟩
    rw [hN] at HROWS HF HPL h9 ⊢
    clear hN
    obtain rfl : ol.length = N := HF.out.olen
    have h64 : ol.length ≤ 64 := by omega
    go_upto_region 23 with (first | (go_at_call 15; (refine (HF.out.order _ (Below.refl _ _)).mono ?_); rintro e w2 ⟨v2, rfl, hro, hb2⟩; obtain ⟨oA, oc, rfl, hoc⟩ := hro; have HOC := Lib.hid hoc; have HB2 := Lib.hid hb2; clear hoc hb2) | (go_at_call 16; (refine (HF.out.deep _ HB2.out).mono ?_); rintro e w3 ⟨db, rfl, hrow, hb3⟩; have HDR := Lib.hid hrow; have HB3 := Lib.hid hb3; clear hrow hb3))
    go_upto_region 26 with fail
    rw [mk_ints _ h64]
    go_wp2_with fail
    have hb4 : Below w3.heap.size w3 (w3.alloc (.cells (Array.replicate ol.length (.int .i64 0)) 3)) := (Below.refl _ _).alloc (Nat.le_refl _) _
    have hz4 : (w3.alloc (.cells (Array.replicate ol.length (.int .i64 0)) 3)).heap.size = w3.heap.size + 1 := by simp
    have hd4 : (w3.alloc (.cells (Array.replicate ol.length (.int .i64 0)) 3)).heap[w3.heap.size]? = some (.cells (wsL ol.length (atF ol 0)).toArray 3 (0, 0)) := by
      rw [atF_zero, ← wsL_zero]
      exact alloc_at _ _
    have HB4 := Lib.hid hb4
    have HD4 := Lib.hid hd4
    have hz2 := HB2.out.size
    have hz3 := HB3.out.size
    have hzW := HBW.out.size
    have HNP : Hid (1 ≤ 1) := Nat.le_refl _
    clear hb4 hd4 HNP
    generalize (w3.alloc (.cells (Array.replicate ol.length (.int .i64 0)) 3)) = w4 at *
    go_loopw [19] (fun i wr => ∃ j : Nat, j ≤ ol.length ∧ i = .int .i64 j ∧ wr.heap[w3.heap.size]? = some (.cells (wsL ol.length (atF ol j)).toArray 3 (0, 0)) ∧ Below w3.heap.size w3 wr) (fun i _ => ol.length - (intOf i).toNat)
    case atStart => exact ⟨0, by omega, rfl, HD4.out, HB4.out⟩
    case round =>
      obtain ⟨j, hj, rfl, hd, hb⟩ := hrel
      by_cases hjn : j < ol.length
      · obtain ⟨f, hfo⟩ : ∃ f, ol[j]? = some f := ⟨_, List.getElem?_eq_getElem hjn⟩
        obtain ⟨ob, rfl, hc⟩ := HOC.out j f hfo
        have hfn := HF.out.olt f (List.mem_of_getElem? hfo)
        have c1 := cell_below hc (HB3.out.trans (hb.mono hz3))
        simp only [iv] at c1
        have c2 := row_at hd f _ (wsL_at _ _ f hfn)
        rw [atF_new HF.out.nd hfo] at c2
        have c3 : wr.frozen? ⟨w3.heap.size, f, none⟩ = false := row_free hd
        have e1 : (j : Int) < (ol.length : Int) := by omega
        have e2 : (f : Int) < (ol.length : Int) := by omega
        have e3 : ¬ (f : Int) < 0 := by omega
        have HD := Lib.hid hd
        have HB := Lib.hid hb
        have HFO := Lib.hid hfo
        clear hd hb hc hfo
        go_wp2_with fail
        go_roundw
        case rel => exact ⟨j + 1, by omega, by go_num, by
          have := row_setCell (i := f) (u := .int .i64 ((j : Int) + 1)) HD.out
          rw [wsL_set] at this
          rw [atF_step HF.out.nd HFO.out]
          exact this, HB.out.setCell (p := ⟨w3.heap.size, f, none⟩) (Nat.le_refl _) _⟩
        case measure =>
          simp [intOf]
          omega
      · obtain rfl : j = ol.length := by omega
        have HD := Lib.hid hd
        have HB := Lib.hid hb
        have hzr := hb.size
        have hlr := (Array.getElem?_eq_some_iff.1 hd).1
        obtain ⟨w5, rfl⟩ : ∃ w5, w5 = wr := ⟨_, rfl⟩
        clear hd hb
        go_wp2_with fail
        have HAT : Hid (∀ f, f < ol.length → w5.cell? ⟨w3.heap.size, f, none⟩ = some (.int .i64 (atF ol ol.length f))) := fun f hf => row_at HD.out f _ (wsL_at _ _ f hf)
        have hdb := (HB.out.block db (Array.getElem?_eq_some_iff.1 HDR.out).1).trans HDR.out
        have HDB : Hid (∀ f, f < ol.length → w5.cell? ⟨db, f, none⟩ = some (.int .i64 (D f))) := fun f hf => row_at hdb f _ (wsL_at _ _ f hf)
        have HW5 := Lib.hid (HB2.out.trans ((HB3.out.mono hz2).trans (HB.out.mono (Nat.le_trans hz2 hz3))))
        have hz5 := HW5.out.size
        clear hdb HD HB HB2 HB3 HDR HB4 HD4 hz4 hlr hjn HOC
        go_loopw [20] (fun i wr => ∃ f : Nat, f ≤ ol.length ∧ i = .int .i64 f ∧ Below w5.heap.size w5 wr) (fun i _ => ol.length - (intOf i).toNat)
        case atStart => exact ⟨0, by omega, rfl, Below.refl _ _⟩
        case round =>
          obtain ⟨f, hf, rfl, hb⟩ := hrel
          obtain ⟨w6, rfl⟩ : ∃ w6, w6 = wr := ⟨_, rfl⟩
          by_cases hfn : f < ol.length
          · obtain ⟨gb, u, rfl, hcu, A', c', rfl, hrow⟩ := HROWS.out f hfn
            have HROW := Lib.hid hrow
            have HCU := Lib.hid (cell_below hcu HW5.out)
            have hgl := HF.out.glen f hfn
            have e1 : (f : Int) < (ol.length : Int) := by omega
            have HB6 := Lib.hid hb
            have hz6 := hb.size
            clear hrow hcu hb
            go_wp2_with fail
            go_loopw [21] (fun i wq => ∃ j : Nat, j ≤ (Gf f).length ∧ i = .int .i64 j ∧ Below w5.heap.size w5 wq) (fun i _ => (Gf f).length - (intOf i).toNat)
            case atStart => exact ⟨0, by omega, rfl, HB6.out⟩
            case round =>
              obtain ⟨j, hj, rfl, hb⟩ := hrel
              have c1 := cell_below HCU.out hb
              by_cases hjl : j < (Gf f).length
              · obtain ⟨x, hx⟩ : ∃ x, (Gf f)[j]? = some x := ⟨_, List.getElem?_eq_getElem hjl⟩
                obtain ⟨xb, rfl, hxc⟩ := HROW.out j x hx
                have hxm := List.mem_of_getElem? hx
                have c2 := cell_below hxc (HW5.out.trans (hb.mono hz5))
                simp only [iv] at c2
                have hxl := HF.out.glt f hfn x hxm
                have c3 := cell_below (HAT.out x hxl) hb
                have c4 := cell_below (HAT.out f hfn) hb
                have h5 := HF.out.before f x hfn hxm
                have e2 : (j : Int) < ((Gf f).length : Int) := by omega
                have e3 : (x : Int) < (ol.length : Int) := by omega
                have HBQ := Lib.hid hb
                clear hx hxc hxm hb
                generalize atF ol ol.length x = ax at *
                generalize atF ol ol.length f = af at *
                have h6 : decide (af < ax) = false := decide_eq_false h5
                go_wp2
                go_quiet (fail)
                go_wp2
                go_roundw
                case rel => exact ⟨j + 1, by omega, by go_num, Below.drewN' HBQ.out _⟩
                case measure =>
                  simp [intOf]
                  omega
              · obtain rfl : j = (Gf f).length := by omega
                have c6 := cell_below (HDB.out f hfn) hb
                have HBX := Lib.hid (HW5.out.trans (hb.mono hz5))
                have HBQ := Lib.hid hb
                clear hb
                go_wp2_with fail
                go_region_with (go_at_call 17; go_must ((refine (HF.out.walk wr.drew f hfn HBX.out.drew).mono ?_); rintro e w7 ⟨rfl, hb7⟩; have c7 := cell_below (w := wr.drew) c6 hb7; have HB7 := Lib.hid hb7; clear hb7))
                all_goals
                  go_wp2_with fail
                  go_roundw
                  case rel => exact ⟨f + 1, by omega, by go_num, HBQ.out.drew.trans (HB7.out.mono HBQ.out.size)⟩
                  case measure =>
                    simp [intOf]
                    omega
          · obtain rfl : f = ol.length := by omega
            have HB6 := Lib.hid hb
            have HW6 := Lib.hid (HW5.out.trans (hb.mono hz5))
            have HDB6 : Hid (∀ f, f < ol.length → w6.cell? ⟨db, f, none⟩ = some (.int .i64 (D f))) := fun f hf => cell_below (HDB.out f hf) hb
            have HPC6 : Hid (∀ f, f < ol.length → ∃ b, qA = some ⟨b, 0, none⟩ ∧ w6.cell? ⟨b, f, none⟩ = some (.int .i64 (pr.getD f 0))) := fun f hf => by
              have h1 : f < pr.length := by rw [HPL.out]; exact hf
              obtain ⟨b, hA, hc⟩ := HPCS.out f (pr.getD f 0) (by simp [h1])
              exact ⟨b, hA, cell_below hc (HW5.out.trans (hb.mono hz5))⟩
            have HBF := Lib.hid (HBW.out.trans (HW6.out.mono hzW))
            have hz6 := HBF.out.size
            have hprl : pr.length ≤ 9 := by
              have := HPL.out
              omega
            have HPLT : Hid (∀ f : Nat, f < ol.length → (f : Int) < (pr.length : Int)) := fun f hf => by
              have := HPL.out
              omega
            clear hb HAT HDB HB6 HPCS HPL hfn HROWS HBW HW5
            generalize ol.length = N at *
            by_cases h0 : N = 0
            · have HB0 := Lib.hid (HF.out.bound0 h0 w6 HW6.out)
              subst h0
              go_wp2_with (go_at_call 18; go_must ((refine HB0.out.mono ?_); rintro e w7 ⟨rfl, hb7⟩; have HB7 := Lib.hid hb7; clear hb7))
              go_ret
              exact ⟨rfl, HBF.out.trans (HB7.out.mono hz6)⟩
            · obtain ⟨m, rfl⟩ : ∃ m, N = m + 1 := ⟨N - 1, by omega⟩
              have hmain : ((m + 1 : Nat) : Int) - 1 = (m : Int) := by omega
              have C1 : Hid (∀ X, Below W.heap.size W X → Calls Tryd.prog 18 #[.slice gA (m + 1) gc, .slice zA sz.length zc, .int .i64 (m : Int), .slice qA pr.length qc] X fun e w' => e = .returned (.int .i64 (needL (m + 1) pr D 7)) ∧ Below X.heap.size X w') := fun X hX => by
                have := HF.out.bound1 (by omega) X hX
                rwa [hmain] at this
              have C2 : Hid (∀ X, Below W.heap.size W X → Calls Tryd.prog 18 #[.slice gA (m + 1) gc, .slice zA sz.length zc, .int .i64 (m : Int), .slice none 0 0] X fun e w' => e = .returned (.int .i64 (D m)) ∧ Below X.heap.size X w') := fun X hX => by
                have := HF.out.bound2 (by omega) X hX
                rwa [hmain] at this
              have C3 : Hid (∀ X, Below W.heap.size W X → Calls Tryd.prog 18 #[.slice gA (m + 1) gc, .slice zA sz.length zc, .int .i64 (-1), .slice none 0 0] X fun e w' => e = .returned (.int .i64 0) ∧ Below X.heap.size X w') := fun X hX => HF.out.bound3 X hX
              have cm := HDB6.out m (by omega)
              have hzW6 := HW6.out.size
              have HNS := Lib.hid (needL_small (m + 1) pr D HF.out.small)
              have HMS := Lib.hid (mostL_small pr D HF.out.small)
              have hmi : (m : Int) < ((m + 1 : Nat) : Int) := by omega
              go_wp2_with fail
              go_loopw [23, 24] (fun q i wr => ∃ p : Nat, p ≤ 7 ∧ i = .int .i64 ((p : Int) + 1) ∧ q = .int .i64 (needL (m + 1) pr D p) ∧ Below w6.heap.size w6 wr) (fun _ i _ => 8 - (intOf i).toNat)
              case atStart => exact ⟨0, by omega, rfl, rfl, Below.refl _ _⟩
              case round =>
                obtain ⟨p, hp, rfl, rfl, hb⟩ := hrel
                obtain ⟨w7, rfl⟩ : ∃ w7, w7 = wr := ⟨_, rfl⟩
                have HB7 := Lib.hid hb
                have hz7 := hb.size
                clear hb
                by_cases hp7 : p < 7
                · have e1 : (p : Int) + 1 < 8 := by omega
                  have hn1 := HNS.out p
                  have hn2 := HMS.out (p + 1) (m + 1)
                  have hwr : IntKind.i64.wrap (needL (m + 1) pr D p + mostL pr D (p + 1) (m + 1)) = needL (m + 1) pr D (p + 1) := by
                    have : needL (m + 1) pr D (p + 1) = needL (m + 1) pr D p + mostL pr D (p + 1) (m + 1) := rfl
                    rw [this, IntKind.wrap_i64]
                    omega
                  have HWR := Lib.hid hwr
                  clear hn1 hn2 hwr
                  go_wp2_with fail
                  go_loopw [25, 26] (fun q i wq => ∃ f : Nat, f ≤ m + 1 ∧ i = .int .i64 f ∧ q = .int .i64 (mostL pr D (p + 1) f) ∧ Below w6.heap.size w6 wq) (fun _ i _ => m + 1 - (intOf i).toNat)
                  case atStart => exact ⟨0, by omega, rfl, rfl, HB7.out⟩
                  case round =>
                    obtain ⟨f, hf, rfl, rfl, hb⟩ := hrel
                    by_cases hfn : f < m + 1
                    · obtain ⟨b, rfl, hc⟩ := HPC6.out f hfn
                      have c1 := cell_below hc hb
                      have c2 := cell_below (HDB6.out f hfn) hb
                      have e2 := HPLT.out f hfn
                      have e3 : (f : Int) < (m : Int) + 1 := by omega
                      have HM : Hid (mostL pr D (p + 1) (f + 1) = if pr.getD f 0 = ((p + 1 : Nat) : Int) then max (mostL pr D (p + 1) f) (D f) else mostL pr D (p + 1) f) := rfl
                      have HBQ := Lib.hid hb
                      clear hc hb
                      generalize pr.getD f 0 = pf at *
                      generalize mostL pr D (p + 1) f = mo at *
                      by_cases hpf : pf = (p : Int) + 1
                      · subst hpf
                        go_wp2_with fail
                        go_roundw
                        case rel => exact ⟨f + 1, by omega, by go_num, by
                          rw [HM.out.trans (if_pos (show (p : Int) + 1 = ((p + 1 : Nat) : Int) by omega))]
                          exact congrArg (Value.int .i64) (by split <;> omega), HBQ.out⟩
                        case measure =>
                          simp [intOf]
                          omega
                      · have hpb : (pf == (p : Int) + 1) = false := by simp [hpf]
                        go_wp2_with fail
                        go_roundw
                        case rel => exact ⟨f + 1, by omega, by go_num, by rw [HM.out, if_neg (by omega)], HBQ.out⟩
                        case measure =>
                          simp [intOf]
                          omega
                    · obtain rfl : f = m + 1 := by omega
                      have HBQ := Lib.hid hb
                      have hwr := HWR.out
                      clear hb
                      go_wp2_with fail
                      go_roundw
                      case rel => exact ⟨p + 1, by omega, by go_num, rfl, HBQ.out⟩
                      case measure =>
                        simp [intOf]
                        omega
                · obtain rfl : p = 7 := by omega
                  go_wp2_with fail
                  obtain ⟨nv, hnv⟩ : ∃ nv, needL (m + 1) pr D 7 = nv := ⟨_, rfl⟩
                  rw [hnv] at C1 ⊢
                  obtain ⟨dm, hdm⟩ : ∃ dm, D m = dm := ⟨_, rfl⟩
                  rw [hdm] at C2 cm
                  have HSS : Hid (∀ X, Below w6.heap.size w6 X → Below w.heap.size w X ∧ Below W.heap.size W X ∧ X.cell? ⟨db, m, none⟩ = some (.int .i64 dm)) := fun X hX => ⟨HBF.out.trans (hX.mono hz6), HW6.out.trans (hX.mono hzW6), cell_below cm hX⟩
                  have hb7 := HB7.out.drew
                  have hmq : (m : Int) < (m : Int) + 1 := by omega
                  clear HB7 HBF HDB6 HPC6 HPLT HNS HMS hnv hdm
                  refine wp_region_noPanic ?_
                  refine wp_region_held_drew (S := fun X => Below w6.heap.size w6 X) (by kernel_rfl) hb7 (fun hHeld => ?_)
                  clear hb7
                  refine' take_ 0 rfl (by kernel_rfl) (by kernel_rfl) (by kernel_rfl) (fun _ _ _ h => h) (by rfl) (fun wS hSw => ?_) hHeld ?_
                  rotate_left
                  focus (go_simp; (try with_reducible rfl); done)
                  try simp only [Act.put, List.setIfInBounds_toArray, List.set_cons_zero, List.set_cons_succ]
                  refine' take_ 1 rfl (by kernel_rfl) (by kernel_rfl) (by kernel_rfl) (fun _ _ _ h => h) (by rfl) (fun wS hSw => ?_) hHeld ?_
                  rotate_left
                  focus (go_simp; (try with_reducible rfl); done)
                  try simp only [Act.put, List.setIfInBounds_toArray, List.set_cons_zero, List.set_cons_succ]
                  refine' take_ 2 rfl (by kernel_rfl) (by kernel_rfl) (by kernel_rfl) (fun _ _ _ h => h) (by rfl) (fun wS hSw => ?_) hHeld ?_
                  rotate_left
                  focus (go_simp; (try with_reducible rfl); done)
                  try simp only [Act.put, List.setIfInBounds_toArray, List.set_cons_zero, List.set_cons_succ]
                  refine' take_ 3 rfl (by kernel_rfl) (by kernel_rfl) (by kernel_rfl) (fun _ _ _ h => h) (by rfl) (fun wS hSw => ?_) hHeld ?_
                  rotate_left
                  focus (go_simp; (try with_reducible rfl); done)
                  try simp only [Act.put, List.setIfInBounds_toArray, List.set_cons_zero, List.set_cons_succ]
                  refine' take_ 5 rfl (by kernel_rfl) (by kernel_rfl) (by kernel_rfl) (fun _ _ _ h => h) (by rfl) (fun wS hSw => ?_) hHeld ?_
                  rotate_left
                  focus (go_simp; (try with_reducible rfl); done)
                  try simp only [Act.put, List.setIfInBounds_toArray, List.set_cons_zero, List.set_cons_succ]
                  refine only_ 4 rfl (by kernel_rfl) (by rfl) (fun K hK => ?_)
                  go_simp
                  (with_reducible refine (C1.out _ (HSS.out _ hHeld).2.1).mono ?_)
                  rintro e w8 ⟨rfl, hb8⟩
                  go_simp
                  refine hK.out _ _ (hHeld.trans (hb8.mono hHeld.size)) (fun hHeld2 => ?_)
                  clear hK K hHeld
                  have hHeld := hHeld2
                  clear hHeld2
                  try simp only [Act.put, List.setIfInBounds_toArray, List.set_cons_zero, List.set_cons_succ]
                  refine' take_ 6 rfl (by kernel_rfl) (by kernel_rfl) (by kernel_rfl) (fun _ _ _ h => h) (by rfl) (fun wS hSw => ?_) hHeld ?_
                  rotate_left
                  focus (go_simp; (try with_reducible rfl); done)
                  try simp only [Act.put, List.setIfInBounds_toArray, List.set_cons_zero, List.set_cons_succ]
                  refine' take_ 7 rfl (by kernel_rfl) (by kernel_rfl) (by kernel_rfl) (fun _ _ _ h => h) (by rfl) (fun wS hSw => ?_) hHeld ?_
                  rotate_left
                  focus (go_simp; (try with_reducible rfl); done)
                  try simp only [Act.put, List.setIfInBounds_toArray, List.set_cons_zero, List.set_cons_succ]
                  refine' take_ 8 rfl (by kernel_rfl) (by kernel_rfl) (by kernel_rfl) (fun _ _ _ h => h) (by rfl) (fun wS hSw => ?_) hHeld ?_
                  rotate_left
                  focus (go_simp; (try with_reducible rfl); done)
                  try simp only [Act.put, List.setIfInBounds_toArray, List.set_cons_zero, List.set_cons_succ]
                  refine' take_ 9 rfl (by kernel_rfl) (by kernel_rfl) (by kernel_rfl) (fun _ _ _ h => h) (by rfl) (fun wS hSw => ?_) hHeld ?_
                  rotate_left
                  focus (go_simp; (try with_reducible rfl); done)
                  try simp only [Act.put, List.setIfInBounds_toArray, List.set_cons_zero, List.set_cons_succ]
                  refine' take_ 10 rfl (by kernel_rfl) (by kernel_rfl) (by kernel_rfl) (fun _ _ _ h => h) (by rfl) (fun wS hSw => ?_) hHeld ?_
                  rotate_left
                  focus (go_simp; (try with_reducible rfl); done)
                  try simp only [Act.put, List.setIfInBounds_toArray, List.set_cons_zero, List.set_cons_succ]
                  refine' take_ 12 rfl (by kernel_rfl) (by kernel_rfl) (by kernel_rfl) (fun _ _ _ h => h) (by rfl) (fun wS hSw => ?_) hHeld ?_
                  rotate_left
                  focus (go_simp; (try with_reducible rfl); done)
                  try simp only [Act.put, List.setIfInBounds_toArray, List.set_cons_zero, List.set_cons_succ]
                  refine' take_ 13 rfl (by kernel_rfl) (by kernel_rfl) (by kernel_rfl) (fun _ _ _ h => h) (by rfl) (fun wS hSw => ?_) hHeld ?_
                  rotate_left
                  focus (go_simp; (try with_reducible rfl); done)
                  try simp only [Act.put, List.setIfInBounds_toArray, List.set_cons_zero, List.set_cons_succ]
                  refine' take_ 14 rfl (by kernel_rfl) (by kernel_rfl) (by kernel_rfl) (fun _ _ _ h => h) (by rfl) (fun wS hSw => ?_) hHeld ?_
                  rotate_left
                  focus (go_simp; (try with_reducible rfl); done)
                  try simp only [Act.put, List.setIfInBounds_toArray, List.set_cons_zero, List.set_cons_succ]
                  refine' take_ 15 rfl (by kernel_rfl) (by kernel_rfl) (by kernel_rfl) (fun _ _ _ h => h) (by rfl) (fun wS hSw => ?_) hHeld ?_
                  rotate_left
                  focus (have hcS := (HSS.out wS hSw).2.2; go_simp; (try with_reducible rfl); done)
                  try simp only [Act.put, List.setIfInBounds_toArray, List.set_cons_zero, List.set_cons_succ]
                  refine only_ 11 rfl (by kernel_rfl) (by rfl) (fun K hK => ?_)
                  go_simp
                  (with_reducible refine (C2.out _ (HSS.out _ hHeld).2.1).mono ?_)
                  rintro e w9 ⟨rfl, hb9⟩
                  go_simp
                  refine hK.out _ _ (hHeld.trans (hb9.mono hHeld.size)) (fun hHeld2 => ?_)
                  clear hK K hHeld
                  have hHeld := hHeld2
                  clear hHeld2
                  try simp only [Act.put, List.setIfInBounds_toArray, List.set_cons_zero, List.set_cons_succ]
                  refine' take_ 16 rfl (by kernel_rfl) (by kernel_rfl) (by kernel_rfl) (fun _ _ _ h => h) (by rfl) (fun wS hSw => ?_) hHeld ?_
                  rotate_left
                  focus (go_simp; (try with_reducible rfl); done)
                  try simp only [Act.put, List.setIfInBounds_toArray, List.set_cons_zero, List.set_cons_succ]
                  refine' take_ 17 rfl (by kernel_rfl) (by kernel_rfl) (by kernel_rfl) (fun _ _ _ h => h) (by rfl) (fun wS hSw => ?_) hHeld ?_
                  rotate_left
                  focus (go_simp; (try with_reducible rfl); done)
                  try simp only [Act.put, List.setIfInBounds_toArray, List.set_cons_zero, List.set_cons_succ]
                  refine' take_ 18 rfl (by kernel_rfl) (by kernel_rfl) (by kernel_rfl) (fun _ _ _ h => h) (by rfl) (fun wS hSw => ?_) hHeld ?_
                  rotate_left
                  focus (go_simp; (try with_reducible rfl); done)
                  try simp only [Act.put, List.setIfInBounds_toArray, List.set_cons_zero, List.set_cons_succ]
                  refine' take_ 19 rfl (by kernel_rfl) (by kernel_rfl) (by kernel_rfl) (fun _ _ _ h => h) (by rfl) (fun wS hSw => ?_) hHeld ?_
                  rotate_left
                  focus (go_simp; (try with_reducible rfl); done)
                  try simp only [Act.put, List.setIfInBounds_toArray, List.set_cons_zero, List.set_cons_succ]
                  refine' take_ 20 rfl (by kernel_rfl) (by kernel_rfl) (by kernel_rfl) (fun _ _ _ h => h) (by rfl) (fun wS hSw => ?_) hHeld ?_
                  rotate_left
                  focus (go_simp; (try with_reducible rfl); done)
                  try simp only [Act.put, List.setIfInBounds_toArray, List.set_cons_zero, List.set_cons_succ]
                  refine only_ 21 rfl (by kernel_rfl) (by rfl) (fun K hK => ?_)
                  go_simp
                  (with_reducible refine (C3.out _ (HSS.out _ hHeld).2.1).mono ?_)
                  rintro e wa ⟨rfl, hba⟩
                  go_simp
                  refine hK.out _ _ (hHeld.trans (hba.mono hHeld.size)) (fun hHeld2 => ?_)
                  clear hK K hHeld
                  have hHeld := hHeld2
                  clear hHeld2
                  try simp only [Act.put, List.setIfInBounds_toArray, List.set_cons_zero, List.set_cons_succ]
                  refine' take_ 22 rfl (by kernel_rfl) (by kernel_rfl) (by kernel_rfl) (fun _ _ _ h => h) (by rfl) (fun wS hSw => ?_) hHeld ?_
                  rotate_left
                  focus (go_simp; (try with_reducible rfl); done)
                  try simp only [Act.put, List.setIfInBounds_toArray, List.set_cons_zero, List.set_cons_succ]
                  refine' take_ 23 rfl (by kernel_rfl) (by kernel_rfl) (by kernel_rfl) (fun _ _ _ h => h) (by rfl) (fun wS hSw => ?_) hHeld ?_
                  rotate_left
                  focus (go_simp; (try with_reducible rfl); done)
                  try simp only [Act.put, List.setIfInBounds_toArray, List.set_cons_zero, List.set_cons_succ]
                  refine only_ 24 rfl (by kernel_rfl) (by rfl) (fun K hK => ?_)
                  go_simp
                  refine hK.out _ _ hHeld (fun hHeld2 => ?_)
                  clear hK K hHeld2
                  try simp only [Act.put, List.setIfInBounds_toArray, List.set_cons_zero, List.set_cons_succ]
                  refine wpAnyH_done (by kernel_rfl) ?_ _
                  refine NoPanic.normal ?_
                  go_wp2
                  go_ret
                  exact ⟨rfl, (HSS.out _ hHeld).1⟩
end Go.Proofs.YtchhbhgbpimegaaDoor
