/-
  ordered: the order of a graph of 1 to 64 functions.
-/
import Derived.Test.YtchhbhgbpimegaaDoorOrdI
import Derived.Sort.QuietIn
import Derived.Sort.CutIn
import Derived.Shelf.Abstract
namespace Go.Proofs.YtchhbhgbpimegaaDoor
open Go.RowKit Go.Shelf
set_option linter.unusedVariables false
attribute [local go_sem] Oper.semAt_some
/-- The calls that are waited for, of the functions below k. -/
def waitsUpto (G : Nat → List Nat) (k : Nat) : Nat → Int := fun c => if c < k then (G c).length else 0
theorem waitsUpto_succ (n : Nat) (G : Nat → List Nat) (k : Nat) : (fun c => if c = k then ((G k).length : Int) else waitsUpto G k c) = waitsUpto G (k + 1) := by
  funext c
  unfold waitsUpto
  by_cases h : c = k
  · subst h
    simp
  · by_cases h2 : c < k
    · simp [h, h2, Nat.lt_succ_of_lt h2]
    · have : ¬ c < k + 1 := by omega
      simp [h, h2, this]
theorem rdyUpto_succ (G : Nat → List Nat) (k : Nat) : (List.range (k + 1)).foldl (rdy G) 0 = rdy G ((List.range k).foldl (rdy G) 0) k := by
  rw [List.range_succ, List.foldl_append]
  rfl
theorem wpIn_region_noPanic {F : Fence} {n : Nat} {P : Program} {id : Nat} {ops : Array Oper} {b : Bool} {Q : Exit → Act → World → Prop} {a : Act} {w : World} (h : (Code.region id ops b).wpIn F n P (NoPanic Q) a w) : (Code.region id ops b).wpIn F n P Q a w := wpIn_mono h NoPanic.imp
/-- The three blocks ahead of the set. -/
abbrev w123 (w1 : World) (n : Nat) (A2 : Option Addr) (cp : Nat) : World := (((w1.alloc (.cells #[.slice A2 n cp] 33)).alloc (.cells (Array.replicate n (.int .i64 0)) 3)).alloc (.cells #[.slice (some ⟨w1.heap.size + 1, 0, none⟩) n n] 36))
theorem om_start {w w1 w3 : World} {n : Nat} {G : Nat → List Nat} {A2 : Option Addr} {cp lv wb : Nat} (hB : Below w.heap.size w w1)
    (hC : ∀ f, f < n → ∃ b u, A2 = some ⟨b, 0, none⟩ ∧ b < w1.heap.size ∧ w1.cell? ⟨b, f, none⟩ = some u ∧ ∃ A' c', u = .slice A' (callersOf n G f).length c' ∧ ∀ j x, (callersOf n G f)[j]? = some x → ∃ b', A' = some ⟨b', 0, none⟩ ∧ b' < w1.heap.size ∧ w1.cell? ⟨b', j, none⟩ = some (iv x))
    (hlv : (w123 w1 n A2 cp).heap.size < lv) (hwb : (w123 w1 n A2 cp).heap.size < wb) (h3 : Below (w123 w1 n A2 cp).heap.size (w123 w1 n A2 cp) w3) (hs : IsSet w3 (w1.heap.size + 1 + 1 + 1) lv wb 0) :
    Lay w.heap.size w1.heap.size lv wb w3.heap.size ∧ OM w1.heap.size lv wb w3.heap.size n (callersOf n G) (waitsUpto G 0) 0 (w3.alloc (.cells #[.pointer (some ⟨w1.heap.size + 1 + 1 + 1, 0, none⟩)] 66)) ∧
      Below w.heap.size w (w3.alloc (.cells #[.pointer (some ⟨w1.heap.size + 1 + 1 + 1, 0, none⟩)] 66)) := by
  have hz : (w123 w1 n A2 cp).heap.size = w1.heap.size + 3 := by simp [w123]
  have hz3 := h3.size
  have hsl := isSet_lt hs
  rw [hz] at hlv hwb hz3
  have hb0 := hB.size
  have ha : Below w3.heap.size w3 (w3.alloc (.cells #[.pointer (some ⟨w1.heap.size + 1 + 1 + 1, 0, none⟩)] 66)) := (Below.refl _ _).alloc (Nat.le_refl _) _
  have h1 : Below w1.heap.size w1 (w123 w1 n A2 cp) := (((Below.refl _ _).alloc (Nat.le_refl _) _).alloc (by simp) _).alloc (by simp; omega) _
  have h13 : Below w1.heap.size w1 w3 := h1.trans (h3.mono (by omega))
  have hk : ∀ k, k < w1.heap.size + 3 → (w3.alloc (.cells #[.pointer (some ⟨w1.heap.size + 1 + 1 + 1, 0, none⟩)] 66)).heap[k]? = (w123 w1 n A2 cp).heap[k]? := fun k hk => (ha.block k (by omega)).trans (h3.block k (by omega))
  have hw : Below w.heap.size w w3 := hB.trans (h13.mono hb0)
  refine ⟨⟨hb0, ⟨by omega, hsl.2.1⟩, ⟨by omega, hsl.2.2⟩, hs.ne.2.2⟩, ⟨⟨_, (hk _ (by omega)).trans ?_, A2, cp, rfl, fun f hf => ?_⟩, (hk _ (by omega)).trans ?_, (hk _ (by omega)).trans ?_, hs.below ha, alloc_at _ _⟩, hw.trans (ha.mono hw.size)⟩
  · show (World.alloc _ _).heap[_]? = _
    rw [Go.heap_alloc_old _ _ (by simp; omega), Go.heap_alloc_old _ _ (by simp)]
    exact alloc_at _ _
  · obtain ⟨b, u, q1, q2, q3, A', c', q4, q5⟩ := hC f hf
    have hc : ∀ (b o : Nat) v, b < w1.heap.size → w1.cell? ⟨b, o, none⟩ = some v → (w3.alloc (.cells #[.pointer (some ⟨w1.heap.size + 1 + 1 + 1, 0, none⟩)] 66)).cell? ⟨b, o, none⟩ = some v := fun b o v hb h => cell_below (cell_below h h13) ha
    refine ⟨b, u, q1, q2, hc _ _ _ q2 q3, A', c', q4, fun j x hj => ?_⟩
    obtain ⟨b', r1, r2, r3⟩ := q5 j x hj
    exact ⟨b', r1, r2, hc _ _ _ r2 r3⟩
  · have he : wsL n (waitsUpto G 0) = wsL n fun _ => 0 := wsL_congr _ _ _ fun c _ => by simp [waitsUpto]
    rw [he, ← wsL_zero]
    show (World.alloc _ _).heap[_]? = _
    rw [Go.heap_alloc_old _ _ (by simp)]
    have := alloc_at (w1.alloc (.cells #[.slice A2 n cp] 33)) (.cells (Array.replicate n (.int .i64 0)) 3)
    simpa using this
  · have := alloc_at ((w1.alloc (.cells #[.slice A2 n cp] 33)).alloc (.cells (Array.replicate n (.int .i64 0)) 3)) (.cells #[.slice (some ⟨w1.heap.size + 1, 0, none⟩) n n] 36)
    simpa [w123] using this
set_option maxRecDepth 100000 in
set_option maxHeartbeats 4000000 in
theorem ordered_some (n : Nat) (G : Nat → List Nat) (v : Value) (w : World) (hn : 1 ≤ n) (hG : IsG n G) (hL : ∀ f, f < n → (G f).length ≤ 1048576) (h : GraphIs w v n G) (hT : Tab w) :
    Calls Tryd.prog 36 #[v] w fun e w' => ∃ v', e = .returned v' ∧ w'.ownsRow w.heap.size 3 1 v' (orderL n G).length ((orderL n G).map iv) ∧ Below w.heap.size w w' := by
  have h64 := hG.n64
  have HT := Lib.hid hT
  have HG := Lib.hid hG
  have HTU := Lib.hid (turned_any n G v w hG hL h)
  obtain ⟨A, c, rfl, hrows⟩ := h
  have HR := Lib.hid hrows
  clear hrows hG hT
  refine (callsIn_wide (n := 3)).1 ?_
  refine callsIn_of_wp_marks Tryd.func36 rfl trivial ?_ rfl
  simp only [Tryd.ntmps36, List.size_toArray, List.length_cons, List.length_nil, Nat.reduceAdd, Nat.reduceSub, Array.replicate_succ, Array.replicate_zero, List.push_toArray, List.append_toArray, List.nil_append, List.cons_append]
  gi_wp2_with (refine ⟨trivial, ?_⟩; gi_at_call 55; refine (callsIn_wide.2 HTU.out).mono ?_; rintro e w1 ⟨cv, rfl, hcv, hb1⟩; obtain ⟨A2, cp, rfl, hcs⟩ := OM.callers hcv; have HCS := Lib.hid hcs; have HB1 := Lib.hid hb1; clear hcv hb1 hcs)
  rw [mk_ints n h64]
  gi_wp2_with (refine ⟨trivial, ?_⟩; gi_at_call 22; refine (callsIn_wide.2 (newSet_any n _ hn h64)).mono ?_; rintro e w3 ⟨rfl, hb3, lv, wb, hlv, hwb, hs3⟩; have HB3 := Lib.hid hb3; have HS3 := Lib.hid hs3; clear hb3 hs3)
  obtain ⟨hlay, hom, hbw⟩ := om_start (G := G) HB1.out HCS.out hlv hwb HB3.out (by simpa using HS3.out)
  clear hlv hwb HB3 HS3 HCS HB1 HTU
  generalize (w3.alloc (.cells #[.pointer (some ⟨w1.heap.size + 1 + 1 + 1, 0, none⟩)] 66)) = W0 at *
  generalize w3.heap.size = b5 at *
  generalize w1.heap.size = N at *
  have HLAY := Lib.hid hlay
  have HOM := Lib.hid hom
  have HBW := Lib.hid hbw
  clear hlay hom hbw
  gi_loopw [21] (fun i wr => ∃ k : Nat, k ≤ n ∧ i = .int .i64 k ∧ OM N lv wb b5 n (callersOf n G) (waitsUpto G k) ((List.range k).foldl (rdy G) 0) wr ∧ Below w.heap.size w wr) (fun i _ => n - (intOf i).toNat)
  case atStart => exact ⟨0, by omega, rfl, HOM.out, HBW.out⟩
  case round =>
    obtain ⟨k, hk, rfl, hom, hb⟩ := hrel
    by_cases hlt : k < n
    · obtain ⟨gb, u, rfl, hu, A', c', rfl, hrow⟩ := HR.out k hlt
      have hu2 := cell_below hu hb
      have hlen := hL k hlt
      have c1 := row_at hom.mb 0 _ rfl
      have c2 := row_at hom.m k _ (wsL_at _ _ k hlt)
      have c3 : wr.frozen? ⟨N + 1, k, none⟩ = false := row_free hom.m
      have c4 := row_at hom.sb 0 _ rfl
      have HO := Lib.hid hom
      have HB := Lib.hid hb
      clear hom hb hu hrow
      gi_wp2
      refine wpIn_region_noPanic ?_
      gi_region_with (fail)
      all_goals
        refine NoPanic.normal ?_
        have HO2 : Hid (OM N lv wb b5 n (callersOf n G) (waitsUpto G (k + 1)) ((List.range k).foldl (rdy G) 0) ((wr.setCell ⟨N + 1, k, none⟩ (.int .i64 ((G k).length : Int))).drew)) := by
          have := (HO.out.setw (c := k) ((G k).length : Int) HLAY.out).drew
          rw [waitsUpto_succ n G k] at this
          exact this
        have HB2 : Hid (Below w.heap.size w ((wr.setCell ⟨N + 1, k, none⟩ (.int .i64 ((G k).length : Int))).drew)) := Below.drew (HB.out.setCell (p := ⟨N + 1, k, none⟩) (by have := HLAY.out.h0; show w.heap.size ≤ N + 1; omega) _)
        generalize (wr.setCell ⟨N + 1, k, none⟩ (.int .i64 ((G k).length : Int))).drew = W2 at *
        have hw : waitsUpto G (k + 1) k = (G k).length := by simp [waitsUpto]
        have d1 := row_at HO2.out.mb 0 _ rfl
        have d2 := row_at HO2.out.m k _ (wsL_at _ _ k hlt)
        have d4 := row_at HO2.out.sb 0 _ rfl
        rw [hw] at d2
        clear c1 c2 c3 c4
        have HADD := Lib.hid (add_any (N + 3) lv wb ((List.range k).foldl (rdy G) 0) k W2 (by omega) HO2.out.s)
        have hrd := rdyUpto_succ G k
        by_cases h0 : ((G k).length : Int) = 0
        · have h0' : (((G k).length : Int) == 0) = true := by simp [h0]
          rw [rdy, if_pos h0] at hrd
          gi_wp2_with (refine ⟨trivial, ?_⟩; gi_at_call 24; refine (callsIn_wide.2 HADD.out).mono ?_; rintro e W3 ⟨rfl, hs3, ht3⟩; have HS3 := Lib.hid hs3; have HT3 := Lib.hid ht3; clear hs3 ht3)
          go_roundw
          case rel => exact ⟨k + 1, by omega, by go_num, by rw [hrd]; exact HO2.out.touch HLAY.out HT3.out HS3.out, below_touch HB2.out HT3.out (by have := HLAY.out.l2; have := HLAY.out.h0; omega)⟩
          case measure =>
            simp [intOf]
            omega
        · have h0' : (((G k).length : Int) == 0) = false := by rw [beq_eq_false_iff_ne]; exact h0
          rw [rdy, if_neg h0] at hrd
          gi_wp2
          go_roundw
          case rel => exact ⟨k + 1, by omega, by go_num, by rw [hrd]; exact HO2.out, HB2.out⟩
          case measure =>
            simp [intOf]
            omega
    · have hkn : k = n := by omega
      have h1 : ∀ c, c < n → waitsUpto G k c = (start n G).ws c := fun c hc => by simp [waitsUpto, start, hkn, hc]
      have hom2 : OM N lv wb b5 n (callersOf n G) (start n G).ws (start n G).rd wr := by
        refine ⟨hom.c, ?_, hom.mb, ?_, hom.sb⟩
        · rw [← wsL_congr n _ _ h1]
          exact hom.m
        · have := hom.s
          rw [hkn] at this
          exact this
      have c4 := row_at hom.sb 0 _ rfl
      have hlt2 := hom.lt
      have HO := Lib.hid hom2
      have HB := Lib.hid hb
      clear hom hom2 hb h1
      subst hkn
      have c5 : (wr.alloc (.cells #[.slice none 0 0] 36)).cell? ⟨b5, 0, none⟩ = some (.pointer (some ⟨N + 3, 0, none⟩)) := by
        rw [((Below.refl _ wr).alloc (Nat.le_refl _) _).cell (p := ⟨b5, 0, none⟩) hlt2]
        exact c4
      gi_wp2_with (refine ⟨trivial, ?_⟩; gi_at_call 26; refine (callsIn_wide.2 (taken_any _ _)).mono ?_; rintro e w' ⟨rfl, rfl⟩)
      obtain ⟨W1, hW1⟩ : ∃ W1, ((wr.alloc (.cells #[.slice none 0 0] 36)).alloc (.cells #[.pointer (some ⟨N + 3, 0, none⟩)] 66)) = W1 := ⟨_, rfl⟩
      have hz1 : W1.heap.size = wr.heap.size + 2 := by rw [← hW1]; simp
      have HW1 := Lib.hid hW1
      rw [hW1]
      clear hW1 c4 c5
      refine range_wide (n := 2) (gf := 43) (lb := #[.pointer (some ⟨wr.heap.size + 1, 0, none⟩)]) rfl (enters_of Tryd.func43 (by kernel_rfl) rfl) (fun fn => ?_)
      refine ord_main HG.out HT.out HLAY.out HO.out HB.out HW1.out.symm _ rfl rfl ?round ?after
      case round =>
        intro W Wa Wb x hJ hsx hx0 hba htb hsb
        obtain ⟨kk, hkk, hlen, hI⟩ := hJ
        have hxr : (steps k G kk (start k G)).rd = x := by rw [← wordOf_set hI.om.s, wordOf_set hsx]
        have hinv := steps_inv HG.out kk
        have hmu : ordLen W wr.heap.size = kk := by rw [hI.len, hlen]
        have hI2 := (hI.below HLAY.out hba).touch HLAY.out hlt2 htb hsb
        have hstep : steps k G (kk + 1) (start k G) = oneStep k G (steps k G kk (start k G)) := by
          show step k G (steps k G kk (start k G)) = _
          unfold step
          rw [if_neg (by rw [hxr]; exact hx0)]
        subst hxr
        generalize steps k G kk (start k G) = s at *
        subst hlen
        have hkl := inv_len_lt HG.out hinv hx0
        have hm := (ctz_bits s.rd hinv.rd64 hx0).2.1
        rw [hinv.rd, decide_eq_true_eq] at hm
        have hm1 := hm.1
        unfold oneStep at hstep
        generalize Lib.ctz 64 s.rd = m at *
        generalize without s.rd m = y at *
        have HS := Lib.hid (fun j c hc => relax_small HG.out hL hinv m y j c hc)
        have HI2 := Lib.hid hI2
        have HST := Lib.hid hstep
        have hl2 := hI2.l
        rw [hz1] at hl2 ⊢
        dsimp only
        rw [hmu]
        generalize wr.heap.size = Q at *
        refine yield_wide hl2 rfl rfl ?_
        simp only [rec0] at hl2 ⊢
        have HL2 := Lib.hid hl2
        clear hI hI2 hinv hstep hl2 hm hsx hx0 hba htb hsb HW1 hmu
        gi_wp2
        refine ⟨HL2.out, ?_⟩
        refine name_world (P := fun X => Code.wpIn _ _ Tryd.prog _ _ _ X) (F := fun X => OI w N lv wb b5 k (callersOf k G) Q _ s.ord s.ws y X) _ (HI2.out.put HLAY.out hlt2 _) ?_
        intro X hX
        obtain ⟨v, hv, hown⟩ := hX.box
        obtain ⟨va, vc, rfl⟩ := own_form hown
        obtain ⟨i0, hi0, hy0, hy1, hy2⟩ := info_parts intinfo
        have H9 := Lib.hid hy0
        have H10 := Lib.hid hy1
        have H11 := Lib.hid hy2
        have H12 := Lib.hid hi0
        have c1 := row_at hv 0 _ rfl
        have hzX := hX.lt
        have hob : ∀ q, (Value.slice va s.ord.length vc).ownBlock = some q → Q + 4 ≤ q := fun q hq => (hown.lt q hq).1
        have HF := Lib.hid (fun w3 v3 o hg3 hown3 => OI.app (m := m) (w3 := w3) (v3 := v3) (o := o) hX HLAY.out hlt2 hv hown hg3 hown3)
        have HV := Lib.hid hv
        have HOW := Lib.hid hown
        clear hX hv hown hy0 hy1 hy2 hi0 HL2 HI2 HO HB
        gi_upto_region 15 with (gi_at_builtin; go_must (refine wpListIn_append_own _ rfl (.tmp 44) (.tmp 46) 36 rfl (Q + 4) 3 i0 (.int .i64 0) 1 8 Tryd.underlying36 H12.out H9.out H10.out H11.out rfl (by decide) (.slice va s.ord.length vc) s.ord.length (s.ord.map iv) rfl (own_gb HOW.out (gb_alloc _ none _) (fun q e => by cases e)) ⟨X.heap.size, 0, none⟩ 1 1 [iv m] rfl rfl (new_one _ _ _ _ rfl) (by simp [Value.oneCell', iv]) (by simp only [maxLen]; omega) (by omega) (by simp; omega) ?_; intro v3 w3 hown3 hg3 _; obtain ⟨g3, cap3, rfl⟩ := ownsRow_succ hown3; have O3 := Lib.hid hown3; have G3 := Lib.hid hg3; clear hown3 hg3; have e3 : w3.heap[Q]? = some (.cells [.slice va s.ord.length vc].toArray 36 (0, 0)) := (G3.out.block _ (by simp; omega) (fun e => by have := hob _ e.symm; omega)).trans ((Go.heap_alloc_old _ _ (by omega)).trans HV.out); have e4 := row_at e3 0 _ rfl; have e5 : w3.frozen? ⟨Q, 0, none⟩ = false := row_free e3))
        refine name_world (P := fun Y => Code.wpIn _ _ Tryd.prog _ _ _ Y) (F := fun Y => OI w N lv wb b5 k (callersOf k G) Q _ (s.ord ++ [m]) s.ws y Y) _ (HF.out _ _ _ G3.out O3.out) ?_
        intro Y hY
        clear HF HV HOW O3 G3 e3 e4 e5 c1 hob hzX
        obtain ⟨cv, q1, A4, cp4, rfl, q2⟩ := hY.om.c
        obtain ⟨gb, u, rfl, _, q3, A', c', rfl, q4⟩ := q2 m hm1
        have c1 := row_at q1 0 _ rfl
        have HY := Lib.hid hY
        have HQ4 := Lib.hid q4
        have hm0 : (0 : Int) ≤ (m : Int) := by omega
        have hm2 : (m : Int) < (k : Int) := by omega
        have hlc : (callersOf k G m).length ≤ 64 := by
          have := List.length_filter_le (fun c => (G c).contains m) (List.range k)
          simp only [List.length_range] at this
          exact Nat.le_trans this h64
        have HMC := Lib.hid (fun c => mem_callersOf k G m c)
        generalize hcs : callersOf k G m = cs at *
        clear hY q1 q2 q4
        gi_wp2
        gi_loopw [53] (fun i wr => ∃ j : Nat, j ≤ cs.length ∧ i = .int .i64 j ∧ OI w N lv wb b5 k (callersOf k G) Q _ (s.ord ++ [m]) (relax (cs.take j) (s.ws, y)).1 (relax (cs.take j) (s.ws, y)).2 wr ∧ (∀ q, q < N → wr.heap[q]? = Y.heap[q]?)) (fun i _ => cs.length - (intOf i).toNat)
        case atStart => exact ⟨0, by omega, rfl, HY.out, fun _ _ => rfl⟩
        case round =>
          obtain ⟨j, hj, rfl, hoi, hsame⟩ := hrel
          by_cases hjl : j < cs.length
          · obtain ⟨c0, hc0⟩ : ∃ x, cs[j]? = some x := ⟨_, List.getElem?_eq_getElem hjl⟩
            obtain ⟨b', rfl, hbN, hcell⟩ := HQ4.out j c0 hc0
            have hc0k : c0 < k := ((HMC.out c0).1 (List.mem_of_getElem? hc0)).1
            have p1 : World.cell? _ ⟨b', j, none⟩ = some (iv c0) := (World.cell?_of_block (a := ⟨b', j, none⟩) (hsame b' hbN)).trans hcell
            have p2 := row_at hoi.om.mb 0 _ rfl
            have p3 := row_at hoi.om.m c0 _ (wsL_at _ _ c0 hc0k)
            have p4 : World.frozen? _ ⟨N + 1, c0, none⟩ = false := row_free hoi.om.m
            obtain ⟨hs1, hs2⟩ := HS.out j c0 hc0k
            have HRX := Lib.hid (relax_take cs (s.ws, y) j c0 hc0)
            simp only [iv] at p1
            have hc01 : (0 : Int) ≤ (c0 : Int) := by omega
            have hc02 : (c0 : Int) < (k : Int) := by omega
            generalize relax (cs.take j) (s.ws, y) = rp at *
            obtain ⟨wsj, rdj⟩ := rp
            simp only at hoi hs1 hs2 p3
            have hwrap := wrap_dec _ hs1 hs2
            have HOI := Lib.hid hoi
            have HSAME := Lib.hid hsame
            clear hoi hsame hs1 hs2 hc0 hcell
            gi_upto_region 19 with (fail)
            refine name_world (P := fun V => Code.wpIn _ _ Tryd.prog _ _ _ V) (F := fun V => OI w N lv wb b5 k (callersOf k G) Q _ (s.ord ++ [m]) (dec1 wsj c0) rdj V ∧ ∀ q, q < N → V.heap[q]? = Y.heap[q]?) _ ⟨HOI.out.setw c0 (wsj c0 - 1) HLAY.out hlt2, fun q hq => (Below.heap_setCell _ _ _ _ (by show q ≠ N + 1; omega)).trans (HSAME.out q hq)⟩ ?_
            rintro V ⟨hv, hvs⟩
            clear HOI HSAME p1 p2 p3 p4 hwrap c1
            have p2 := row_at hv.om.mb 0 _ rfl
            have p3 := row_at hv.om.m c0 _ (wsL_at _ _ c0 hc0k)
            have p5 := row_at hv.om.sb 0 _ rfl
            have hd : dec1 wsj c0 c0 = wsj c0 - 1 := by simp [dec1]
            rw [hd] at p3
            have HADD := Lib.hid (add_any (N + 3) lv wb rdj c0 V (by omega) hv.om.s)
            have HVI := Lib.hid hv
            have HVS := Lib.hid hvs
            have hb2 := HLAY.out.l2
            clear hv hvs hd
            by_cases h0 : wsj c0 - 1 = 0
            · have h0' : (wsj c0 - 1 == 0) = true := by rw [h0]; rfl
              have hx1 : relax (cs.take (j + 1)) (s.ws, y) = (dec1 wsj c0, rdj ||| 2 ^ c0) := by rw [HRX.out, relax1, if_pos h0]
              gi_wp2_with (refine ⟨trivial, ?_⟩; gi_at_call 24; refine ((callsIn_wide.2 HADD.out).inRound _).mono ?_; rintro e V3 ⟨rfl, hs3, ht3⟩; have HS3 := Lib.hid hs3; have HT3 := Lib.hid ht3; clear hs3 ht3)
              go_roundw
              case rel => exact ⟨j + 1, by omega, by go_num, by rw [hx1]; exact HVI.out.touch HLAY.out hlt2 HT3.out HS3.out, fun q hq => (HT3.out.block q (by omega)).trans (HVS.out q hq)⟩
              case measure =>
                simp [intOf]
                omega
            · have h0' : (wsj c0 - 1 == 0) = false := by rw [beq_eq_false_iff_ne]; exact h0
              have hx1 : relax (cs.take (j + 1)) (s.ws, y) = (dec1 wsj c0, rdj) := by rw [HRX.out, relax1, if_neg h0]
              gi_wp2
              go_roundw
              case rel => exact ⟨j + 1, by omega, by go_num, by rw [hx1]; exact HVI.out, HVS.out⟩
              case measure =>
                simp [intOf]
                omega
          · obtain rfl : j = cs.length := by omega
            have HOI := Lib.hid hoi
            clear hoi hsame c1
            have HST2 := HST.out
            rw [← List.take_length (l := cs)] at HST2
            have hall := fun rl => HOI.out.put HLAY.out hlt2 rl
            have HA := Lib.hid hall
            clear hall
            gi_wp2
            refine ⟨HOI.out.l, rfl, ⟨s.ord.length + 1, by omega, by rw [HST2]; simp, by rw [HST2]; exact HA.out _⟩, ?_⟩
            exact (HA.out _).mu hkl
      case after =>
        intro W' v hb hd hbox hown
        have HBa := Lib.hid hb
        have HO := Lib.hid hown
        have HD := Lib.hid hd
        have hdz := (Array.getElem?_eq_some_iff.1 hd).1
        have c3 : ∀ o, (W'.putObj (W1.heap.size + 1) o).cell? ⟨wr.heap.size, 0, none⟩ = some v := fun o => by rw [cell_of_row _ _ 0 _ _ _ ((World.putObj_heap_other (by omega)).trans hbox)]; rfl
        have HSZ := Lib.hid hz1
        have hbs := HB.out.size
        clear hb hown hd hbox hz1
        gi_wp2
        refine ⟨by simp, .inl ⟨_, _, rfl, run_takeDeferred ((World.putObj_heap_other (by omega)).trans HD.out), ?_⟩⟩
        have hsz := HSZ.out
        refine ⟨_, results_tmp rfl _ _ _, v, rfl, own_base (own_gb (own_gb HO.out (gb_put _ _ _) (fun k e => by cases e; omega)) (gb_put _ _ _) (fun k e => by cases e; omega)) (by omega), below_gb (below_gb HBa.out (gb_put _ _ _) HBa.out.size (fun b e => by cases e; omega)) (gb_put _ _ _) (by have := HBa.out.size; simp; omega) (fun b e => by cases e; omega)⟩
end Go.Proofs.YtchhbhgbpimegaaDoor
