/-
  GpioEdges' walk: of all that is looked at it is asked just if it would be of one pin alone: true. Made by wip/gengpioedges.py.
-/
import Derived.Test.YticeeeomhdcffaaEdgesM
import Derived.Deep.DeepCutAuto
namespace Go.Proofs.Yticeeeomhdcffaa
open Go.RowKit
set_option linter.unusedVariables false
theorem OwnN.addr {w : World} {B : Nat} {a : Addr} {c : Nat} {l : List Nat} (h : OwnN w B (.slice (some a) l.length c) l) (hn : 0 < l.length) : ∃ g, a = ⟨g, 0, none⟩ := by
  obtain ⟨k, hk⟩ : ∃ k, l.length = k + 1 := ⟨l.length - 1, by omega⟩
  unfold OwnN at h
  rw [hk] at h
  obtain ⟨g, cap, e⟩ := own_succ h
  injection e with e1 e2 e3
  injection e1 with e1
  exact ⟨g, e1⟩
set_option maxHeartbeats 40000000 in
set_option maxRecDepth 100000 in
theorem edges_walk (H : GpioOk) (e i lv m o : Nat) (w : World) (he : e < 256) (hi : i < 256) (hl : lv < 256) (hm : m < 256) (ho : o < 256) :
    Calls Try.prog 4 #[.int .u8 e, .int .u8 i, .agg #[.int .u8 lv, .int .u8 m, .int .u8 o]] w fun x w' => x = .returned (.bool true) ∧ Below w.heap.size w w' := by
  have hem : e ||| m < 256 := Nat.or_lt_two_pow (n := 8) he hm
  have hor : bits .or .u8 (e : Int) (m : Int) = ((e ||| m : Nat) : Int) := u8_or_nat e m he hm
  have HP := Lib.hid (fun W => H.pins o i e lv W ho hi he hl)
  have HA0 : Hid (∀ W : World, Calls Try.prog 16 #[gv o lv e, .int .u8 lv] W fun x w' => x = .returned (.bool false) ∧ Below W.heap.size W w') := Lib.hid (fun W => by
    have h := asks_any H o lv e lv W ho hl he hl
    rw [asks_same] at h
    exact h)
  have HA1 : Hid (∀ (k : Nat) (W : World), k < 8 → Calls Try.prog 16 #[gv 0 i (2 ^ k), .int .u8 lv] W fun x w' => x = .returned (.bool (risesB i lv k)) ∧ Below W.heap.size W w') := Lib.hid (fun k W hk => by
    have h := asks_any H 0 i (2 ^ k) lv W (by decide) hi (show 2 ^ k < 2 ^ 8 from Nat.pow_lt_pow_right (by decide) hk) hl
    rw [asks_one i lv k hk] at h
    exact h)
  have HA2 : Hid (∀ W : World, Calls Try.prog 16 #[gv 0 i (e ||| m), .int .u8 lv] W fun x w' => x = .returned (.bool (asksL (e ||| m) (riseK i lv 8))) ∧ Below W.heap.size W w') := Lib.hid (fun W => asks_any H 0 i (e ||| m) lv W (by decide) hi hem hl)
  have HM : Hid (asksL e (riseK i lv 8) = true → asksL (e ||| m) (riseK i lv 8) = true) := Lib.hid (asks_more e m _)
  have HR := Lib.hid (fun W => H.rising i lv W hi hl)
  have HOR := Lib.hid (or_rises i lv hi hl)
  have hsub : ((255 - i : Nat) : Int) = 255 - (i : Int) := by omega
  have hand : bits .and .u8 (lv : Int) (255 - (i : Int)) = ((lv &&& (255 - i) : Nat) : Int) := by rw [← hsub]; exact u8_and_nat lv (255 - i) hl (by omega)
  generalize e ||| m = em at *
  generalize lv &&& (255 - i) = la at *
  go_enter Try.func4, Try.ntmps4
  go_upto_region 3 with (go_at_call 15; refine (works_any H _).mono ?_; rintro x w0 ⟨rfl, hB⟩
                         have r0 : w0.cell? ⟨w.heap.size, 0, none⟩ = some (.int .u8 (lv : Int)) := (VRow.below (alloc_at w _) hB (by simp)).cell 0 _ rfl
                         have r1 : w0.cell? ⟨w.heap.size, 1, none⟩ = some (.int .u8 (m : Int)) := (VRow.below (alloc_at w _) hB (by simp)).cell 1 _ rfl
                         have r2 : w0.cell? ⟨w.heap.size, 2, none⟩ = some (.int .u8 (o : Int)) := (VRow.below (alloc_at w _) hB (by simp)).cell 2 _ rfl
                         have HB0 : Hid (Below w.heap.size w w0) := Lib.hid (((Below.refl _ _).alloc (Nat.le_refl _) _).trans (hB.mono (by simp)))
                         clear hB)
  go_quiet (fail)
  obtain ⟨Wa, hWa⟩ : ∃ Z, Z = w0.drewN nq := ⟨_, rfl⟩
  rw [← hWa]
  have BB_Wa : Hid (Below w.heap.size w Wa) := Lib.hid (by rw [hWa]; exact Below.drewN' HB0.out _)
  clear hWa r0 r1 r2 HB0
  go_wp2_with (first
    | (go_at_call 8; refine (HP.out _).mono ?_; rintro x w1 ⟨rfl, hB⟩
       have BB_w1 : Hid (Below w.heap.size w w1) := Lib.hid ((BB_Wa.out.alloc BB_Wa.out.size _).trans (hB.mono (Nat.le_trans BB_Wa.out.size (by simp))))
       clear hB)
    | ((with_reducible show wpList _ _ _ (⟨none, .store 24 (.tmp 11) (.tmp 36), _, _, _, _⟩ :: _) _ _); refine wpList_store_g rfl 24 _ _ rfl (w1.heap.size) (by exact rfl) o lv e (by exact rfl) (by kernel_rfl) 24 _ _ _ (show GRow _ _ _ 0 0 0 from alloc_at _ _) ?_; intro w2 HN HO HB2
       have BB_w2 : Hid (Below w.heap.size w w2) := Lib.hid ((BB_w1.out.alloc BB_w1.out.size _).trans (HB2.out.mono BB_w1.out.size))
       have RN_w2 := HN
       obtain ⟨n0, n1, n2⟩ := GRow.three HN.out
       clear HN HO HB2 BB_w1)
    | ((with_reducible show wpList _ _ _ (⟨some 55, .load 24 (.tmp 11), _, _, _, _⟩ :: _) _ _); refine wpList_load_g (by kernel_rfl) 24 _ rfl (w1.heap.size) (by exact rfl) _ Try.underlying24 (by kernel_rfl) 24 _ _ _ RN_w2.out ?_)
    | (go_at_call 16; refine (HA0.out _).mono ?_; rintro x w3 ⟨rfl, hB⟩
       have BB_w3 : Hid (Below w.heap.size w w3) := Lib.hid (BB_w2.out.trans (hB.mono BB_w2.out.size))
       clear hB n0 n1 n2 RN_w2 BB_w2))
  go_loopw [13, 14] (fun sv kv wr => ∃ k : Nat, k ≤ 8 ∧ kv = .int .i64 k ∧ sv = .bool (asksL e (riseK i lv k)) ∧ Below w.heap.size w wr) (fun _ kv _ => 8 - (intOf kv).toNat)
  case atStart => exact ⟨0, by omega, rfl, by simp [riseK, asksL], BB_w3.out⟩
  case round =>
    obtain ⟨k, hk, rfl, rfl, hb⟩ := hrel
    have HB := Lib.hid hb
    clear hb
    by_cases hlt : k < 8
    · have d1 : (k : Int) < 8 := by omega
      have hsucc := Lib.hid (asks_succ e i lv k)
      have hp8 : 2 ^ k < 256 := show 2 ^ k < 2 ^ 8 from Nat.pow_lt_pow_right (by decide) hlt
      have HK0 := Lib.hid (fun W => HA1.out k W hlt)
      have ti : i &&& 2 ^ k = 0 ↔ bitB i k = false := and_one i k
      have tl : lv &&& 2 ^ k = 0 ↔ bitB lv k = false := and_one lv k
      have te : e &&& 2 ^ k = 0 ↔ bitB e k = false := and_one e k
      have hpw0 : ((2 ^ k : Nat) : Int) = (2 : Int) ^ k := by simp
      obtain ⟨q, hq⟩ : ∃ q, 2 ^ k = q := ⟨_, rfl⟩
      rw [hq] at hp8 HK0 ti tl te hpw0
      have hpw : (2 : Int) ^ k % 256 = (q : Int) := by rw [← hpw0]; omega
      have hai := u8_and_nat i q hi hp8
      have hal := u8_and_nat lv q hl hp8
      have hae := u8_and_nat e q he hp8
      clear hq hpw0
      generalize i &&& q = ai at *
      generalize lv &&& q = al at *
      generalize e &&& q = ae at *
      unfold gv at HK0
      unfold risesB at HK0 hsucc
      obtain ⟨s0, hs0⟩ : ∃ s0, asksL e (riseK i lv k) = s0 := ⟨_, rfl⟩
      rw [hs0] at hsucc ⊢
      obtain ⟨bi, hbi⟩ : ∃ bi, bitB i k = bi := ⟨_, rfl⟩
      obtain ⟨bl, hbl⟩ : ∃ bl, bitB lv k = bl := ⟨_, rfl⟩
      obtain ⟨be, hbe⟩ : ∃ be, bitB e k = be := ⟨_, rfl⟩
      rw [hbi] at ti HK0 hsucc
      rw [hbl] at tl HK0 hsucc
      rw [hbe] at te hsucc
      have HK : Hid (∀ W : World, Calls Try.prog 16 #[.agg #[.int .u8 0, .int .u8 (i : Int), .int .u8 (q : Int)], .int .u8 lv] W fun x w' => x = .returned (.bool (!bi && bl)) ∧ Below W.heap.size W w') := HK0
      have HSU := hsucc
      clear HK0 hsucc hs0 hbi hbl hbe
      cases bi
      · obtain rfl : ai = 0 := ti.2 rfl
        cases bl
        · obtain rfl : al = 0 := tl.2 rfl
          cases be
          · obtain rfl : ae = 0 := te.2 rfl
            cases s0
            · go_wp2_with (go_at_call 16; (with_reducible refine (HK.out _).mono ?_); rintro x w4 ⟨rfl, hB⟩; have HB4 := Lib.hid hB; clear hB)
              go_roundw
              case rel => exact ⟨k + 1, by omega, by go_num, by rw [HSU.out]; rfl, HB.out.trans (HB4.out.mono HB.out.size)⟩
              case measure =>
                simp [intOf]
                omega
            · go_wp2_with (go_at_call 16; (with_reducible refine (HK.out _).mono ?_); rintro x w4 ⟨rfl, hB⟩; have HB4 := Lib.hid hB; clear hB)
              go_roundw
              case rel => exact ⟨k + 1, by omega, by go_num, by rw [HSU.out]; rfl, HB.out.trans (HB4.out.mono HB.out.size)⟩
              case measure =>
                simp [intOf]
                omega
          · have nae : ¬ (ae : Int) = 0 := fun h => by have := te.1 (by omega); simp at this
            have pae : ((ae : Int) != 0) = true := by simpa using nae
            have qae : ((ae : Int) == 0) = false := by simpa using nae
            cases s0
            · go_wp2_with (go_at_call 16; (with_reducible refine (HK.out _).mono ?_); rintro x w4 ⟨rfl, hB⟩; have HB4 := Lib.hid hB; clear hB)
              go_roundw
              case rel => exact ⟨k + 1, by omega, by go_num, by rw [HSU.out]; rfl, HB.out.trans (HB4.out.mono HB.out.size)⟩
              case measure =>
                simp [intOf]
                omega
            · go_wp2_with (go_at_call 16; (with_reducible refine (HK.out _).mono ?_); rintro x w4 ⟨rfl, hB⟩; have HB4 := Lib.hid hB; clear hB)
              go_roundw
              case rel => exact ⟨k + 1, by omega, by go_num, by rw [HSU.out]; rfl, HB.out.trans (HB4.out.mono HB.out.size)⟩
              case measure =>
                simp [intOf]
                omega
        · have nal : ¬ (al : Int) = 0 := fun h => by have := tl.1 (by omega); simp at this
          have pal : ((al : Int) != 0) = true := by simpa using nal
          have qal : ((al : Int) == 0) = false := by simpa using nal
          cases be
          · obtain rfl : ae = 0 := te.2 rfl
            cases s0
            · go_wp2_with (go_at_call 16; (with_reducible refine (HK.out _).mono ?_); rintro x w4 ⟨rfl, hB⟩; have HB4 := Lib.hid hB; clear hB)
              go_roundw
              case rel => exact ⟨k + 1, by omega, by go_num, by rw [HSU.out]; rfl, HB.out.trans (HB4.out.mono HB.out.size)⟩
              case measure =>
                simp [intOf]
                omega
            · go_wp2_with (go_at_call 16; (with_reducible refine (HK.out _).mono ?_); rintro x w4 ⟨rfl, hB⟩; have HB4 := Lib.hid hB; clear hB)
              go_roundw
              case rel => exact ⟨k + 1, by omega, by go_num, by rw [HSU.out]; rfl, HB.out.trans (HB4.out.mono HB.out.size)⟩
              case measure =>
                simp [intOf]
                omega
          · have nae : ¬ (ae : Int) = 0 := fun h => by have := te.1 (by omega); simp at this
            have pae : ((ae : Int) != 0) = true := by simpa using nae
            have qae : ((ae : Int) == 0) = false := by simpa using nae
            cases s0
            · go_wp2_with (go_at_call 16; (with_reducible refine (HK.out _).mono ?_); rintro x w4 ⟨rfl, hB⟩; have HB4 := Lib.hid hB; clear hB)
              go_roundw
              case rel => exact ⟨k + 1, by omega, by go_num, by rw [HSU.out]; rfl, HB.out.trans (HB4.out.mono HB.out.size)⟩
              case measure =>
                simp [intOf]
                omega
            · go_wp2_with (go_at_call 16; (with_reducible refine (HK.out _).mono ?_); rintro x w4 ⟨rfl, hB⟩; have HB4 := Lib.hid hB; clear hB)
              go_roundw
              case rel => exact ⟨k + 1, by omega, by go_num, by rw [HSU.out]; rfl, HB.out.trans (HB4.out.mono HB.out.size)⟩
              case measure =>
                simp [intOf]
                omega
      · have nai : ¬ (ai : Int) = 0 := fun h => by have := ti.1 (by omega); simp at this
        have pai : ((ai : Int) != 0) = true := by simpa using nai
        have qai : ((ai : Int) == 0) = false := by simpa using nai
        cases bl
        · obtain rfl : al = 0 := tl.2 rfl
          cases be
          · obtain rfl : ae = 0 := te.2 rfl
            cases s0
            · go_wp2_with (go_at_call 16; (with_reducible refine (HK.out _).mono ?_); rintro x w4 ⟨rfl, hB⟩; have HB4 := Lib.hid hB; clear hB)
              go_roundw
              case rel => exact ⟨k + 1, by omega, by go_num, by rw [HSU.out]; rfl, HB.out.trans (HB4.out.mono HB.out.size)⟩
              case measure =>
                simp [intOf]
                omega
            · go_wp2_with (go_at_call 16; (with_reducible refine (HK.out _).mono ?_); rintro x w4 ⟨rfl, hB⟩; have HB4 := Lib.hid hB; clear hB)
              go_roundw
              case rel => exact ⟨k + 1, by omega, by go_num, by rw [HSU.out]; rfl, HB.out.trans (HB4.out.mono HB.out.size)⟩
              case measure =>
                simp [intOf]
                omega
          · have nae : ¬ (ae : Int) = 0 := fun h => by have := te.1 (by omega); simp at this
            have pae : ((ae : Int) != 0) = true := by simpa using nae
            have qae : ((ae : Int) == 0) = false := by simpa using nae
            cases s0
            · go_wp2_with (go_at_call 16; (with_reducible refine (HK.out _).mono ?_); rintro x w4 ⟨rfl, hB⟩; have HB4 := Lib.hid hB; clear hB)
              go_roundw
              case rel => exact ⟨k + 1, by omega, by go_num, by rw [HSU.out]; rfl, HB.out.trans (HB4.out.mono HB.out.size)⟩
              case measure =>
                simp [intOf]
                omega
            · go_wp2_with (go_at_call 16; (with_reducible refine (HK.out _).mono ?_); rintro x w4 ⟨rfl, hB⟩; have HB4 := Lib.hid hB; clear hB)
              go_roundw
              case rel => exact ⟨k + 1, by omega, by go_num, by rw [HSU.out]; rfl, HB.out.trans (HB4.out.mono HB.out.size)⟩
              case measure =>
                simp [intOf]
                omega
        · have nal : ¬ (al : Int) = 0 := fun h => by have := tl.1 (by omega); simp at this
          have pal : ((al : Int) != 0) = true := by simpa using nal
          have qal : ((al : Int) == 0) = false := by simpa using nal
          cases be
          · obtain rfl : ae = 0 := te.2 rfl
            cases s0
            · go_wp2_with (go_at_call 16; (with_reducible refine (HK.out _).mono ?_); rintro x w4 ⟨rfl, hB⟩; have HB4 := Lib.hid hB; clear hB)
              go_roundw
              case rel => exact ⟨k + 1, by omega, by go_num, by rw [HSU.out]; rfl, HB.out.trans (HB4.out.mono HB.out.size)⟩
              case measure =>
                simp [intOf]
                omega
            · go_wp2_with (go_at_call 16; (with_reducible refine (HK.out _).mono ?_); rintro x w4 ⟨rfl, hB⟩; have HB4 := Lib.hid hB; clear hB)
              go_roundw
              case rel => exact ⟨k + 1, by omega, by go_num, by rw [HSU.out]; rfl, HB.out.trans (HB4.out.mono HB.out.size)⟩
              case measure =>
                simp [intOf]
                omega
          · have nae : ¬ (ae : Int) = 0 := fun h => by have := te.1 (by omega); simp at this
            have pae : ((ae : Int) != 0) = true := by simpa using nae
            have qae : ((ae : Int) == 0) = false := by simpa using nae
            cases s0
            · go_wp2_with (go_at_call 16; (with_reducible refine (HK.out _).mono ?_); rintro x w4 ⟨rfl, hB⟩; have HB4 := Lib.hid hB; clear hB)
              go_roundw
              case rel => exact ⟨k + 1, by omega, by go_num, by rw [HSU.out]; rfl, HB.out.trans (HB4.out.mono HB.out.size)⟩
              case measure =>
                simp [intOf]
                omega
            · go_wp2_with (go_at_call 16; (with_reducible refine (HK.out _).mono ?_); rintro x w4 ⟨rfl, hB⟩; have HB4 := Lib.hid hB; clear hB)
              go_roundw
              case rel => exact ⟨k + 1, by omega, by go_num, by rw [HSU.out]; rfl, HB.out.trans (HB4.out.mono HB.out.size)⟩
              case measure =>
                simp [intOf]
                omega
    · obtain rfl : k = 8 := by omega
      have HL8 := Lib.hid (riseK_lt i lv 8)
      have HL9 := Lib.hid (riseK_len i lv 8)
      have HAS := Lib.hid (rise_asc i lv 8)
      obtain ⟨b1, hb1⟩ : ∃ b1, asksL e (riseK i lv 8) = b1 := ⟨_, rfl⟩
      rw [hb1] at HM ⊢
      clear hb1
      generalize riseK i lv 8 = L at *
      go_upto_region 17 with fail
      go_cut [107] (fun v wx => ∃ W : World, W = wx ∧ v = .bool false ∧ Below w.heap.size w W)
      case first =>
        cases b1
        · go_wp2_with fail
          go_meet
          case rel => exact ⟨_, rfl, rfl, HB.out⟩
        · have HA3 : Hid (∀ W : World, Calls Try.prog 16 #[.agg #[.int .u8 0, .int .u8 (i : Int), .int .u8 (em : Int)], .int .u8 lv] W fun x w' => x = .returned (.bool true) ∧ Below W.heap.size W w') := Lib.hid (fun W => by
            have h := HA2.out W
            rw [HM.out rfl] at h
            exact h)
          go_wp2_with (go_at_call 16; (with_reducible refine (HA3.out _).mono ?_); rintro x w4 ⟨rfl, hB⟩; have HB4 : Hid (Below w.heap.size w w4) := Lib.hid (HB.out.trans (hB.mono HB.out.size)); clear hB)
          go_meet
          case rel => exact ⟨_, rfl, rfl, HB4.out⟩
      case rest =>
        obtain ⟨W6, rfl, rfl, hbw6⟩ := hcut
        have HB6 := Lib.hid hbw6
        clear hbw6 HB
        go_wp2_with (go_at_call 11; refine (HR.out _).mono ?_; rintro x w5 ⟨lw, rfl, hown, hB⟩; have HB5 : Hid (Below w.heap.size w w5) := Lib.hid (HB6.out.trans (hB.mono HB6.out.size)); have HO5 := Lib.hid hown; obtain ⟨A5, c5, rfl⟩ := hown.form; clear hB hown)
        go_loopw [18, 19] (fun av kv wq => ∃ j : Nat, j ≤ L.length ∧ kv = .int .i64 j ∧ av = .int .u8 ((orL (L.take j) : Nat) : Int) ∧ Below w5.heap.size w5 wq) (fun _ kv _ => L.length - (intOf kv).toNat)
        case atStart => exact ⟨0, by omega, rfl, by simp [orL], Below.refl _ _⟩
        case round =>
          obtain ⟨j, hj, rfl, rfl, hbq⟩ := hrel
          have HBQ := Lib.hid hbq
          have HOQ := Lib.hid (HO5.out.below hbq)
          clear hbq
          by_cases hlt2 : j < L.length
          · obtain ⟨x, hx⟩ : ∃ x, L[j]? = some x := ⟨_, List.getElem?_eq_getElem hlt2⟩
            obtain ⟨a, cc, hA, hcx⟩ := HOQ.out.at j x hx
            injection hA with hA1 hA2 hA3
            subst hA1
            subst hA3
            clear hA2
            obtain ⟨g5, rfl⟩ := OwnN.addr HOQ.out (by omega)
            simp only [addr_add, Nat.zero_add] at hcx
            have hx8 := HL8.out x (List.mem_of_getElem? hx)
            have d1 : (j : Int) < (L.length : Int) := by omega
            have d2 : ¬ (x : Int) < 0 := by omega
            have d3 : ¬ (7 : Int) < (x : Int) := by omega
            have hst : L.take (j + 1) = L.take j ++ [x] := by rw [List.take_add_one, hx]; rfl
            have hol : orL (L.take j) < 256 := orL_lt _ (fun n hn => HL8.out n (List.mem_of_mem_take hn))
            have HS : Hid (orL (L.take (j + 1)) = orL (L.take j) ||| 2 ^ x) := Lib.hid (by rw [hst, orL_snoc])
            have hq8 : 2 ^ x < 256 := show 2 ^ x < 2 ^ 8 from Nat.pow_lt_pow_right (by decide) hx8
            have hpw0 : ((2 ^ x : Nat) : Int) = (2 : Int) ^ x := by simp
            obtain ⟨q, hq⟩ : ∃ q, 2 ^ x = q := ⟨_, rfl⟩
            rw [hq] at hq8 hpw0 HS
            have hpw : (2 : Int) ^ x % 256 = (q : Int) := by rw [← hpw0]; omega
            obtain ⟨al, hal⟩ : ∃ al, orL (L.take j) = al := ⟨_, rfl⟩
            rw [hal] at hol HS ⊢
            have hor2 := u8_or_nat al q hol hq8
            clear hq hpw0 hal hst
            rcases j with _ | j1
            · clear hx
              go_upto_region 24 with (fail)
              refine wp_region_noPanic ?_
              refine wp_region_held_drew (S := fun Z => Below wr.heap.size wr Z) (by kernel_rfl) ((Below.refl _ wr).drew) (fun hHeld => ?_)
              refine' take_ 0 rfl (by kernel_rfl) (by kernel_rfl) (by kernel_rfl) (fun _ _ _ h => h) (by rfl) (fun wS hSw => ?_) hHeld ?_
              rotate_left
              focus (go_simp; (try with_reducible rfl); done)
              try simp only [Act.put, List.setIfInBounds_toArray, List.set_cons_zero, List.set_cons_succ]
              refine' take_ 1 rfl (by kernel_rfl) (by kernel_rfl) (by kernel_rfl) (fun _ _ _ h => h) (by rfl) (fun wS hSw => ?_) hHeld ?_
              rotate_left
              focus (go_simp; (try with_reducible rfl); done)
              try simp only [Act.put, List.setIfInBounds_toArray, List.set_cons_zero, List.set_cons_succ]
              refine' take_ 2 rfl (by kernel_rfl) (by kernel_rfl) (by kernel_rfl) (fun _ _ _ h => h) (by rfl) (fun wS hSw => ?_) hHeld ?_
              rotate_left
              focus (go_simp; (try with_reducible rfl); done)
              try simp only [Act.put, List.setIfInBounds_toArray, List.set_cons_zero, List.set_cons_succ]
              refine' take_ 3 rfl (by kernel_rfl) (by kernel_rfl) (by kernel_rfl) (fun _ _ _ h => h) (by rfl) (fun wS hSw => ?_) hHeld ?_
              rotate_left
              focus (have q1 := (hSw.cell (World.block_lt_of_cell? _ _ hcx)).trans hcx; go_simp; (try with_reducible rfl); done)
              try simp only [Act.put, List.setIfInBounds_toArray, List.set_cons_zero, List.set_cons_succ]
              refine' take_ 4 rfl (by kernel_rfl) (by kernel_rfl) (by kernel_rfl) (fun _ _ _ h => h) (by rfl) (fun wS hSw => ?_) hHeld ?_
              rotate_left
              focus (go_simp; (try with_reducible rfl); done)
              try simp only [Act.put, List.setIfInBounds_toArray, List.set_cons_zero, List.set_cons_succ]
              refine' take_ 5 rfl (by kernel_rfl) (by kernel_rfl) (by kernel_rfl) (fun _ _ _ h => h) (by rfl) (fun wS hSw => ?_) hHeld ?_
              rotate_left
              focus (go_simp; (try with_reducible rfl); done)
              try simp only [Act.put, List.setIfInBounds_toArray, List.set_cons_zero, List.set_cons_succ]
              refine' take_ 6 rfl (by kernel_rfl) (by kernel_rfl) (by kernel_rfl) (fun _ _ _ h => h) (by rfl) (fun wS hSw => ?_) hHeld ?_
              rotate_left
              focus (go_simp; (try with_reducible rfl); done)
              try simp only [Act.put, List.setIfInBounds_toArray, List.set_cons_zero, List.set_cons_succ]
              refine' take_ 7 rfl (by kernel_rfl) (by kernel_rfl) (by kernel_rfl) (fun _ _ _ h => h) (by rfl) (fun wS hSw => ?_) hHeld ?_
              rotate_left
              focus (go_simp; (try with_reducible rfl); done)
              try simp only [Act.put, List.setIfInBounds_toArray, List.set_cons_zero, List.set_cons_succ]
              refine' take_ 8 rfl (by kernel_rfl) (by kernel_rfl) (by kernel_rfl) (fun _ _ _ h => h) (by rfl) (fun wS hSw => ?_) hHeld ?_
              rotate_left
              focus (go_simp; (try with_reducible rfl); done)
              try simp only [Act.put, List.setIfInBounds_toArray, List.set_cons_zero, List.set_cons_succ]
              refine' take_ 9 rfl (by kernel_rfl) (by kernel_rfl) (by kernel_rfl) (fun _ _ _ h => h) (by rfl) (fun wS hSw => ?_) hHeld ?_
              rotate_left
              focus (have q1 := (hSw.cell (World.block_lt_of_cell? _ _ hcx)).trans hcx; go_simp; (try with_reducible rfl); done)
              try simp only [Act.put, List.setIfInBounds_toArray, List.set_cons_zero, List.set_cons_succ]
              refine' take_ 10 rfl (by kernel_rfl) (by kernel_rfl) (by kernel_rfl) (fun _ _ _ h => h) (by rfl) (fun wS hSw => ?_) hHeld ?_
              rotate_left
              focus (go_simp; (try with_reducible rfl); done)
              try simp only [Act.put, List.setIfInBounds_toArray, List.set_cons_zero, List.set_cons_succ]
              refine' take_ 11 rfl (by kernel_rfl) (by kernel_rfl) (by kernel_rfl) (fun _ _ _ h => h) (by rfl) (fun wS hSw => ?_) hHeld ?_
              rotate_left
              focus (go_simp; (try with_reducible rfl); done)
              try simp only [Act.put, List.setIfInBounds_toArray, List.set_cons_zero, List.set_cons_succ]
              refine' take_ 12 rfl (by kernel_rfl) (by kernel_rfl) (by kernel_rfl) (fun _ _ _ h => h) (by rfl) (fun wS hSw => ?_) hHeld ?_
              rotate_left
              focus (go_simp; (try with_reducible rfl); done)
              try simp only [Act.put, List.setIfInBounds_toArray, List.set_cons_zero, List.set_cons_succ]
              refine' take_ 13 rfl (by kernel_rfl) (by kernel_rfl) (by kernel_rfl) (fun _ _ _ h => h) (by rfl) (fun wS hSw => ?_) hHeld ?_
              rotate_left
              focus (go_simp; (try with_reducible rfl); done)
              try simp only [Act.put, List.setIfInBounds_toArray, List.set_cons_zero, List.set_cons_succ]
              refine' take_ 14 rfl (by kernel_rfl) (by kernel_rfl) (by kernel_rfl) (fun _ _ _ h => h) (by rfl) (fun wS hSw => ?_) hHeld ?_
              rotate_left
              focus (go_simp; (try with_reducible rfl); done)
              try simp only [Act.put, List.setIfInBounds_toArray, List.set_cons_zero, List.set_cons_succ]
              refine' take_ 15 rfl (by kernel_rfl) (by kernel_rfl) (by kernel_rfl) (fun _ _ _ h => h) (by rfl) (fun wS hSw => ?_) hHeld ?_
              rotate_left
              focus (go_simp; (try with_reducible rfl); done)
              try simp only [Act.put, List.setIfInBounds_toArray, List.set_cons_zero, List.set_cons_succ]
              refine' pass_ 16 rfl (by kernel_rfl) (by kernel_rfl) (by kernel_rfl) (fun _ _ _ h => h) (by rfl) hHeld ?_
              try simp only [Act.put, List.setIfInBounds_toArray, List.set_cons_zero, List.set_cons_succ]
              refine' pass_ 17 rfl (by kernel_rfl) (by kernel_rfl) (by kernel_rfl) (fun _ _ _ h => h) (by rfl) hHeld ?_
              try simp only [Act.put, List.setIfInBounds_toArray, List.set_cons_zero, List.set_cons_succ]
              refine' pass_ 18 rfl (by kernel_rfl) (by kernel_rfl) (by kernel_rfl) (fun _ _ _ h => h) (by rfl) hHeld ?_
              try simp only [Act.put, List.setIfInBounds_toArray, List.set_cons_zero, List.set_cons_succ]
              refine' pass_ 19 rfl (by kernel_rfl) (by kernel_rfl) (by kernel_rfl) (fun _ _ _ h => h) (by rfl) hHeld ?_
              try simp only [Act.put, List.setIfInBounds_toArray, List.set_cons_zero, List.set_cons_succ]
              refine' pass_ 20 rfl (by kernel_rfl) (by kernel_rfl) (by kernel_rfl) (fun _ _ _ h => h) (by rfl) hHeld ?_
              try simp only [Act.put, List.setIfInBounds_toArray, List.set_cons_zero, List.set_cons_succ]
              refine' pass_ 21 rfl (by kernel_rfl) (by kernel_rfl) (by kernel_rfl) (fun _ _ _ h => h) (by rfl) hHeld ?_
              try simp only [Act.put, List.setIfInBounds_toArray, List.set_cons_zero, List.set_cons_succ]
              refine' pass_ 22 rfl (by kernel_rfl) (by kernel_rfl) (by kernel_rfl) (fun _ _ _ h => h) (by rfl) hHeld ?_
              try simp only [Act.put, List.setIfInBounds_toArray, List.set_cons_zero, List.set_cons_succ]
              refine' pass_ 23 rfl (by kernel_rfl) (by kernel_rfl) (by kernel_rfl) (fun _ _ _ h => h) (by rfl) hHeld ?_
              try simp only [Act.put, List.setIfInBounds_toArray, List.set_cons_zero, List.set_cons_succ]
              refine' pass_ 24 rfl (by kernel_rfl) (by kernel_rfl) (by kernel_rfl) (fun _ _ _ h => h) (by rfl) hHeld ?_
              try simp only [Act.put, List.setIfInBounds_toArray, List.set_cons_zero, List.set_cons_succ]
              refine' pass_ 25 rfl (by kernel_rfl) (by kernel_rfl) (by kernel_rfl) (fun _ _ _ h => h) (by rfl) hHeld ?_
              try simp only [Act.put, List.setIfInBounds_toArray, List.set_cons_zero, List.set_cons_succ]
              refine' take_ 26 rfl (by kernel_rfl) (by kernel_rfl) (by kernel_rfl) (fun _ _ _ h => h) (by rfl) (fun wS hSw => ?_) hHeld ?_
              rotate_left
              focus (go_simp; (try with_reducible rfl); done)
              try simp only [Act.put, List.setIfInBounds_toArray, List.set_cons_zero, List.set_cons_succ]
              refine' take_ 27 rfl (by kernel_rfl) (by kernel_rfl) (by kernel_rfl) (fun _ _ _ h => h) (by rfl) (fun wS hSw => ?_) hHeld ?_
              rotate_left
              focus (go_simp; (try with_reducible rfl); done)
              try simp only [Act.put, List.setIfInBounds_toArray, List.set_cons_zero, List.set_cons_succ]
              refine wpAnyH_done (by kernel_rfl) ?_ _
              refine NoPanic.normal ?_
              have HBW := Lib.hid hHeld
              clear hHeld
              have q1 := (HBW.out.cell (World.block_lt_of_cell? _ _ hcx)).trans hcx
              clear hcx
              go_wp2_with fail
              go_roundw
              case rel => exact ⟨0 + 1, by omega, by go_num, by rw [HS.out], HBQ.out.trans (HBW.out.mono HBQ.out.size)⟩
              case measure =>
                simp [intOf]
                omega
            · obtain ⟨y, hy⟩ : ∃ y, L[j1]? = some y := ⟨_, List.getElem?_eq_getElem (by omega)⟩
              have hyx := HAS.out j1 y x hy hx
              obtain ⟨a2, cc2, hA, hcy⟩ := HOQ.out.at j1 y hy
              injection hA with hA1 hA2 hA3
              injection hA1 with hA1
              subst hA1
              clear hA2 hA3
              simp only [addr_add, Nat.zero_add] at hcy
              have d4 : ¬ (x : Int) ≤ (y : Int) := by omega
              have d5 : (0 : Int) < (j1 : Int) + 1 := by omega
              have d6 : (j1 : Int) + 1 < (L.length : Int) := by omega
              have hL9 := HL9.out
              have hwj : IntKind.i64.wrap (j1 : Int) = (j1 : Int) := IntWalk.i64_in _ (by have := HL9.out; omega)
              have d8 : (0 : Int) ≤ (j1 : Int) + 1 := by omega
              have d7 : (j1 : Int) < (L.length : Int) := by omega
              clear hx hy
              go_upto_region 24 with (fail)
              refine wp_region_noPanic ?_
              refine wp_region_held_drew (S := fun Z => Below wr.heap.size wr Z) (by kernel_rfl) ((Below.refl _ wr).drew) (fun hHeld => ?_)
              refine' take_ 0 rfl (by kernel_rfl) (by kernel_rfl) (by kernel_rfl) (fun _ _ _ h => h) (by rfl) (fun wS hSw => ?_) hHeld ?_
              rotate_left
              focus (go_simp; (try with_reducible rfl); done)
              try simp only [Act.put, List.setIfInBounds_toArray, List.set_cons_zero, List.set_cons_succ]
              refine' take_ 1 rfl (by kernel_rfl) (by kernel_rfl) (by kernel_rfl) (fun _ _ _ h => h) (by rfl) (fun wS hSw => ?_) hHeld ?_
              rotate_left
              focus (go_simp; (try with_reducible rfl); done)
              try simp only [Act.put, List.setIfInBounds_toArray, List.set_cons_zero, List.set_cons_succ]
              refine' take_ 2 rfl (by kernel_rfl) (by kernel_rfl) (by kernel_rfl) (fun _ _ _ h => h) (by rfl) (fun wS hSw => ?_) hHeld ?_
              rotate_left
              focus (go_simp; (try with_reducible rfl); done)
              try simp only [Act.put, List.setIfInBounds_toArray, List.set_cons_zero, List.set_cons_succ]
              refine' take_ 3 rfl (by kernel_rfl) (by kernel_rfl) (by kernel_rfl) (fun _ _ _ h => h) (by rfl) (fun wS hSw => ?_) hHeld ?_
              rotate_left
              focus (have q1 := (hSw.cell (World.block_lt_of_cell? _ _ hcx)).trans hcx; go_simp; (try with_reducible rfl); done)
              try simp only [Act.put, List.setIfInBounds_toArray, List.set_cons_zero, List.set_cons_succ]
              refine' take_ 4 rfl (by kernel_rfl) (by kernel_rfl) (by kernel_rfl) (fun _ _ _ h => h) (by rfl) (fun wS hSw => ?_) hHeld ?_
              rotate_left
              focus (go_simp; (try with_reducible rfl); done)
              try simp only [Act.put, List.setIfInBounds_toArray, List.set_cons_zero, List.set_cons_succ]
              refine' take_ 5 rfl (by kernel_rfl) (by kernel_rfl) (by kernel_rfl) (fun _ _ _ h => h) (by rfl) (fun wS hSw => ?_) hHeld ?_
              rotate_left
              focus (go_simp; (try with_reducible rfl); done)
              try simp only [Act.put, List.setIfInBounds_toArray, List.set_cons_zero, List.set_cons_succ]
              refine' take_ 6 rfl (by kernel_rfl) (by kernel_rfl) (by kernel_rfl) (fun _ _ _ h => h) (by rfl) (fun wS hSw => ?_) hHeld ?_
              rotate_left
              focus (go_simp; (try with_reducible rfl); done)
              try simp only [Act.put, List.setIfInBounds_toArray, List.set_cons_zero, List.set_cons_succ]
              refine' take_ 7 rfl (by kernel_rfl) (by kernel_rfl) (by kernel_rfl) (fun _ _ _ h => h) (by rfl) (fun wS hSw => ?_) hHeld ?_
              rotate_left
              focus (go_simp; (try with_reducible rfl); done)
              try simp only [Act.put, List.setIfInBounds_toArray, List.set_cons_zero, List.set_cons_succ]
              refine' take_ 8 rfl (by kernel_rfl) (by kernel_rfl) (by kernel_rfl) (fun _ _ _ h => h) (by rfl) (fun wS hSw => ?_) hHeld ?_
              rotate_left
              focus (go_simp; (try with_reducible rfl); done)
              try simp only [Act.put, List.setIfInBounds_toArray, List.set_cons_zero, List.set_cons_succ]
              refine' take_ 9 rfl (by kernel_rfl) (by kernel_rfl) (by kernel_rfl) (fun _ _ _ h => h) (by rfl) (fun wS hSw => ?_) hHeld ?_
              rotate_left
              focus (have q1 := (hSw.cell (World.block_lt_of_cell? _ _ hcx)).trans hcx; go_simp; (try with_reducible rfl); done)
              try simp only [Act.put, List.setIfInBounds_toArray, List.set_cons_zero, List.set_cons_succ]
              refine' take_ 10 rfl (by kernel_rfl) (by kernel_rfl) (by kernel_rfl) (fun _ _ _ h => h) (by rfl) (fun wS hSw => ?_) hHeld ?_
              rotate_left
              focus (go_simp; (try with_reducible rfl); done)
              try simp only [Act.put, List.setIfInBounds_toArray, List.set_cons_zero, List.set_cons_succ]
              refine' take_ 11 rfl (by kernel_rfl) (by kernel_rfl) (by kernel_rfl) (fun _ _ _ h => h) (by rfl) (fun wS hSw => ?_) hHeld ?_
              rotate_left
              focus (go_simp; (try with_reducible rfl); done)
              try simp only [Act.put, List.setIfInBounds_toArray, List.set_cons_zero, List.set_cons_succ]
              refine' take_ 12 rfl (by kernel_rfl) (by kernel_rfl) (by kernel_rfl) (fun _ _ _ h => h) (by rfl) (fun wS hSw => ?_) hHeld ?_
              rotate_left
              focus (go_simp; (try with_reducible rfl); done)
              try simp only [Act.put, List.setIfInBounds_toArray, List.set_cons_zero, List.set_cons_succ]
              refine' take_ 13 rfl (by kernel_rfl) (by kernel_rfl) (by kernel_rfl) (fun _ _ _ h => h) (by rfl) (fun wS hSw => ?_) hHeld ?_
              rotate_left
              focus (go_simp; (try with_reducible rfl); done)
              try simp only [Act.put, List.setIfInBounds_toArray, List.set_cons_zero, List.set_cons_succ]
              refine' take_ 14 rfl (by kernel_rfl) (by kernel_rfl) (by kernel_rfl) (fun _ _ _ h => h) (by rfl) (fun wS hSw => ?_) hHeld ?_
              rotate_left
              focus (go_simp; (try with_reducible rfl); done)
              try simp only [Act.put, List.setIfInBounds_toArray, List.set_cons_zero, List.set_cons_succ]
              refine' take_ 15 rfl (by kernel_rfl) (by kernel_rfl) (by kernel_rfl) (fun _ _ _ h => h) (by rfl) (fun wS hSw => ?_) hHeld ?_
              rotate_left
              focus (go_simp; (try with_reducible rfl); done)
              try simp only [Act.put, List.setIfInBounds_toArray, List.set_cons_zero, List.set_cons_succ]
              refine' take_ 16 rfl (by kernel_rfl) (by kernel_rfl) (by kernel_rfl) (fun _ _ _ h => h) (by rfl) (fun wS hSw => ?_) hHeld ?_
              rotate_left
              focus (go_simp; (try with_reducible rfl); done)
              try simp only [Act.put, List.setIfInBounds_toArray, List.set_cons_zero, List.set_cons_succ]
              refine' take_ 17 rfl (by kernel_rfl) (by kernel_rfl) (by kernel_rfl) (fun _ _ _ h => h) (by rfl) (fun wS hSw => ?_) hHeld ?_
              rotate_left
              focus (go_simp; (try with_reducible rfl); done)
              try simp only [Act.put, List.setIfInBounds_toArray, List.set_cons_zero, List.set_cons_succ]
              refine' take_ 18 rfl (by kernel_rfl) (by kernel_rfl) (by kernel_rfl) (fun _ _ _ h => h) (by rfl) (fun wS hSw => ?_) hHeld ?_
              rotate_left
              focus (go_simp; (try with_reducible rfl); done)
              try simp only [Act.put, List.setIfInBounds_toArray, List.set_cons_zero, List.set_cons_succ]
              refine' take_ 19 rfl (by kernel_rfl) (by kernel_rfl) (by kernel_rfl) (fun _ _ _ h => h) (by rfl) (fun wS hSw => ?_) hHeld ?_
              rotate_left
              focus (have q1 := (hSw.cell (World.block_lt_of_cell? _ _ hcx)).trans hcx; go_simp; (try with_reducible rfl); done)
              try simp only [Act.put, List.setIfInBounds_toArray, List.set_cons_zero, List.set_cons_succ]
              refine' take_ 20 rfl (by kernel_rfl) (by kernel_rfl) (by kernel_rfl) (fun _ _ _ h => h) (by rfl) (fun wS hSw => ?_) hHeld ?_
              rotate_left
              focus (go_simp; (try with_reducible rfl); done)
              try simp only [Act.put, List.setIfInBounds_toArray, List.set_cons_zero, List.set_cons_succ]
              refine' take_ 21 rfl (by kernel_rfl) (by kernel_rfl) (by kernel_rfl) (fun _ _ _ h => h) (by rfl) (fun wS hSw => ?_) hHeld ?_
              rotate_left
              focus (go_simp; (try with_reducible rfl); done)
              try simp only [Act.put, List.setIfInBounds_toArray, List.set_cons_zero, List.set_cons_succ]
              refine' take_ 22 rfl (by kernel_rfl) (by kernel_rfl) (by kernel_rfl) (fun _ _ _ h => h) (by rfl) (fun wS hSw => ?_) hHeld ?_
              rotate_left
              focus (go_simp; (try rw [hwj]); (try with_reducible rfl); done)
              try simp only [Act.put, List.setIfInBounds_toArray, List.set_cons_zero, List.set_cons_succ]
              refine' take_ 23 rfl (by kernel_rfl) (by kernel_rfl) (by kernel_rfl) (fun _ _ _ h => h) (by rfl) (fun wS hSw => ?_) hHeld ?_
              rotate_left
              focus (go_simp; (try with_reducible rfl); done)
              try simp only [Act.put, List.setIfInBounds_toArray, List.set_cons_zero, List.set_cons_succ]
              refine' take_ 24 rfl (by kernel_rfl) (by kernel_rfl) (by kernel_rfl) (fun _ _ _ h => h) (by rfl) (fun wS hSw => ?_) hHeld ?_
              rotate_left
              focus (have q1 := (hSw.cell (World.block_lt_of_cell? _ _ hcy)).trans hcy; go_simp; (try with_reducible rfl); done)
              try simp only [Act.put, List.setIfInBounds_toArray, List.set_cons_zero, List.set_cons_succ]
              refine' take_ 25 rfl (by kernel_rfl) (by kernel_rfl) (by kernel_rfl) (fun _ _ _ h => h) (by rfl) (fun wS hSw => ?_) hHeld ?_
              rotate_left
              focus (go_simp; (try with_reducible rfl); done)
              try simp only [Act.put, List.setIfInBounds_toArray, List.set_cons_zero, List.set_cons_succ]
              refine' take_ 26 rfl (by kernel_rfl) (by kernel_rfl) (by kernel_rfl) (fun _ _ _ h => h) (by rfl) (fun wS hSw => ?_) hHeld ?_
              rotate_left
              focus (go_simp; (try with_reducible rfl); done)
              try simp only [Act.put, List.setIfInBounds_toArray, List.set_cons_zero, List.set_cons_succ]
              refine' take_ 27 rfl (by kernel_rfl) (by kernel_rfl) (by kernel_rfl) (fun _ _ _ h => h) (by rfl) (fun wS hSw => ?_) hHeld ?_
              rotate_left
              focus (go_simp; (try with_reducible rfl); done)
              try simp only [Act.put, List.setIfInBounds_toArray, List.set_cons_zero, List.set_cons_succ]
              refine wpAnyH_done (by kernel_rfl) ?_ _
              refine NoPanic.normal ?_
              have HBW := Lib.hid hHeld
              clear hHeld
              have q1 := (HBW.out.cell (World.block_lt_of_cell? _ _ hcx)).trans hcx
              clear hcx
              clear hcy
              go_wp2_with fail
              go_roundw
              case rel => exact ⟨j1 + 1 + 1, by omega, by go_num, by rw [HS.out], HBQ.out.trans (HBW.out.mono HBQ.out.size)⟩
              case measure =>
                simp [intOf]
                omega
          · obtain rfl : j = L.length := by omega
            rw [List.take_length, HOR.out]
            go_wp2_with fail
            go_ret
            exact ⟨by simp, HB5.out.trans (HBQ.out.mono HB5.out.size)⟩
end Go.Proofs.Yticeeeomhdcffaa
