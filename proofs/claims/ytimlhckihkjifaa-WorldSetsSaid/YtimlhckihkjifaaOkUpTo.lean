/-
  The program's player takes the inputs that come by a cycle. Made by wip/genworldok8.py.
-/
import Derived.Test.YtimlhckihkjifaaOkJu
namespace Go.Proofs.Ytimlhckihkjifaa
open Go.RowKit Go.Shelf
set_option linter.unusedVariables false
set_option linter.unusedSimpArgs false
attribute [local go_sem] Oper.semAt_some
theorem name_world {P F : World → Prop} (W : World) (hF : F W) (h : ∀ X, F X → P X) : P W := h W hF
theorem four_at {Q : World → Prop} {w : World} {A B C D : Array Value} {s t u v : TypeId} (h : ∀ W, VRow W w.heap.size s A.toList → VRow W (w.heap.size + 1) t B.toList → VRow W (w.heap.size + 1 + 1) u C.toList → VRow W (w.heap.size + 1 + 1 + 1) v D.toList → W.heap.size = w.heap.size + 1 + 1 + 1 + 1 → Below w.heap.size w W → Q W) :
    Q ((((w.alloc (.cells A s)).alloc (.cells B t)).alloc (.cells C u)).alloc (.cells D v)) := by
  have e1 := VRow.al w A.toList s
  have e2 := VRow.al (w.alloc (.cells A s)) B.toList t
  have e3 := VRow.al ((w.alloc (.cells A s)).alloc (.cells B t)) C.toList u
  have e4 := VRow.al (((w.alloc (.cells A s)).alloc (.cells B t)).alloc (.cells C u)) D.toList v
  have bn : ∀ (X : World) (o : Obj), Below X.heap.size X (X.alloc o) := fun X o => (Below.refl _ _).alloc (Nat.le_refl _) _
  have b1 := bn w (.cells A s)
  have b2 := bn (w.alloc (.cells A s)) (.cells B t)
  have b3 := bn ((w.alloc (.cells A s)).alloc (.cells B t)) (.cells C u)
  have b4 := bn (((w.alloc (.cells A s)).alloc (.cells B t)).alloc (.cells C u)) (.cells D v)
  simp only [World.size_alloc] at e2 e3 e4 b2 b3 b4
  simp only [Array.toArray_toList] at e1 e2 e3 e4
  refine h _ ?_ ?_ ?_ e4 (by simp) ?_
  · exact VRow.below (VRow.below (VRow.below e1 b2 (by omega)) b3 (by omega)) b4 (by omega)
  · exact VRow.below (VRow.below e2 b3 (by omega)) b4 (by omega)
  · exact VRow.below e3 b4 (by omega)
  · exact ((b1.trans (b2.mono (by omega))).trans (b3.mono (by omega))).trans (b4.mono (by omega))
/-- Behind the j-th input. -/
def JJ (W1 : World) (D g ib : Nat) (rc : Loop) (L : List In) (A : Option Addr) (cap : Nat) (cy c : Int) (md : Bool) (j : Nat) (W : World) : Prop :=
  JU W1 D g ib rc (plc (lvF (L.take j)) A L.length cap (j : Int) cy md) (anyB c (L.take j)) W ∧ j ≤ L.length ∧ ∀ q y, q < j → L[q]? = some y → y.a ≤ c
/-- An input came too late. -/
def JZ (W1 : World) (D g ib : Nat) (rc : Loop) (L : List In) (A : Option Addr) (cap : Nat) (cy c : Int) (md : Bool) (W : World) : Prop :=
  ∃ j x, L[j]? = some x ∧ c < x.a ∧ JJ W1 D g ib { rc with state := .done, pending := some (.exit 0) } L A cap cy c md j W
theorem upt_of {L : List In} (hsc : Scr L) {c : Int} {j : Nat} (hj : j ≤ L.length) (hlo : ∀ q y, q < j → L[q]? = some y → y.a ≤ c) (hx : j = L.length ∨ ∃ x, L[j]? = some x ∧ c < x.a) : Upt L c j :=
  ⟨hj, hlo, fun q y hq hy => by
    rcases hx with rfl | ⟨x, hx, hc⟩
    · have := (List.getElem?_eq_some_iff.1 hy).1
      omega
    · rcases Nat.lt_or_ge j q with h1 | h1
      · have := (ahead_iff _ _).1 (hsc.lt h1 hx hy)
        omega
      · obtain rfl : q = j := by omega
        rw [hx] at hy
        obtain rfl : x = y := by simpa using hy
        exact hc⟩
theorem upTo_main (W1 : World) (D g ib s4 s5 : Nat) (L : List In) (A : Option Addr) (cap t : Nat) (cy c : Int) (md : Bool) (T : Nat → Prop) (hD : W1.heap.size = D) (hg : g < D) (hi : ib < D) (hgi : g ≠ ib) (h4 : s4 < D ∧ s4 ≠ g ∧ s4 ≠ ib) (h5 : s5 < D ∧ s5 ≠ g ∧ s5 ≠ ib)
    (hT : ∀ k, T k → k < D ∧ k ≠ g ∧ k ≠ ib) (hrd : RdS W1 T A L) (hcap : L.length ≤ cap) (hlen : L.length ≤ 9223372036854775807) (hsc : Scr L) (ht : t ≤ L.length) (hbf : ∀ q y, q < t → L[q]? = some y → y.a < c)
    (r4 : VRow W1 s4 22 [.slice A L.length cap]) (r5 : VRow W1 s5 3 [.int .i64 (t : Int)]) (hpl : VRow W1 g 61 (plc (lvF (L.take t)) A L.length cap (t : Int) cy md)) (hib : VRow W1 ib 4 [.bool false])
    (rc : Loop) (hst : rc.state = .ready) (hpe : rc.pending = none) {Q : Exit → Act → World → Prop} {a : Act}
    (round : ∀ j x W, L[j]? = some x → JJ W1 D g ib rc L A cap cy c md j W → YieldAt Fence.wide 1 Try.prog (D + 1) #[.agg #[.int .i64 x.a, .int .i64 x.k, .int .u8 (x.v : Int)]] W fun e W' => (e = .returned (.bool true) ∧ JJ W1 D g ib rc L A cap cy c md (j + 1) W') ∨ (e = .returned (.bool false) ∧ JZ W1 D g ib rc L A cap cy c md W'))
    (after : ∀ e, e = .normal ∨ e = .exit 0 → ∀ j W' rc', Upt L c j → JU W1 D g ib rc' (plc (lvF (L.take j)) A L.length cap (j : Int) cy md) (anyB c (L.take j)) W' → Q e { a with defers := { target := .collected D, args := #[] } :: a.defers } W') :
    CallsIn Fence.wide 2 Try.prog 38 (#[.func (.yield (D + 1)) #[] #[]] ++ #[.pointer (some ⟨s4, 0, none⟩), .pointer (some ⟨s5, 0, none⟩)]) ((W1.alloc (.deferred (some []))).alloc (.loop rc)) (AfterLoop Try.prog 2 Q a D) := by
  have hb := two_below W1 (.deferred (some [])) (.loop rc)
  rw [hD] at hb
  have e0 : anyB c (L.take t) = false := anyB_none fun x hx => by
    obtain ⟨q, hq⟩ := List.mem_iff_getElem?.1 hx
    rw [List.getElem?_take] at hq
    split at hq
    · exact hbf q x (by assumption) hq
    · cases hq
  have hJ0 : JJ W1 D g ib rc L A cap cy c md t ((W1.alloc (.deferred (some []))).alloc (.loop rc)) :=
    ⟨⟨by rw [← hD]; exact two_at0 _ _ _, by rw [← hD]; exact two_at _ _ _, fun k hk _ _ => hb.block k hk, VRow.below hpl hb hg, by rw [e0]; exact VRow.below hib hb hi, hb.os, hb.tape, hb.output⟩, ht, fun q y hq hy => by have := hbf q y hq hy; omega⟩
  refine (played_iter 1 (D + 1) s4 s5 A cap t L (fun j W => JJ W1 D g ib rc L A cap cy c md j W) (fun W => JZ W1 D g ib rc L A cap cy c md W) hcap ht hlen ?_ ?_ ?_ _ hJ0).mono ?_
  · rintro j W ⟨hj, _⟩
    exact ⟨VRow.cell (hj.row r4 h4.1 h4.2.1 h4.2.2) 0 _ rfl, VRow.cell (hj.row r5 h5.1 h5.2.1 h5.2.2) 0 _ rfl, (hj.rd hrd hT).toRd⟩
  · rintro j W W' ⟨hj, h⟩ hb
    exact ⟨hj.below hb, h⟩
  · intro j x W _ hx hj
    exact round j x W hx hj
  · rintro e W' ⟨hv, ⟨hj, hjl, hlo⟩ | ⟨j, x, hx, hc, hj, hjl, hlo⟩⟩
    · refine ⟨hv, rc, hj.l, by rw [hst]; exact fun hc => (by cases hc), ?_⟩
      split
      · exact after _ (.inl rfl) L.length _ _ (upt_of hsc hjl hlo (.inl rfl)) (hj.put hg hi _)
      · rename_i c' hc'
        rw [hpe] at hc'
        cases hc'
    · exact ⟨hv, _, hj.l, (fun hc => (by cases hc)), wpIn_exit (after _ (.inr rfl) j _ _ (upt_of hsc hjl hlo (.inr ⟨x, hx, hc⟩)) (hj.put hg hi _))⟩
theorem round_end {W1 Y : World} {D g ib : Nat} {rc : Loop} {cs : List Value} {b : Bool} {L : List In} {A : Option Addr} {cap : Nat} {cy c : Int} {md : Bool} {j : Nat} (hst : rc.state = .ready) (hpe : rc.pending = none) (hg : g < D) (hi : ib < D) (h : JU W1 D g ib { rc with state := .busy } cs b Y)
    (hc : cs = plc (lvF (L.take (j + 1))) A L.length cap ((j + 1 : Nat) : Int) cy md) (hb : b = anyB c (L.take (j + 1))) (hjl : j + 1 ≤ L.length) (hlo : ∀ q y, q < j + 1 → L[q]? = some y → y.a ≤ c) :
    Y.heap[D + 1]? = some (.loop { rc with state := .busy }) ∧ ((Ending.returned (.bool true) = .returned (.bool true) ∧ JJ W1 D g ib rc L A cap cy c md (j + 1) (Y.putObj (D + 1) (.loop { rc with state := .ready, pending := none }))) ∨ (Ending.returned (.bool true) = .returned (.bool false) ∧ JZ W1 D g ib rc L A cap cy c md (Y.putObj (D + 1) (.loop { rc with state := .ready, pending := none })))) := by
  have e : ({ rc with state := .ready, pending := none } : Loop) = rc := by
    cases rc
    simp only at hst hpe
    subst hst hpe
    rfl
  rw [e]
  refine ⟨h.l, .inl ⟨rfl, ?_, hjl, hlo⟩⟩
  rw [← hc, ← hb]
  exact h.put hg hi rc
set_option maxHeartbeats 4000000 in
set_option maxRecDepth 100000 in
theorem upTo_any (g : Nat) (A : Option Addr) (cap t : Nat) (cy : Int) (md : Bool) (L : List In) (c : Int) (T : Nat → Prop) (w : World)
    (hp : VRow w g 61 (plc (lvF (L.take t)) A L.length cap (t : Int) cy md)) (hrd : RdS w T A L) (hT : ¬ T g) (hcap : L.length ≤ cap) (hlen : L.length ≤ 9223372036854775807) (hsc : Scr L) (ht : t ≤ L.length) (hbf : ∀ q y, q < t → L[q]? = some y → y.a < c) (h0 : 1 ≤ c) (h1 : c ≤ 9223372036854775807) :
    Calls Try.prog 27 #[.pointer (some ⟨g, 0, none⟩), .int .i64 c] w fun e w' => (∃ j, Upt L c j ∧ e = .returned (nv (atL L c)) ∧ VRow w' g 61 (plc (lvF (L.take j)) A L.length cap (j : Int) cy md)) ∧ Only (fun k => k = g) w w' := by
  have HP := Lib.hid hp
  have HRD := Lib.hid hrd
  have HT := Lib.hid hT
  have HL := Lib.hid (And.intro hcap (And.intro hlen ht))
  have HSC := Lib.hid hsc
  have HBF := Lib.hid hbf
  have HC := Lib.hid (And.intro h0 h1)
  clear hp hrd hT hcap hlen hsc ht hbf h0 h1
  refine (callsIn_wide (n := 3)).1 ?_
  refine callsIn_of_wp_marks Try.func27 rfl trivial ?_ rfl
  simp only [Try.ntmps27, List.size_toArray, List.length_cons, List.length_nil, Nat.reduceAdd, Nat.reduceSub, Array.replicate_succ, Array.replicate_zero, List.push_toArray, List.append_toArray, List.nil_append, List.cons_append]
  gi_wp2
  refine four_at (Q := fun X => Code.wpIn Fence.wide 3 Try.prog _ _ _ X) ?_
  intro W0 hq0 hq1 hq2 hq3 hz hB0
  obtain ⟨p0, hp0⟩ : ∃ p, w.heap.size = p := ⟨_, rfl⟩
  obtain ⟨p1, hp1⟩ : ∃ p, w.heap.size + 1 = p := ⟨_, rfl⟩
  obtain ⟨p2, hp2⟩ : ∃ p, w.heap.size + 1 + 1 = p := ⟨_, rfl⟩
  obtain ⟨p3, hp3⟩ : ∃ p, w.heap.size + 1 + 1 + 1 = p := ⟨_, rfl⟩
  have LT := Lib.hid (VRow.lt HP.out)
  have NE : Hid (w.heap.size ≤ p0 ∧ g < p0 ∧ p0 < p1 ∧ p1 < p2 ∧ p2 < p3 ∧ p3 < W0.heap.size ∧ w.heap.size = p0) := Lib.hid (by have := LT.out; omega)
  rw [hp3] at hq3 ⊢
  rw [hp2] at hq2 ⊢
  rw [hp1] at hq1 ⊢
  rw [hp0] at hq0 ⊢
  have R0 : Hid (VRow W0 p0 29 [.pointer (some ⟨g, 0, none⟩)]) := Lib.hid hq0
  have R1 : Hid (VRow W0 p1 3 [.int .i64 c]) := Lib.hid hq1
  have R2 : Hid (VRow W0 p2 33 (nc n0)) := Lib.hid hq2
  have R3 : Hid (VRow W0 p3 4 [.bool false]) := Lib.hid hq3
  have B0 := Lib.hid hB0
  have RG : Hid (VRow W0 g 61 (plc (lvF (L.take t)) A L.length cap (t : Int) cy md)) := Lib.hid (VRow.below HP.out hB0 LT.out)
  clear hq0 hq1 hq2 hq3 hz hB0 hp0 hp1 hp2 hp3
  refine wpIn_wide.2 ?_
  refine wp_region_noPanic ?_
  refine wp_region_held_drew (S := fun X => Below W0.heap.size W0 X) (by kernel_rfl) ((Below.refl _ W0).drew) (fun hHeld => ?_)
  refine' take_ 0 rfl (by kernel_rfl) (by kernel_rfl) (by kernel_rfl) (fun _ _ _ h => h) (by rfl) (fun wS hSw => ?_) hHeld ?_
  rotate_left
  focus (have hz := VRow.cell (VRow.below R0.out hSw (VRow.lt R0.out)) 0 (.pointer (some ⟨g, 0, none⟩)) rfl; go_simp; (try with_reducible rfl); done)
  try simp only [Act.put, List.setIfInBounds_toArray, List.set_cons_zero, List.set_cons_succ]
  refine' take_ 1 rfl (by kernel_rfl) (by kernel_rfl) (by kernel_rfl) (fun _ _ _ h => h) (by rfl) (fun wS hSw => ?_) hHeld ?_
  rotate_left
  focus (go_simp; (try with_reducible rfl); done)
  try simp only [Act.put, List.setIfInBounds_toArray, List.set_cons_zero, List.set_cons_succ]
  refine' take_ 2 rfl (by kernel_rfl) (by kernel_rfl) (by kernel_rfl) (fun _ _ _ h => h) (by rfl) (fun wS hSw => ?_) hHeld ?_
  rotate_left
  focus (go_simp; (try with_reducible rfl); done)
  try simp only [Act.put, List.setIfInBounds_toArray, List.set_cons_zero, List.set_cons_succ]
  refine' take_ 3 rfl (by kernel_rfl) (by kernel_rfl) (by kernel_rfl) (fun _ _ _ h => h) (by rfl) (fun wS hSw => ?_) hHeld ?_
  rotate_left
  focus (have hz := VRow.cell (VRow.below RG.out hSw (VRow.lt RG.out)) 3 (.slice A L.length cap) rfl; go_simp; (try with_reducible rfl); done)
  try simp only [Act.put, List.setIfInBounds_toArray, List.set_cons_zero, List.set_cons_succ]
  refine' take_ 4 rfl (by kernel_rfl) (by kernel_rfl) (by kernel_rfl) (fun _ _ _ h => h) (by rfl) (fun wS hSw => ?_) hHeld ?_
  rotate_left
  focus (have hz := VRow.cell (VRow.below R0.out hSw (VRow.lt R0.out)) 0 (.pointer (some ⟨g, 0, none⟩)) rfl; go_simp; (try with_reducible rfl); done)
  try simp only [Act.put, List.setIfInBounds_toArray, List.set_cons_zero, List.set_cons_succ]
  refine' take_ 5 rfl (by kernel_rfl) (by kernel_rfl) (by kernel_rfl) (fun _ _ _ h => h) (by rfl) (fun wS hSw => ?_) hHeld ?_
  rotate_left
  focus (go_simp; (try with_reducible rfl); done)
  try simp only [Act.put, List.setIfInBounds_toArray, List.set_cons_zero, List.set_cons_succ]
  refine' take_ 6 rfl (by kernel_rfl) (by kernel_rfl) (by kernel_rfl) (fun _ _ _ h => h) (by rfl) (fun wS hSw => ?_) hHeld ?_
  rotate_left
  focus (go_simp; (try with_reducible rfl); done)
  try simp only [Act.put, List.setIfInBounds_toArray, List.set_cons_zero, List.set_cons_succ]
  refine' take_ 7 rfl (by kernel_rfl) (by kernel_rfl) (by kernel_rfl) (fun _ _ _ h => h) (by rfl) (fun wS hSw => ?_) hHeld ?_
  rotate_left
  focus (have hz := VRow.cell (VRow.below RG.out hSw (VRow.lt RG.out)) 4 (.int .i64 (t : Int)) rfl; go_simp; (try with_reducible rfl); done)
  try simp only [Act.put, List.setIfInBounds_toArray, List.set_cons_zero, List.set_cons_succ]
  refine only_ 8 rfl (by kernel_rfl) (by rfl) (fun K hK => ?_)
  obtain ⟨Y, hY⟩ : ∃ Y, W0.drew = Y := ⟨_, rfl⟩
  have hYz : Y.heap.size = W0.heap.size := by rw [← hY]; rfl
  rw [hY] at hHeld ⊢
  clear hY
  refine wp_call_any 32 _ _ rfl _ (by rfl) (by kernel_rfl) (played_any A L.length cap (t : Int) Y) (fun e Y3 hq => ?_)
  obtain ⟨rfl, rfl⟩ := hq
  refine ⟨_, rfl, ?_⟩
  have hb2 := two_below Y (.cells #[.slice A L.length cap] 22) (.cells #[.int .i64 (t : Int)] 3)
  have q4 : VRow ((Y.alloc (.cells #[.slice A L.length cap] 22)).alloc (.cells #[.int .i64 (t : Int)] 3)) Y.heap.size 22 [.slice A L.length cap] := two_at0 _ _ _
  have q5 : VRow ((Y.alloc (.cells #[.slice A L.length cap] 22)).alloc (.cells #[.int .i64 (t : Int)] 3)) (Y.heap.size + 1) 3 [.int .i64 (t : Int)] := two_at _ _ _
  have qz : ((Y.alloc (.cells #[.slice A L.length cap] 22)).alloc (.cells #[.int .i64 (t : Int)] 3)).heap.size = Y.heap.size + 1 + 1 := by simp
  obtain ⟨W1, hW1⟩ : ∃ X, (Y.alloc (.cells #[.slice A L.length cap] 22)).alloc (.cells #[.int .i64 (t : Int)] 3) = X := ⟨_, rfl⟩
  rw [hW1] at hb2 q4 q5 qz ⊢
  clear hW1
  have hH2 : Below W0.heap.size W0 W1 := hHeld.trans (hb2.mono hHeld.size)
  obtain ⟨s4, hs4⟩ : ∃ s, Y.heap.size = s := ⟨_, rfl⟩
  obtain ⟨s5, hs5⟩ : ∃ s, Y.heap.size + 1 = s := ⟨_, rfl⟩
  have NE2 : Hid (W0.heap.size = s4 ∧ s4 + 1 = s5 ∧ W1.heap.size = s5 + 1) := Lib.hid (by omega)
  rw [hs5] at q5 ⊢
  rw [hs4] at q4 ⊢
  have R4 := Lib.hid q4
  have R5 := Lib.hid q5
  have HH2 := Lib.hid hH2
  refine hK.out _ _ hH2 (fun _ => ?_)
  clear hK K hHeld hH2 hb2 q4 q5 qz hYz hs4 hs5
  show wpAnyH _ _ _ _ _ _ _ (Act.put _ (some 15) _) _
  try simp only [Act.put, List.setIfInBounds_toArray, List.set_cons_zero, List.set_cons_succ]
  refine wpAnyH_done (by kernel_rfl) ?_ _
  refine NoPanic.normal ?_
  gi_wp2
  obtain ⟨D, hD⟩ : ∃ D, W1.heap.size = D := ⟨_, rfl⟩
  have HD := Lib.hid hD
  have N3 : Hid (w.heap.size ≤ p0 ∧ g < p0 ∧ p0 < p1 ∧ p1 < p2 ∧ p2 < p3 ∧ p3 < s4 ∧ s4 < s5 ∧ s5 < D) := Lib.hid (by have h1 := NE.out; have h2 := NE2.out; omega)
  refine range_wide (n := 2) (gf := 38) (lb := #[.pointer (some ⟨s4, 0, none⟩), .pointer (some ⟨s5, 0, none⟩)]) rfl (enters_of Try.func38 (by kernel_rfl) rfl) (fun fn => ?_)
  rw [hD]
  have hn := N3.out
  refine upTo_main W1 D g p3 s4 s5 L A cap t cy c md (fun k => T k ∧ k < w.heap.size) hD (by omega) (by omega) (by omega) (by omega) (by omega) (fun k hk => by have h1 := hk.2; have h2 : k ≠ g := fun e => HT.out (by rw [← e]; exact hk.1); omega) ?rdS HL.out.1 HL.out.2.1 HSC.out HL.out.2.2 HBF.out R4.out R5.out (VRow.below RG.out HH2.out (VRow.lt RG.out)) (VRow.below R3.out HH2.out (VRow.lt R3.out)) _ rfl rfl ?rd ?af
  case rdS =>
    have hb := B0.out.trans (HH2.out.mono B0.out.size)
    exact ⟨HRD.out.len, HRD.out.ok, fun j x hj => by
      obtain ⟨a, e, h1, h2, h3⟩ := HRD.out.at_ j x hj
      exact ⟨a, e, ⟨h1, h2⟩, Nat.lt_of_lt_of_le h2 hb.size, h3.below hb (by rw [add_block]; exact h2)⟩⟩
  case rd =>
    intro j x W hx hjj
    obtain ⟨hj, hjl, hlo⟩ := hjj
    have hr0 := hj.row (VRow.below R0.out HH2.out (VRow.lt R0.out)) (by omega) (by omega) (by omega)
    have hr1 := hj.row (VRow.below R1.out HH2.out (VRow.lt R1.out)) (by omega) (by omega) (by omega)
    refine yield_wide hj.l rfl rfl ?_
    have hj2 := hj.below ((Below.refl W.heap.size W).alloc (Nat.le_refl _) (.cells #[.int .i64 x.a, .int .i64 x.k, .int .u8 (x.v : Int)] 25))
    have hl := hj2.l
    have HJ := Lib.hid hj2
    have HX := Lib.hid hx
    have HLO := Lib.hid hlo
    have HRG := Lib.hid (HSC.out.rng x (List.mem_of_getElem? hx))
    simp only [rec0] at hl ⊢
    have HL2 := Lib.hid hl
    have LWD := Lib.hid hj.ltD
    clear hl hj hj2 hx hlo
    gi_wp2
    refine ⟨HL2.out, ?_⟩
    refine name_world (P := fun X => Code.wpIn _ 1 Try.prog _ _ _ X) (F := fun X => JU W1 D g p3 _ (plc (lvF (L.take j)) A L.length cap (j : Int) cy md) (anyB c (L.take j)) X ∧ VRow X W.heap.size 25 [.int .i64 x.a, .int .i64 x.k, .int .u8 (x.v : Int)]) _ ⟨HJ.out.put (by omega) (by omega) _, (World.putObj_heap_other (Nat.ne_of_gt LWD.out)).trans (VRow.al W [.int .i64 x.a, .int .i64 x.k, .int .u8 (x.v : Int)] 25)⟩ ?_
    rintro Y ⟨hJY, hXY⟩
    have JY := Lib.hid hJY
    have XY := Lib.hid hXY
    have P0 := Lib.hid (hJY.row (VRow.below R0.out HH2.out (VRow.lt R0.out)) (by omega) (by omega) (by omega))
    have P1 := Lib.hid (hJY.row (VRow.below R1.out HH2.out (VRow.lt R1.out)) (by omega) (by omega) (by omega))
    have NXB := Lib.hid (show W.heap.size ≠ g ∧ W.heap.size ≠ p3 by have := LWD.out; omega)
    obtain ⟨xb, hxb⟩ : ∃ xb, W.heap.size = xb := ⟨_, rfl⟩
    rw [hxb] at XY NXB ⊢
    clear hJY hXY hxb HJ HL2
    have y0 := VRow.cell XY.out 0 _ rfl
    have y1 := VRow.cell P1.out 0 _ rfl
    have y2 := VRow.cell P0.out 0 _ rfl
    have y3 := VRow.cell JY.out.pl 4 (.int .i64 (j : Int)) rfl
    have yf : Y.frozen? ⟨g, 4, none⟩ = false := row_free JY.out.pl
    by_cases hxa : c < x.a
    · gi_wp2
      exact ⟨JY.out.l, .inr ⟨rfl, j, x, HX.out, hxa, JY.out.put (by omega) (by omega) _, hjl, HLO.out⟩⟩
    · have hxn : x.a ≤ c := by omega
      have hj1 : (j : Int) + 1 ≤ 9223372036854775807 := by have h1 := HL.out.2.1; have h2 := (List.getElem?_eq_some_iff.1 HX.out).1; omega
      have HXA := Lib.hid hxn
      clear y0
      have y0 := VRow.cell XY.out 0 _ rfl
      gi_wp2
      refine name_world (P := fun X => Code.wpIn _ 1 Try.prog _ _ _ X) (F := fun X => JU W1 D g p3 _ (plc (lvF (L.take j)) A L.length cap ((j : Int) + 1) cy md) (anyB c (L.take j)) X ∧ VRow X xb 25 [.int .i64 x.a, .int .i64 x.k, .int .u8 (x.v : Int)]) _ ⟨JY.out.cell (by omega) (by omega) (by omega) 4 (.int .i64 ((j : Int) + 1)), (Below.heap_setCell _ _ _ _ NXB.out.1).trans XY.out⟩ ?_
      rintro Z ⟨hJZ, hXZ⟩
      have ZJ := Lib.hid hJZ
      have ZX := Lib.hid hXZ
      have Z0 := Lib.hid (hJZ.row (VRow.below R0.out HH2.out (VRow.lt R0.out)) (by omega) (by omega) (by omega))
      obtain ⟨b, hb⟩ : ∃ b, anyB c (L.take j) = b := ⟨_, rfl⟩
      have HB := Lib.hid hb
      rw [hb] at ZJ
      clear hJZ hXZ y0 y1 y2 y3 yf JY XY P0 P1 hb
      refine region_round_held (S := fun X => VRow X p0 29 [.pointer (some ⟨g, 0, none⟩)] ∧ VRow X xb 25 [.int .i64 x.a, .int .i64 x.k, .int .u8 (x.v : Int)]) rfl (fun ⟨_, _, h⟩ => h) (by kernel_rfl) ⟨VRow.below Z0.out (Below.drewN' (Below.refl _ Z) 1) (VRow.lt Z0.out), VRow.below ZX.out (Below.drewN' (Below.refl _ Z) 1) (VRow.lt ZX.out)⟩ (fun hHeld => ?_)
      refine' take_ 0 rfl (by kernel_rfl) (by kernel_rfl) (by kernel_rfl) (fun _ _ _ h => h) (by rfl) (fun wS hSw => ?_) hHeld ?_
      rotate_left
      focus (have hz := VRow.cell hSw.1 0 _ rfl; go_simp; (try with_reducible rfl); done)
      try simp only [Act.put, List.setIfInBounds_toArray, List.set_cons_zero, List.set_cons_succ]
      refine' take_ 1 rfl (by kernel_rfl) (by kernel_rfl) (by kernel_rfl) (fun _ _ _ h => h) (by rfl) (fun wS hSw => ?_) hHeld ?_
      rotate_left
      focus (go_simp; (try with_reducible rfl); done)
      try simp only [Act.put, List.setIfInBounds_toArray, List.set_cons_zero, List.set_cons_succ]
      refine' take_ 2 rfl (by kernel_rfl) (by kernel_rfl) (by kernel_rfl) (fun _ _ _ h => h) (by rfl) (fun wS hSw => ?_) hHeld ?_
      rotate_left
      focus (go_simp; (try with_reducible rfl); done)
      try simp only [Act.put, List.setIfInBounds_toArray, List.set_cons_zero, List.set_cons_succ]
      refine' take_ 3 rfl (by kernel_rfl) (by kernel_rfl) (by kernel_rfl) (fun _ _ _ h => h) (by rfl) (fun wS hSw => run_load_v wS 25 _ xb rfl _ Try.underlying25 25 [.int .i64 x.a, .int .i64 x.k, .int .u8 (x.v : Int)] hSw.2 (by kernel_rfl) _ _ _ _ _) hHeld ?_
      try simp only [Act.put, List.setIfInBounds_toArray, List.set_cons_zero, List.set_cons_succ]
      refine only_ 4 rfl (by kernel_rfl) (by rfl) (fun K hK => ?_)
      obtain ⟨Y2, hY2⟩ : ∃ Y, Z.drew = Y := ⟨_, rfl⟩
      have JD := ZJ.out.below (Below.drewN' (Below.refl Z.heap.size Z) 1)
      rw [show Z.drewN 1 = Y2 from hY2] at JD
      rw [hY2] at hHeld ⊢
      clear hY2
      refine wp_call_any 33 _ _ rfl _ (by rfl) (by kernel_rfl) (come_any g 61 (lvF (L.take j)) [.slice A L.length cap, .int .i64 ((j : Int) + 1), .int .i64 cy, .bool md] x Y2 JD.pl HRG.out.2.2.1 HRG.out.2.2.2) (fun e Y3 hq => ?_)
      obtain ⟨⟨r, rfl⟩, hrow, honly⟩ := hq
      refine ⟨_, rfl, ?_⟩
      have hH2 := And.intro ((honly.blk p0 (VRow.lt hHeld.1) (by omega)).trans hHeld.1) ((honly.blk xb (VRow.lt hHeld.2) NXB.out.1).trans hHeld.2)
      have J3 := Lib.hid (JD.setG (by omega) (by omega) (by omega) hrow honly)
      have X3 : Hid (VRow Y3 xb 25 [.int .i64 x.a, .int .i64 x.k, .int .u8 (x.v : Int)]) := Lib.hid hH2.2
      refine hK.out _ _ hH2 (fun _ => ?_)
      clear hK K hHeld hH2 JD hrow honly
      show wpAnyH _ _ _ _ _ _ _ (Act.put _ (some 32) _) _
      try simp only [Act.put, List.setIfInBounds_toArray, List.set_cons_zero, List.set_cons_succ]
      refine wpAnyH_done (by kernel_rfl) ?_ _
      refine NoPanic.normal ?_
      have P13 := Lib.hid (J3.out.row (VRow.below R1.out HH2.out (VRow.lt R1.out)) (by omega) (by omega) (by omega))
      have y0 := VRow.cell X3.out 0 _ rfl
      have y1 := VRow.cell P13.out 0 _ rfl
      have y2 := VRow.cell X3.out 1 _ rfl
      have y3 := VRow.cell J3.out.ib 0 _ rfl
      have yf : Y3.frozen? ⟨p3, 0, none⟩ = false := row_free J3.out.ib
      have hjL : j + 1 ≤ L.length := (List.getElem?_eq_some_iff.1 HX.out).1
      have HLO3 : Hid (∀ q y, q < j + 1 → L[q]? = some y → y.a ≤ c) := Lib.hid (fun q y hq hy => by
        rcases Nat.lt_or_ge q j with h1 | h1
        · exact HLO.out q y h1 hy
        · obtain rfl : q = j := by omega
          have hx3 := HX.out
          rw [hx3] at hy
          obtain rfl : x = y := by simpa using hy
          exact HXA.out)
      have HCS : Hid (plc (comeL (lvF (L.take j)) x) A L.length cap ((j : Int) + 1) cy md = plc (lvF (L.take (j + 1))) A L.length cap ((j + 1 : Nat) : Int) cy md) := Lib.hid (by rw [lvF_on HX.out]; rfl)
      have HAB : Hid (anyB c (L.take (j + 1)) = (b || (x.k == 1 && x.a == c))) := Lib.hid (by rw [anyB_on c HX.out, HB.out])
      clear hxn hxa
      cases b
      · by_cases hk1 : x.k = 1
        · have e1 : (x.k == 1) = true := by simpa using hk1
          rw [hk1] at y2
          by_cases ha : x.a = c
          · have e2 : (x.a == c) = true := by simpa using ha
            gi_wp2
            exact round_end rfl rfl (by omega) (by omega) (J3.out.setI (by omega) (by omega) (by omega) true) HCS.out (by rw [HAB.out]; simp [e1, e2]) hjL HLO3.out
          · have e2 : (x.a == c) = false := by simpa using ha
            gi_wp2
            exact round_end rfl rfl (by omega) (by omega) (J3.out.setI (by omega) (by omega) (by omega) false) HCS.out (by rw [HAB.out]; simp [e2]) hjL HLO3.out
        · have e1 : (x.k == 1) = false := by simpa using hk1
          gi_wp2
          exact round_end rfl rfl (by omega) (by omega) (J3.out.setI (by omega) (by omega) (by omega) false) HCS.out (by rw [HAB.out]; simp [e1]) hjL HLO3.out
      · skip
        gi_wp2
        exact round_end rfl rfl (by omega) (by omega) (J3.out.setI (by omega) (by omega) (by omega) true) HCS.out (by rw [HAB.out]; simp) hjL HLO3.out
  case af =>
    intro e he j W' rc' hu hj
    have hjr := hj
    have HJ := Lib.hid hj
    have HU := Lib.hid hu
    have hr0 := hj.row (VRow.below R0.out HH2.out (VRow.lt R0.out)) (by omega) (by omega) (by omega)
    have hr2 := hj.row (VRow.below R2.out HH2.out (VRow.lt R2.out)) (by omega) (by omega) (by omega)
    have RR0 := Lib.hid hr0
    have RR2 := Lib.hid hr2
    clear hj hu hjr hr0 hr2
    obtain ⟨b, hbb⟩ : ∃ b, anyB c (L.take j) = b := ⟨_, rfl⟩
    have HNW : Hid (nowL (lvF (L.take j)) b = atL L c) := Lib.hid (by rw [← hbb]; exact at_now HSC.out HC.out.1 HU.out)
    rw [hbb] at HJ
    clear hbb
    have RR3 := Lib.hid HJ.out.ib
    rcases he with rfl | rfl
    · gi_wp2
      refine wpIn_wide.2 ?_
      refine wp_region_noPanic ?_
      refine wp_region_held_drew (S := fun X => VRow X p0 29 [.pointer (some ⟨g, 0, none⟩)] ∧ VRow X p3 4 [.bool b]) (by kernel_rfl) ⟨VRow.below RR0.out (Below.drewN' (Below.refl _ W') 1) (VRow.lt RR0.out), VRow.below RR3.out (Below.drewN' (Below.refl _ W') 1) (VRow.lt RR3.out)⟩ (fun hHeld => ?_)
      refine' take_ 0 rfl (by kernel_rfl) (by kernel_rfl) (by kernel_rfl) (fun _ _ _ h => h) (by rfl) (fun wS hSw => ?_) hHeld ?_
      rotate_left
      focus (have hz := VRow.cell hSw.1 0 _ rfl; go_simp; (try with_reducible rfl); done)
      try simp only [Act.put, List.setIfInBounds_toArray, List.set_cons_zero, List.set_cons_succ]
      refine' take_ 1 rfl (by kernel_rfl) (by kernel_rfl) (by kernel_rfl) (fun _ _ _ h => h) (by rfl) (fun wS hSw => ?_) hHeld ?_
      rotate_left
      focus (go_simp; (try with_reducible rfl); done)
      try simp only [Act.put, List.setIfInBounds_toArray, List.set_cons_zero, List.set_cons_succ]
      refine' take_ 2 rfl (by kernel_rfl) (by kernel_rfl) (by kernel_rfl) (fun _ _ _ h => h) (by rfl) (fun wS hSw => ?_) hHeld ?_
      rotate_left
      focus (go_simp; (try with_reducible rfl); done)
      try simp only [Act.put, List.setIfInBounds_toArray, List.set_cons_zero, List.set_cons_succ]
      refine' take_ 3 rfl (by kernel_rfl) (by kernel_rfl) (by kernel_rfl) (fun _ _ _ h => h) (by rfl) (fun wS hSw => ?_) hHeld ?_
      rotate_left
      focus (have hz := VRow.cell hSw.2 0 _ rfl; go_simp; (try with_reducible rfl); done)
      try simp only [Act.put, List.setIfInBounds_toArray, List.set_cons_zero, List.set_cons_succ]
      refine only_ 4 rfl (by kernel_rfl) (by rfl) (fun K hK => ?_)
      obtain ⟨Y, hY⟩ : ∃ Y, W'.drew = Y := ⟨_, rfl⟩
      have hBY : Below W'.heap.size W' Y := by rw [← hY]; exact (Below.refl _ _).drew
      rw [hY] at hHeld ⊢
      clear hY
      refine wp_call_ret 34 _ _ rfl _ (by rfl) (by kernel_rfl) _ (now_any g 61 (lvF (L.take j)) _ b Y (VRow.below HJ.out.pl hBY (VRow.lt HJ.out.pl))) (fun Y2 hB => ?_)
      have hB2 := hBY.trans (hB.mono hBY.size)
      have hH2 := And.intro (VRow.below RR0.out hB2 (VRow.lt RR0.out)) (VRow.below RR3.out hB2 (VRow.lt RR3.out))
      refine hK.out _ _ hH2 (fun _ => ?_)
      clear hK K hB hHeld
      have hHeld := hH2
      clear hH2
      show wpAnyH _ _ _ _ _ _ _ (Act.put _ (some 49) _) _
      try simp only [Act.put, List.setIfInBounds_toArray, List.set_cons_zero, List.set_cons_succ]
      refine only_ 5 rfl (by kernel_rfl) (by rfl) (fun K hK => ?_)
      refine wp_store_v 33 _ _ rfl p2 (by rfl) (nc (nowL (lvF (L.take j)) b)) (by rfl) (by kernel_rfl) (nc_one _) 33 (nc n0) (VRow.below RR2.out hB2 (VRow.lt RR2.out)) rfl (fun WZ HN HO HBz => ?_)
      have hH2 := And.intro ((HO.out p0 (by omega)).trans hHeld.1) ((HO.out p3 (by omega)).trans hHeld.2)
      have hD2 : D < W'.heap.size := by have := HJ.out.ltD; omega
      have KD : Hid (WZ.heap[D]? = some (.deferred (some []))) := Lib.hid (((HO.out D (by omega)).trans (hB2.block D hD2)).trans HJ.out.d)
      have KZ : Hid (VRow (WZ.putObj D (.deferred none)) p2 33 (nc (nowL (lvF (L.take j)) b))) := Lib.hid ((World.putObj_heap_other (by omega)).trans HN.out)
      have KG : Hid (VRow (WZ.putObj D (.deferred none)) g 61 (plc (lvF (L.take j)) A L.length cap (j : Int) cy md)) := Lib.hid (((World.putObj_heap_other (by omega)).trans (HO.out g (by omega))).trans (VRow.below HJ.out.pl hB2 (VRow.lt HJ.out.pl)))
      have KO : Hid (Only (fun k => k = g) w (WZ.putObj D (.deferred none))) := Lib.hid (by
        have hz := HJ.out.ltD
        refine ⟨?_, ?_, ?_, ?_, fun k hk hne => ?_⟩
        · exact ((((HBz.out.os.trans hB2.os).trans HJ.out.os).trans HH2.out.os).trans B0.out.os)
        · exact ((((HBz.out.tape.trans hB2.tape).trans HJ.out.tape).trans HH2.out.tape).trans B0.out.tape)
        · exact ((((HBz.out.output.trans hB2.output).trans HJ.out.output).trans HH2.out.output).trans B0.out.output)
        · have h1 := HBz.out.size
          have h2 := hB2.size
          have h3 : (WZ.putObj D (.deferred none)).heap.size = WZ.heap.size := by simp
          omega
        · have e1 : (WZ.putObj D (.deferred none)).heap[k]? = WZ.heap[k]? := World.putObj_heap_other (by omega)
          rw [e1, HO.out k (by omega), hB2.block k (by omega), HJ.out.fr k (by omega) hne (by omega), HH2.out.block k (by have := B0.out.size; omega), B0.out.block k hk])
      refine hK.out _ _ hH2 (fun _ => ?_)
      clear hK K hHeld hH2 hB2 hBY HN HO HBz
      try simp only [Act.put]
      refine wpAnyH_done (by kernel_rfl) ?_ _
      refine NoPanic.normal ?_
      gi_wp2
      refine ⟨by simp, .inl ⟨_, _, rfl, run_takeDeferred KD.out, ?_⟩⟩
      exact ⟨nv (nowL (lvF (L.take j)) b), results_c Try.results27 _ _ _ _ _ rfl (run_loadVar_v _ p2 33 _ Try.underlying33 33 (nc (nowL (lvF (L.take j)) b)) KZ.out (by kernel_rfl)), ⟨j, HU.out, by rw [HNW.out], KG.out⟩, KO.out⟩
    · gi_wp2
      refine wpIn_wide.2 ?_
      refine wp_region_noPanic ?_
      refine wp_region_held_drew (S := fun X => VRow X p0 29 [.pointer (some ⟨g, 0, none⟩)] ∧ VRow X p3 4 [.bool b]) (by kernel_rfl) ⟨VRow.below RR0.out (Below.drewN' (Below.refl _ W') 1) (VRow.lt RR0.out), VRow.below RR3.out (Below.drewN' (Below.refl _ W') 1) (VRow.lt RR3.out)⟩ (fun hHeld => ?_)
      refine' take_ 0 rfl (by kernel_rfl) (by kernel_rfl) (by kernel_rfl) (fun _ _ _ h => h) (by rfl) (fun wS hSw => ?_) hHeld ?_
      rotate_left
      focus (have hz := VRow.cell hSw.1 0 _ rfl; go_simp; (try with_reducible rfl); done)
      try simp only [Act.put, List.setIfInBounds_toArray, List.set_cons_zero, List.set_cons_succ]
      refine' take_ 1 rfl (by kernel_rfl) (by kernel_rfl) (by kernel_rfl) (fun _ _ _ h => h) (by rfl) (fun wS hSw => ?_) hHeld ?_
      rotate_left
      focus (go_simp; (try with_reducible rfl); done)
      try simp only [Act.put, List.setIfInBounds_toArray, List.set_cons_zero, List.set_cons_succ]
      refine' take_ 2 rfl (by kernel_rfl) (by kernel_rfl) (by kernel_rfl) (fun _ _ _ h => h) (by rfl) (fun wS hSw => ?_) hHeld ?_
      rotate_left
      focus (go_simp; (try with_reducible rfl); done)
      try simp only [Act.put, List.setIfInBounds_toArray, List.set_cons_zero, List.set_cons_succ]
      refine' take_ 3 rfl (by kernel_rfl) (by kernel_rfl) (by kernel_rfl) (fun _ _ _ h => h) (by rfl) (fun wS hSw => ?_) hHeld ?_
      rotate_left
      focus (have hz := VRow.cell hSw.2 0 _ rfl; go_simp; (try with_reducible rfl); done)
      try simp only [Act.put, List.setIfInBounds_toArray, List.set_cons_zero, List.set_cons_succ]
      refine only_ 4 rfl (by kernel_rfl) (by rfl) (fun K hK => ?_)
      obtain ⟨Y, hY⟩ : ∃ Y, W'.drew = Y := ⟨_, rfl⟩
      have hBY : Below W'.heap.size W' Y := by rw [← hY]; exact (Below.refl _ _).drew
      rw [hY] at hHeld ⊢
      clear hY
      refine wp_call_ret 34 _ _ rfl _ (by rfl) (by kernel_rfl) _ (now_any g 61 (lvF (L.take j)) _ b Y (VRow.below HJ.out.pl hBY (VRow.lt HJ.out.pl))) (fun Y2 hB => ?_)
      have hB2 := hBY.trans (hB.mono hBY.size)
      have hH2 := And.intro (VRow.below RR0.out hB2 (VRow.lt RR0.out)) (VRow.below RR3.out hB2 (VRow.lt RR3.out))
      refine hK.out _ _ hH2 (fun _ => ?_)
      clear hK K hB hHeld
      have hHeld := hH2
      clear hH2
      show wpAnyH _ _ _ _ _ _ _ (Act.put _ (some 49) _) _
      try simp only [Act.put, List.setIfInBounds_toArray, List.set_cons_zero, List.set_cons_succ]
      refine only_ 5 rfl (by kernel_rfl) (by rfl) (fun K hK => ?_)
      refine wp_store_v 33 _ _ rfl p2 (by rfl) (nc (nowL (lvF (L.take j)) b)) (by rfl) (by kernel_rfl) (nc_one _) 33 (nc n0) (VRow.below RR2.out hB2 (VRow.lt RR2.out)) rfl (fun WZ HN HO HBz => ?_)
      have hH2 := And.intro ((HO.out p0 (by omega)).trans hHeld.1) ((HO.out p3 (by omega)).trans hHeld.2)
      have hD2 : D < W'.heap.size := by have := HJ.out.ltD; omega
      have KD : Hid (WZ.heap[D]? = some (.deferred (some []))) := Lib.hid (((HO.out D (by omega)).trans (hB2.block D hD2)).trans HJ.out.d)
      have KZ : Hid (VRow (WZ.putObj D (.deferred none)) p2 33 (nc (nowL (lvF (L.take j)) b))) := Lib.hid ((World.putObj_heap_other (by omega)).trans HN.out)
      have KG : Hid (VRow (WZ.putObj D (.deferred none)) g 61 (plc (lvF (L.take j)) A L.length cap (j : Int) cy md)) := Lib.hid (((World.putObj_heap_other (by omega)).trans (HO.out g (by omega))).trans (VRow.below HJ.out.pl hB2 (VRow.lt HJ.out.pl)))
      have KO : Hid (Only (fun k => k = g) w (WZ.putObj D (.deferred none))) := Lib.hid (by
        have hz := HJ.out.ltD
        refine ⟨?_, ?_, ?_, ?_, fun k hk hne => ?_⟩
        · exact ((((HBz.out.os.trans hB2.os).trans HJ.out.os).trans HH2.out.os).trans B0.out.os)
        · exact ((((HBz.out.tape.trans hB2.tape).trans HJ.out.tape).trans HH2.out.tape).trans B0.out.tape)
        · exact ((((HBz.out.output.trans hB2.output).trans HJ.out.output).trans HH2.out.output).trans B0.out.output)
        · have h1 := HBz.out.size
          have h2 := hB2.size
          have h3 : (WZ.putObj D (.deferred none)).heap.size = WZ.heap.size := by simp
          omega
        · have e1 : (WZ.putObj D (.deferred none)).heap[k]? = WZ.heap[k]? := World.putObj_heap_other (by omega)
          rw [e1, HO.out k (by omega), hB2.block k (by omega), HJ.out.fr k (by omega) hne (by omega), HH2.out.block k (by have := B0.out.size; omega), B0.out.block k hk])
      refine hK.out _ _ hH2 (fun _ => ?_)
      clear hK K hHeld hH2 hB2 hBY HN HO HBz
      try simp only [Act.put]
      refine wpAnyH_done (by kernel_rfl) ?_ _
      refine NoPanic.normal ?_
      gi_wp2
      refine ⟨by simp, .inl ⟨_, _, rfl, run_takeDeferred KD.out, ?_⟩⟩
      exact ⟨nv (nowL (lvF (L.take j)) b), results_c Try.results27 _ _ _ _ _ rfl (run_loadVar_v _ p2 33 _ Try.underlying33 33 (nc (nowL (lvF (L.take j)) b)) KZ.out (by kernel_rfl)), ⟨j, HU.out, by rw [HNW.out], KG.out⟩, KO.out⟩
end Go.Proofs.Ytimlhckihkjifaa
