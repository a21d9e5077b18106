/-
  The law WireReads: its loop. Condition: the listed variables hold what they hold; the text is shorter than 2^46 bytes.
-/
import Derived.Test.YtmmdkoomceikiaaDoorAsked2
import Derived.Test.YtmmdkoomceikiaaDoorSteps
namespace Go.Proofs.YtmmdkoomceikiaaDoor
open Go.RowKit

/-- The calls, as cells: each of two. -/
structure CallsAt (w : World) (B : Nat) (A : Option Addr) (l : List (Int × Int)) : Prop where
  none_ : A = none → l = []
  low : ∀ a, A = some a → l ≠ [] → a.block < B
  cells : ∀ a, A = some a → ∀ (j : Nat) (c : Int × Int), l[j]? = some c → w.cell? (a.add (2 * j)) = some (.int .u8 c.1) ∧ w.cell? (a.add (2 * j + 1)) = some (.int .i16 c.2)
theorem CallsAt.below {w w' : World} {B B' : Nat} {A : Option Addr} {l : List (Int × Int)} (h : CallsAt w B A l) (hb : Below B' w w') (hB : B ≤ B') : CallsAt w' B A l :=
  ⟨h.none_, h.low, fun a ha j c hx => by
    have hl := h.low a ha (fun e => by subst e; simp at hx)
    exact ⟨(hb.cell (p := a.add (2 * j)) (by rw [addr_add_block]; omega)).trans (h.cells a ha j c hx).1, (hb.cell (p := a.add (2 * j + 1)) (by rw [addr_add_block]; omega)).trans (h.cells a ha j c hx).2⟩⟩

theorem add_snd (a : Addr) (n m : Nat) : a.add (n + (m + 1)) = ⟨(a.add n).block, (a.add n).off + (m + 1), none⟩ := by
  unfold Addr.add
  by_cases h : n = 0
  · simp [h]
  · simp [h, Nat.add_assoc]
theorem CallsAt.at_ {w : World} {B : Nat} {a : Addr} {l : List (Int × Int)} (h : CallsAt w B (some a) l) (k : Nat) (c : Int × Int) (hc : l[k]? = some c) : w.cell? (a.add (k * 2)) = some (.int .u8 c.1) ∧ w.cell? ⟨(a.add (k * 2)).block, (a.add (k * 2)).off + 1, none⟩ = some (.int .i16 c.2) := by
  have := h.cells _ rfl k c hc
  rw [Nat.mul_comm 2 k, add_snd a (k * 2) 0] at this
  exact this
theorem both_start (s : ByteArray) (w : World) (hL : Laid w) : Both ((w.alloc (.cells #[.string s, .int .i64 0, .nilIface] 71)).alloc (.cells #[.string s, .int .i64 0, .int .i64 0, .int .i64 0] 30)) w.heap.size (w.heap.size + 1) s ⟨0, none⟩ := by
  have hlt := hL.lt
  have b1 : Below w.heap.size w (w.alloc (.cells #[.string s, .int .i64 0, .nilIface] 71)) := (Below.refl _ _).alloc (Nat.le_refl _) _
  have b2 := b1.alloc (o := .cells #[.string s, .int .i64 0, .int .i64 0, .int .i64 0] 30) (by simp)
  refine ⟨hL.below b2 hlt, (InS.new s w).below ((Below.refl _ _).alloc (Nat.le_refl _) _) (Nat.le_refl _), ?_, (fun c a h => by cases h), Nat.zero_le _, hlt, by omega⟩
  have := heap_alloc_new (w.alloc (.cells #[.string s, .int .i64 0, .nilIface] 71)) (.cells #[.string s, .int .i64 0, .int .i64 0, .int .i64 0] 30)
  rw [show (w.alloc (.cells #[.string s, .int .i64 0, .nilIface] 71)).heap.size = w.heap.size + 1 from by simp] at this
  exact this
theorem FltB.below {w w' : World} {fb : Nat} {c a : Int} {B : Nat} (h : FltB w fb c a) (hb : Below B w w') (hB : w.heap.size ≤ B) : FltB w' fb c a := (hb.block fb (Nat.lt_of_lt_of_le h.lt hB)).trans h
theorem ErrIs.below {w w' : World} {base : Nat} {v : Value} {F : Option (Int × Int)} {B : Nat} (h : ErrIs w base v F) (hb : Below B w w') (hB : w.heap.size ≤ B) : ErrIs w' base v F := by
  rcases F with _ | ⟨c, a⟩
  · exact h
  · obtain ⟨fb, h1, h2, h3⟩ := h
    exact ⟨fb, h1, h2, h3.below hb hB⟩
/-- 'fault', asked of just the fault that there is. -/
theorem fault_is (v : Value) (F : Option (Int × Int)) (base : Nat) (w : World) (hL : Laid w) (h : ErrIs w base v F) (hne : OkF F) :
    Calls Tryd.prog 12 #[v, .agg #[.int .i64 (fc F), .int .i64 (fa F)]] w fun e w' => e = .returned (.bool true) ∧ Below w.heap.size w w' := by
  have := fault_of v F base w hL h hne
  rcases F with _ | ⟨c, a⟩ <;> exact this
theorem endS_ok (s : ByteArray) (st : St) (h : OkF st.F) : OkF (endS s st) := by
  obtain ⟨p, F⟩ := st
  rcases F with _ | ⟨c, a⟩
  · simp only [endS]
    split
    · intro c a e
      simp only [Option.some.injEq, Prod.mk.injEq] at e
      omega
    · intro c a e; cases e
  · exact h
theorem Both.in0 {w : World} {b r : Nat} {s : ByteArray} {st : St} (h : Both w b r s st) : w.cell? ⟨b, 0, none⟩ = some (.string s) := by
  obtain ⟨f, hi, _⟩ := h.hin
  exact hi.c0
theorem Both.in1 {w : World} {b r : Nat} {s : ByteArray} {st : St} (h : Both w b r s st) : w.cell? ⟨b, 1, none⟩ = some (.int .i64 (st.p : Int)) := by
  obtain ⟨f, hi, _⟩ := h.hin
  exact hi.c1
theorem Both.ref1 {w : World} {b r : Nat} {s : ByteArray} {st : St} (h : Both w b r s st) : w.cell? ⟨r, 1, none⟩ = some (.int .i64 (st.p : Int)) := RInB.c1 (show RInB w r s st.p (fc st.F) (fa st.F) from h.href)
theorem Both.ref2 {w : World} {b r : Nat} {s : ByteArray} {st : St} (h : Both w b r s st) : w.cell? ⟨r, 2, none⟩ = some (.int .i64 (fc st.F)) := RInB.c2 (show RInB w r s st.p (fc st.F) (fa st.F) from h.href)
theorem Both.ref3 {w : World} {b r : Nat} {s : ByteArray} {st : St} (h : Both w b r s st) : w.cell? ⟨r, 3, none⟩ = some (.int .i64 (fa st.F)) := RInB.c3 (show RInB w r s st.p (fc st.F) (fa st.F) from h.href)
set_option maxRecDepth 100000 in
set_option maxHeartbeats 80000000 in
theorem reads_any (s : ByteArray) (A : Option Addr) (n c : Nat) (l : List (Int × Int)) (w : World) (hL : Laid w) (hA : CallsAt w w.heap.size A l) (hl : l.length = n) (hs : s.size ≤ 9223372036854775807) (hr : ∀ x ∈ l, -32768 ≤ x.2 ∧ x.2 ≤ 32767) :
    Calls Tryd.prog 3 #[.string s, .slice A n c] w fun e w' => e = .returned (.bool true) ∧ Below w.heap.size w w' := by
  have HL := Lib.hid hL
  have HA := Lib.hid hA
  have HR := Lib.hid hr
  have HLL := Lib.hid hl
  clear hL hA hr hl
  have hN := Lib.hid (fun s w => New_any s w)
  go_enter Tryd.func3, Tryd.ntmps3
  have ht : (s.extract 0 (min (s.size : Int) 200).toNat).size ≤ 200 := by rw [ByteArray.size_extract]; omega
  have HB := Lib.hid (both_start (s.extract 0 (min (s.size : Int) 200).toNat) w HL.out)
  go_wp2_with (go_at_call 8; refine (hN.out _ _).mono ?_; rintro e w' ⟨rfl, rfl⟩)
  generalize s.extract 0 (min (s.size : Int) 200).toNat = t at *
  have HW := Lib.hid (fun wr (hL : Laid wr) => works_any wr hL)
  have hB0 : Hid (Below w.heap.size w ((w.alloc (.cells #[.string t, .int .i64 0, .nilIface] 71)).alloc (.cells #[.string t, .int .i64 0, .int .i64 0, .int .i64 0] 30))) := Lib.hid (((Below.refl _ _).alloc (Nat.le_refl _) _).alloc (by simp) _)
  go_loopw [7] (fun i wr => ∃ (k : Nat) (st : St), k ≤ n ∧ i = .int .i64 k ∧ Both wr w.heap.size (w.heap.size + 1) t st ∧ Below w.heap.size w wr) (fun i _ => n - (intOf i).toNat)
  case atStart => exact ⟨0, _, Nat.zero_le _, rfl, HB.out, hB0.out⟩
  case round =>
    obtain ⟨k, st, hk, rfl, hb, hbw⟩ := hrel
    have HBo := Lib.hid hb
    have HBw := Lib.hid hbw
    clear hb hbw HB hB0
    by_cases hlt : k < n ∧ k < 50
    · obtain ⟨h1, h2⟩ := hlt
      obtain ⟨a, rfl⟩ : ∃ a, A = some a := by
        rcases A with _ | a
        · have := HA.out.none_ rfl
          have hz := HLL.out
          rw [this] at hz
          simp at hz
          omega
        · exact ⟨a, rfl⟩
      have hg := (HA.out.below HBw.out (Nat.le_refl _)).at_ k (l[k]'(by rw [HLL.out]; exact h1)) (List.getElem?_eq_getElem _)
      have hrng := HR.out (l[k]'(by rw [HLL.out]; exact h1)) (List.getElem_mem _)
      generalize (l[k]'(by rw [HLL.out]; exact h1)) = ck at *
      obtain ⟨c1, c2⟩ := ck
      obtain ⟨g1, g2⟩ := hg
      go_wp2_with fail
      refine wp_region_noPanic ?_
      refine wp_region_held_drew (S := fun _ => True) (by kernel_rfl) trivial (fun hHeld => ?_)
      refine' take_ 0 rfl (by kernel_rfl) (by kernel_rfl) (by kernel_rfl) (fun _ _ _ h => h) (by rfl) (fun wS hSw => ?_) hHeld ?_
      rotate_left
      focus (go_simp; (try with_reducible rfl); done)
      try simp only [Act.put, List.setIfInBounds_toArray, List.set_cons_zero, List.set_cons_succ]
      refine' take_ 1 rfl (by kernel_rfl) (by kernel_rfl) (by kernel_rfl) (fun _ _ _ h => h) (by rfl) (fun wS hSw => ?_) hHeld ?_
      rotate_left
      focus (go_simp; (try with_reducible rfl); done)
      try simp only [Act.put, List.setIfInBounds_toArray, List.set_cons_zero, List.set_cons_succ]
      refine' take_ 2 rfl (by kernel_rfl) (by kernel_rfl) (by kernel_rfl) (fun _ _ _ h => h) (by rfl) (fun wS hSw => ?_) hHeld ?_
      rotate_left
      focus (go_simp; (try with_reducible rfl); done)
      try simp only [Act.put, List.setIfInBounds_toArray, List.set_cons_zero, List.set_cons_succ]
      refine' take_ 3 rfl (by kernel_rfl) (by kernel_rfl) (by kernel_rfl) (fun _ _ _ h => h) (by rfl) (fun wS hSw => ?_) hHeld ?_
      rotate_left
      focus (go_simp; (try with_reducible rfl); done)
      try simp only [Act.put, List.setIfInBounds_toArray, List.set_cons_zero, List.set_cons_succ]
      refine' take_ 4 rfl (by kernel_rfl) (by kernel_rfl) (by kernel_rfl) (fun _ _ _ h => h) (by rfl) (fun wS hSw => ?_) hHeld ?_
      rotate_left
      focus (go_simp; (try with_reducible rfl); done)
      try simp only [Act.put, List.setIfInBounds_toArray, List.set_cons_zero, List.set_cons_succ]
      refine only_ 5 rfl (by kernel_rfl) (by rfl) (fun K hK => ?_)
      go_simp
      refine hK.out _ _ trivial (fun hHeld2 => ?_)
      clear hK K hHeld
      have hHeld := hHeld2
      clear hHeld2
      try simp only [Act.put, List.setIfInBounds_toArray, List.set_cons_zero, List.set_cons_succ]
      refine only_ 6 rfl (by kernel_rfl) (by rfl) (fun K hK => ?_)
      go_simp
      refine (asked_any _ _ t st c1 c2 _ HBo.out.drew (by omega) hrng.1 hrng.2).mono ?_
      rintro e w1 ⟨rfl, hS⟩
      obtain ⟨st1, hB1, hbl1⟩ : ∃ st1, Both w1 w.heap.size (w.heap.size + 1) t st1 ∧ Below w.heap.size w w1 := ⟨_, hS.1, HBw.out.drew.trans (hS.2 _ (Nat.le_refl _) (Nat.le_succ _) HBw.out.size)⟩
      have i0 := hB1.in0
      have i1 := hB1.in1
      have hp1 := hB1.ple
      have HB1 := Lib.hid hB1
      have L1 := Lib.hid hbl1
      have hw1 : IntKind.i64.wrap ((t.size : Int) - (st1.p : Int)) = (t.size : Int) - (st1.p : Int) := IntWalk.i64_in _ (by omega)
      clear hS hB1 hbl1 g1 g2
      refine hK.out _ _ trivial (fun hHeld2 => ?_)
      clear hK K hHeld
      have hHeld := hHeld2
      clear hHeld2
      try simp only [Act.put, List.setIfInBounds_toArray, List.set_cons_zero, List.set_cons_succ]
      refine' take_ 7 rfl (by kernel_rfl) (by kernel_rfl) (by kernel_rfl) (fun _ _ _ h => h) (by rfl) (fun wS hSw => ?_) hHeld ?_
      rotate_left
      focus (go_simp; (try with_reducible rfl); done)
      try simp only [Act.put, List.setIfInBounds_toArray, List.set_cons_zero, List.set_cons_succ]
      refine' take_ 8 rfl (by kernel_rfl) (by kernel_rfl) (by kernel_rfl) (fun _ _ _ h => h) (by rfl) (fun wS hSw => ?_) hHeld ?_
      rotate_left
      focus (go_simp; (try with_reducible rfl); done)
      try simp only [Act.put, List.setIfInBounds_toArray, List.set_cons_zero, List.set_cons_succ]
      refine turn_ (fun w' => w'.cell? ⟨w.heap.size + 1, 1, none⟩ = some (.int .i64 (st1.p : Int)) ∧ w'.cell? ⟨w.heap.size + 1, 2, none⟩ = some (.int .i64 (fc st1.F)) ∧ w'.cell? ⟨w.heap.size + 1, 3, none⟩ = some (.int .i64 (fa st1.F))) (fun _ _ => trivial) ⟨(HB1.out).ref1, (HB1.out).ref2, (HB1.out).ref3⟩ (fun hHeld2 => ?_)
      clear hHeld
      have hHeld := hHeld2
      clear hHeld2
      refine' take_ 9 rfl (by kernel_rfl) (by kernel_rfl) (by kernel_rfl) (fun _ _ _ h => h) (by rfl) (fun wS hSw => ?_) hHeld ?_
      rotate_left
      focus (obtain ⟨k1, k2, k3⟩ := hSw; go_simp; (try with_reducible rfl); done)
      try simp only [Act.put, List.setIfInBounds_toArray, List.set_cons_zero, List.set_cons_succ]
      refine' take_ 11 rfl (by kernel_rfl) (by kernel_rfl) (by kernel_rfl) (fun _ _ _ h => h) (by rfl) (fun wS hSw => ?_) hHeld ?_
      rotate_left
      focus (obtain ⟨k1, k2, k3⟩ := hSw; go_simp; (try with_reducible rfl); done)
      try simp only [Act.put, List.setIfInBounds_toArray, List.set_cons_zero, List.set_cons_succ]
      refine' take_ 12 rfl (by kernel_rfl) (by kernel_rfl) (by kernel_rfl) (fun _ _ _ h => h) (by rfl) (fun wS hSw => ?_) hHeld ?_
      rotate_left
      focus (obtain ⟨k1, k2, k3⟩ := hSw; go_simp; (try with_reducible rfl); done)
      try simp only [Act.put, List.setIfInBounds_toArray, List.set_cons_zero, List.set_cons_succ]
      refine' take_ 13 rfl (by kernel_rfl) (by kernel_rfl) (by kernel_rfl) (fun _ _ _ h => h) (by rfl) (fun wS hSw => ?_) hHeld ?_
      rotate_left
      focus (obtain ⟨k1, k2, k3⟩ := hSw; go_simp; (try with_reducible rfl); done)
      try simp only [Act.put, List.setIfInBounds_toArray, List.set_cons_zero, List.set_cons_succ]
      refine' take_ 14 rfl (by kernel_rfl) (by kernel_rfl) (by kernel_rfl) (fun _ _ _ h => h) (by rfl) (fun wS hSw => ?_) hHeld ?_
      rotate_left
      focus (obtain ⟨k1, k2, k3⟩ := hSw; go_simp; (try with_reducible rfl); done)
      try simp only [Act.put, List.setIfInBounds_toArray, List.set_cons_zero, List.set_cons_succ]
      refine only_ 10 rfl (by kernel_rfl) (by rfl) (fun K hK => ?_)
      go_simp
      refine (Place_any _ st1.p _ i1).mono ?_
      rintro e w' ⟨rfl, rfl⟩
      refine hK.out _ _ ⟨(HB1.out).ref1, (HB1.out).ref2, (HB1.out).ref3⟩ (fun hHeld2 => ?_)
      clear hK K hHeld
      have hHeld := hHeld2
      clear hHeld2
      try simp only [Act.put, List.setIfInBounds_toArray, List.set_cons_zero, List.set_cons_succ]
      refine' take_ 15 rfl (by kernel_rfl) (by kernel_rfl) (by kernel_rfl) (fun _ _ _ h => h) (by rfl) (fun wS hSw => ?_) hHeld ?_
      rotate_left
      focus (obtain ⟨k1, k2, k3⟩ := hSw; go_simp; (try with_reducible rfl); done)
      try simp only [Act.put, List.setIfInBounds_toArray, List.set_cons_zero, List.set_cons_succ]
      refine' take_ 16 rfl (by kernel_rfl) (by kernel_rfl) (by kernel_rfl) (fun _ _ _ h => h) (by rfl) (fun wS hSw => ?_) hHeld ?_
      rotate_left
      focus (obtain ⟨k1, k2, k3⟩ := hSw; go_simp; (try with_reducible rfl); done)
      try simp only [Act.put, List.setIfInBounds_toArray, List.set_cons_zero, List.set_cons_succ]
      refine' take_ 17 rfl (by kernel_rfl) (by kernel_rfl) (by kernel_rfl) (fun _ _ _ h => h) (by rfl) (fun wS hSw => ?_) hHeld ?_
      rotate_left
      focus (obtain ⟨k1, k2, k3⟩ := hSw; go_simp; (try with_reducible rfl); done)
      try simp only [Act.put, List.setIfInBounds_toArray, List.set_cons_zero, List.set_cons_succ]
      refine' take_ 18 rfl (by kernel_rfl) (by kernel_rfl) (by kernel_rfl) (fun _ _ _ h => h) (by rfl) (fun wS hSw => ?_) hHeld ?_
      rotate_left
      focus (obtain ⟨k1, k2, k3⟩ := hSw; go_simp; (try with_reducible rfl); done)
      try simp only [Act.put, List.setIfInBounds_toArray, List.set_cons_zero, List.set_cons_succ]
      refine' take_ 20 rfl (by kernel_rfl) (by kernel_rfl) (by kernel_rfl) (fun _ _ _ h => h) (by rfl) (fun wS hSw => ?_) hHeld ?_
      rotate_left
      focus (obtain ⟨k1, k2, k3⟩ := hSw; go_simp; (try with_reducible rfl); done)
      try simp only [Act.put, List.setIfInBounds_toArray, List.set_cons_zero, List.set_cons_succ]
      refine' take_ 21 rfl (by kernel_rfl) (by kernel_rfl) (by kernel_rfl) (fun _ _ _ h => h) (by rfl) (fun wS hSw => ?_) hHeld ?_
      rotate_left
      focus (obtain ⟨k1, k2, k3⟩ := hSw; go_simp; (try with_reducible rfl); done)
      try simp only [Act.put, List.setIfInBounds_toArray, List.set_cons_zero, List.set_cons_succ]
      refine' take_ 22 rfl (by kernel_rfl) (by kernel_rfl) (by kernel_rfl) (fun _ _ _ h => h) (by rfl) (fun wS hSw => ?_) hHeld ?_
      rotate_left
      focus (obtain ⟨k1, k2, k3⟩ := hSw; go_simp; (try with_reducible rfl); done)
      try simp only [Act.put, List.setIfInBounds_toArray, List.set_cons_zero, List.set_cons_succ]
      refine' take_ 23 rfl (by kernel_rfl) (by kernel_rfl) (by kernel_rfl) (fun _ _ _ h => h) (by rfl) (fun wS hSw => ?_) hHeld ?_
      rotate_left
      focus (obtain ⟨k1, k2, k3⟩ := hSw; go_simp; (try with_reducible rfl); done)
      try simp only [Act.put, List.setIfInBounds_toArray, List.set_cons_zero, List.set_cons_succ]
      refine' take_ 24 rfl (by kernel_rfl) (by kernel_rfl) (by kernel_rfl) (fun _ _ _ h => h) (by rfl) (fun wS hSw => ?_) hHeld ?_
      rotate_left
      focus (obtain ⟨k1, k2, k3⟩ := hSw; go_simp; (try with_reducible rfl); done)
      try simp only [Act.put, List.setIfInBounds_toArray, List.set_cons_zero, List.set_cons_succ]
      refine' take_ 25 rfl (by kernel_rfl) (by kernel_rfl) (by kernel_rfl) (fun _ _ _ h => h) (by rfl) (fun wS hSw => ?_) hHeld ?_
      rotate_left
      focus (obtain ⟨k1, k2, k3⟩ := hSw; go_simp; (try with_reducible rfl); done)
      try simp only [Act.put, List.setIfInBounds_toArray, List.set_cons_zero, List.set_cons_succ]
      refine' take_ 26 rfl (by kernel_rfl) (by kernel_rfl) (by kernel_rfl) (fun _ _ _ h => h) (by rfl) (fun wS hSw => ?_) hHeld ?_
      rotate_left
      focus (obtain ⟨k1, k2, k3⟩ := hSw; go_simp; (try with_reducible rfl); done)
      try simp only [Act.put, List.setIfInBounds_toArray, List.set_cons_zero, List.set_cons_succ]
      refine only_ 19 rfl (by kernel_rfl) (by rfl) (fun K hK => ?_)
      go_simp
      refine (Left_any _ st1.p t _ i0 i1 hp1 (by omega)).mono ?_
      rintro e w' ⟨rfl, n1, rfl⟩
      refine hK.out _ _ ⟨(HB1.out.drewN n1).ref1, (HB1.out.drewN n1).ref2, (HB1.out.drewN n1).ref3⟩ (fun hHeld2 => ?_)
      clear hK K hHeld
      have hHeld := hHeld2
      clear hHeld2
      try simp only [Act.put, List.setIfInBounds_toArray, List.set_cons_zero, List.set_cons_succ]
      refine' take_ 27 rfl (by kernel_rfl) (by kernel_rfl) (by kernel_rfl) (fun _ _ _ h => h) (by rfl) (fun wS hSw => ?_) hHeld ?_
      rotate_left
      focus (obtain ⟨k1, k2, k3⟩ := hSw; go_simp; (try with_reducible rfl); done)
      try simp only [Act.put, List.setIfInBounds_toArray, List.set_cons_zero, List.set_cons_succ]
      refine' take_ 28 rfl (by kernel_rfl) (by kernel_rfl) (by kernel_rfl) (fun _ _ _ h => h) (by rfl) (fun wS hSw => ?_) hHeld ?_
      rotate_left
      focus (obtain ⟨k1, k2, k3⟩ := hSw; go_simp; (try with_reducible rfl); done)
      try simp only [Act.put, List.setIfInBounds_toArray, List.set_cons_zero, List.set_cons_succ]
      refine' take_ 29 rfl (by kernel_rfl) (by kernel_rfl) (by kernel_rfl) (fun _ _ _ h => h) (by rfl) (fun wS hSw => ?_) hHeld ?_
      rotate_left
      focus (obtain ⟨k1, k2, k3⟩ := hSw; go_simp; (try with_reducible rfl); done)
      try simp only [Act.put, List.setIfInBounds_toArray, List.set_cons_zero, List.set_cons_succ]
      refine' take_ 30 rfl (by kernel_rfl) (by kernel_rfl) (by kernel_rfl) (fun _ _ _ h => h) (by rfl) (fun wS hSw => ?_) hHeld ?_
      rotate_left
      focus (obtain ⟨k1, k2, k3⟩ := hSw; go_simp; (try with_reducible rfl); done)
      try simp only [Act.put, List.setIfInBounds_toArray, List.set_cons_zero, List.set_cons_succ]
      refine' take_ 32 rfl (by kernel_rfl) (by kernel_rfl) (by kernel_rfl) (fun _ _ _ h => h) (by rfl) (fun wS hSw => ?_) hHeld ?_
      rotate_left
      focus (obtain ⟨k1, k2, k3⟩ := hSw; go_simp; (try with_reducible rfl); done)
      try simp only [Act.put, List.setIfInBounds_toArray, List.set_cons_zero, List.set_cons_succ]
      refine' take_ 33 rfl (by kernel_rfl) (by kernel_rfl) (by kernel_rfl) (fun _ _ _ h => h) (by rfl) (fun wS hSw => ?_) hHeld ?_
      rotate_left
      focus (obtain ⟨k1, k2, k3⟩ := hSw; go_simp; (try with_reducible rfl); done)
      try simp only [Act.put, List.setIfInBounds_toArray, List.set_cons_zero, List.set_cons_succ]
      refine' take_ 34 rfl (by kernel_rfl) (by kernel_rfl) (by kernel_rfl) (fun _ _ _ h => h) (by rfl) (fun wS hSw => ?_) hHeld ?_
      rotate_left
      focus (obtain ⟨k1, k2, k3⟩ := hSw; go_simp; (try with_reducible rfl); done)
      try simp only [Act.put, List.setIfInBounds_toArray, List.set_cons_zero, List.set_cons_succ]
      refine' take_ 35 rfl (by kernel_rfl) (by kernel_rfl) (by kernel_rfl) (fun _ _ _ h => h) (by rfl) (fun wS hSw => ?_) hHeld ?_
      rotate_left
      focus (obtain ⟨k1, k2, k3⟩ := hSw; go_simp; (try with_reducible rfl); done)
      try simp only [Act.put, List.setIfInBounds_toArray, List.set_cons_zero, List.set_cons_succ]
      refine only_ 31 rfl (by kernel_rfl) (by rfl) (fun K hK => ?_)
      go_simp
      refine (Err_any _ t st1.p st1.F _ (HB1.out.hin.drewN n1)).mono ?_
      rintro e w2 ⟨v1, rfl, he, hb2⟩
      have HB2 := Lib.hid ((HB1.out.drewN n1).below hb2)
      have HE := Lib.hid he
      have L2 := Lib.hid ((below_drewN L1.out n1).trans (hb2.mono L1.out.size))
      clear he hb2 i0 i1
      refine hK.out _ _ ⟨(HB2.out).ref1, (HB2.out).ref2, (HB2.out).ref3⟩ (fun hHeld2 => ?_)
      clear hK K hHeld
      have hHeld := hHeld2
      clear hHeld2
      try simp only [Act.put, List.setIfInBounds_toArray, List.set_cons_zero, List.set_cons_succ]
      refine only_ 36 rfl (by kernel_rfl) (by rfl) (fun K hK => ?_)
      go_simp
      refine (fault_is v1 st1.F _ _ HB2.out.laid HE.out HB2.out.ok).mono ?_
      rintro e w3 ⟨rfl, hb3⟩
      have HB3 := Lib.hid (HB2.out.below hb3)
      have L3 := Lib.hid (L2.out.trans (hb3.mono L2.out.size))
      clear hb3
      refine hK.out _ _ ⟨(HB3.out).ref1, (HB3.out).ref2, (HB3.out).ref3⟩ (fun hHeld2 => ?_)
      clear hK K hHeld
      have hHeld := hHeld2
      clear hHeld2
      try simp only [Act.put, List.setIfInBounds_toArray, List.set_cons_zero, List.set_cons_succ]
      refine' take_ 37 rfl (by kernel_rfl) (by kernel_rfl) (by kernel_rfl) (fun _ _ _ h => h) (by rfl) (fun wS hSw => ?_) hHeld ?_
      rotate_left
      focus (obtain ⟨k1, k2, k3⟩ := hSw; go_simp; (try with_reducible rfl); done)
      try simp only [Act.put, List.setIfInBounds_toArray, List.set_cons_zero, List.set_cons_succ]
      refine' take_ 38 rfl (by kernel_rfl) (by kernel_rfl) (by kernel_rfl) (fun _ _ _ h => h) (by rfl) (fun wS hSw => ?_) hHeld ?_
      rotate_left
      focus (obtain ⟨k1, k2, k3⟩ := hSw; go_simp; (try with_reducible rfl); done)
      try simp only [Act.put, List.setIfInBounds_toArray, List.set_cons_zero, List.set_cons_succ]
      refine' take_ 39 rfl (by kernel_rfl) (by kernel_rfl) (by kernel_rfl) (fun _ _ _ h => h) (by rfl) (fun wS hSw => ?_) hHeld ?_
      rotate_left
      focus (obtain ⟨k1, k2, k3⟩ := hSw; go_simp; (try with_reducible rfl); done)
      try simp only [Act.put, List.setIfInBounds_toArray, List.set_cons_zero, List.set_cons_succ]
      refine' take_ 40 rfl (by kernel_rfl) (by kernel_rfl) (by kernel_rfl) (fun _ _ _ h => h) (by rfl) (fun wS hSw => ?_) hHeld ?_
      rotate_left
      focus (obtain ⟨k1, k2, k3⟩ := hSw; go_simp; (try with_reducible rfl); done)
      try simp only [Act.put, List.setIfInBounds_toArray, List.set_cons_zero, List.set_cons_succ]
      refine' take_ 42 rfl (by kernel_rfl) (by kernel_rfl) (by kernel_rfl) (fun _ _ _ h => h) (by rfl) (fun wS hSw => ?_) hHeld ?_
      rotate_left
      focus (obtain ⟨k1, k2, k3⟩ := hSw; go_simp; (try with_reducible rfl); done)
      try simp only [Act.put, List.setIfInBounds_toArray, List.set_cons_zero, List.set_cons_succ]
      refine only_ 41 rfl (by kernel_rfl) (by rfl) (fun K hK => ?_)
      go_simp
      refine (End_any _ t st1 _ HB3.out.hin hp1 (by omega)).mono ?_
      rintro e w4 ⟨v2, rfl, he2, hb4⟩
      have HB4 := Lib.hid (HB3.out.below hb4)
      have HE2 := Lib.hid he2
      have L4 := Lib.hid (L3.out.trans (hb4.mono L3.out.size))
      clear he2 hb4
      refine hK.out _ _ ⟨(HB4.out).ref1, (HB4.out).ref2, (HB4.out).ref3⟩ (fun hHeld2 => ?_)
      clear hK K hHeld
      have hHeld := hHeld2
      clear hHeld2
      try simp only [Act.put, List.setIfInBounds_toArray, List.set_cons_zero, List.set_cons_succ]
      refine only_ 43 rfl (by kernel_rfl) (by rfl) (fun K hK => ?_)
      go_simp
      refine (rEnd_any _ t st1 _ HB4.out.href HB4.out.ok).mono ?_
      rintro e w5 ⟨rfl, hb5⟩
      have HB5 := Lib.hid (HB4.out.below hb5)
      have HE3 := Lib.hid (HE2.out.below hb5 (Nat.le_refl _))
      have L5 := Lib.hid (L4.out.trans (hb5.mono L4.out.size))
      clear hb5
      refine hK.out _ _ ⟨(HB5.out).ref1, (HB5.out).ref2, (HB5.out).ref3⟩ (fun hHeld2 => ?_)
      clear hK K hHeld
      have hHeld := hHeld2
      clear hHeld2
      try simp only [Act.put, List.setIfInBounds_toArray, List.set_cons_zero, List.set_cons_succ]
      refine only_ 44 rfl (by kernel_rfl) (by rfl) (fun K hK => ?_)
      go_simp
      refine (fault_is v2 (endS t st1) _ _ HB5.out.laid HE3.out (endS_ok t st1 HB5.out.ok)).mono ?_
      rintro e w6 ⟨rfl, hb6⟩
      have HB6 := Lib.hid (HB5.out.below hb6)
      have L6 := Lib.hid (L5.out.trans (hb6.mono L5.out.size))
      clear hb6
      refine hK.out _ _ ⟨(HB6.out).ref1, (HB6.out).ref2, (HB6.out).ref3⟩ (fun hHeld2 => ?_)
      clear hK K hHeld
      have hHeld := hHeld2
      clear hHeld2
      try simp only [Act.put, List.setIfInBounds_toArray, List.set_cons_zero, List.set_cons_succ]
      refine' take_ 45 rfl (by kernel_rfl) (by kernel_rfl) (by kernel_rfl) (fun _ _ _ h => h) (by rfl) (fun wS hSw => ?_) hHeld ?_
      rotate_left
      focus (obtain ⟨k1, k2, k3⟩ := hSw; go_simp; (try with_reducible rfl); done)
      try simp only [Act.put, List.setIfInBounds_toArray, List.set_cons_zero, List.set_cons_succ]
      refine' take_ 46 rfl (by kernel_rfl) (by kernel_rfl) (by kernel_rfl) (fun _ _ _ h => h) (by rfl) (fun wS hSw => ?_) hHeld ?_
      rotate_left
      focus (obtain ⟨k1, k2, k3⟩ := hSw; go_simp; (try with_reducible rfl); done)
      try simp only [Act.put, List.setIfInBounds_toArray, List.set_cons_zero, List.set_cons_succ]
      refine wpAnyH_done (by kernel_rfl) ?_ _
      refine NoPanic.normal ?_
      go_wp2_with fail
      exact ⟨⟨k + 1, st1, by omega, by go_num, HB6.out, L6.out⟩, by simp [intOf]; omega⟩
    · by_cases h1 : k < n
      · have h2 : ¬ k < 50 := fun h => hlt ⟨h1, h⟩
        clear hlt
        go_wp2_with (go_at_call 16; refine (HW.out _ HBo.out.laid).mono ?_; rintro e w1 ⟨rfl, hb1⟩)
        go_ret
        exact ⟨rfl, HBw.out.trans (hb1.mono HBw.out.size)⟩
      · clear hlt
        go_wp2_with (go_at_call 16; refine (HW.out _ HBo.out.laid).mono ?_; rintro e w1 ⟨rfl, hb1⟩)
        go_ret
        exact ⟨rfl, HBw.out.trans (hb1.mono HBw.out.size)⟩
end Go.Proofs.YtmmdkoomceikiaaDoor
