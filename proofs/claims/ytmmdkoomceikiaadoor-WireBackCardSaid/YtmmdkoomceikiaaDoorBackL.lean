/-
  The law WireBack: what its first loop lays. Condition: the listed variables hold what they hold; the text is shorter than 2^46 bytes.
-/
import Derived.Test.YtmmdkoomceikiaaDoorBackM2
import Derived.Test.YtmmdkoomceikiaaDoorSteps
import Derived.Test.YtmmdkoomceikiaaDoorReadsL
import Derived.Deep.DeepCutAuto
namespace Go.Proofs.YtmmdkoomceikiaaDoor
open Go.RowKit

/-- A thing: its kind, its number, its text. -/
abbrev Th := Nat × Nat × ByteArray
/-- The things, as cells: each of three. -/
structure ThingsAt (w : World) (B : Nat) (A : Option Addr) (l : List Th) : Prop where
  none_ : A = none → l = []
  low : ∀ a, A = some a → l ≠ [] → a.block < B
  cells : ∀ a, A = some a → ∀ (j : Nat) (c : Th), l[j]? = some c → w.cell? (a.add (3 * j)) = some (.int .u8 (c.1 : Int)) ∧ w.cell? (a.add (3 * j + 1)) = some (.int .u64 (c.2.1 : Int)) ∧ w.cell? (a.add (3 * j + 2)) = some (.string c.2.2)
theorem ThingsAt.below {w w' : World} {B B' : Nat} {A : Option Addr} {l : List Th} (h : ThingsAt w B A l) (hb : Below B' w w') (hB : B ≤ B') : ThingsAt w' B A l :=
  ⟨h.none_, h.low, fun a ha j c hx => by
    have hl := h.low a ha (fun e => by subst e; simp at hx)
    obtain ⟨h1, h2, h3⟩ := h.cells a ha j c hx
    exact ⟨(hb.cell (p := a.add (3 * j)) (by rw [addr_add_block]; omega)).trans h1, (hb.cell (p := a.add (3 * j + 1)) (by rw [addr_add_block]; omega)).trans h2, (hb.cell (p := a.add (3 * j + 2)) (by rw [addr_add_block]; omega)).trans h3⟩⟩
theorem ThingsAt.at_ {w : World} {B : Nat} {a : Addr} {l : List Th} (h : ThingsAt w B (some a) l) (k : Nat) (c : Th) (hc : l[k]? = some c) : w.cell? (a.add (k * 3)) = some (.int .u8 (c.1 : Int)) ∧ w.cell? ⟨(a.add (k * 3)).block, (a.add (k * 3)).off + 1, none⟩ = some (.int .u64 (c.2.1 : Int)) ∧ w.cell? ⟨(a.add (k * 3)).block, (a.add (k * 3)).off + 2, none⟩ = some (.string c.2.2) := by
  have := h.cells _ rfl k c hc
  rw [Nat.mul_comm 3 k, add_snd a (k * 3) 0, add_snd a (k * 3) 1] at this
  exact this
def tB (c : Th) : List Nat := thingB c.1 c.2.1 c.2.2
/-- All things' bytes. -/
def allB (l : List Th) : List Nat := l.flatMap tB
/-- Where the thing j begins. -/
def plc (l : List Th) (j : Nat) : Nat := (allB (l.take j)).length
/-- Where all things up to the k-th begin, and that one ends. -/
def plcs (l : List Th) (k : Nat) : List Nat := (List.range (k + 1)).map (plc l)
/-- A slice of whole numbers of one's own. -/
def OwnI (w : World) (base : Nat) (v : Value) (l : List Nat) : Prop := w.ownsRow base 3 1 v l.length (l.map fun x : Nat => .int .i64 (x : Int))
theorem thingB_len (k N : Nat) (S : ByteArray) : (thingB k N S).length ≤ 107 := by
  unfold thingB
  have h1 := fun x => (length_numB_bd x).2
  have hm : (S.extract 0 (min (S.size : Int) 99).toNat).size ≤ 99 := by rw [ByteArray.size_extract]; omega
  generalize S.extract 0 (min (S.size : Int) 99).toNat = T at *
  split
  · have := h1 N; omega
  split
  · have := h1 (zig (wrap64 N / 4)); omega
  split
  · simp
  split
  · cases (N % 2 == 1) <;> simp [truB]
  split
  · rw [List.length_append, length_sb]; have := h1 T.size; omega
  · have := h1 (N % 1000); omega
theorem thingB_lt (k N : Nat) (S : ByteArray) : ∀ x ∈ thingB k N S, x < 256 := by
  unfold thingB
  split
  · exact numB_lt _
  split
  · exact numB_lt _
  split
  · intro x hx; simp at hx; omega
  split
  · cases (N % 2 == 1) <;> simp [truB]
  split
  · exact lt_append (numB_lt _) (sb_lt _)
  · exact numB_lt _
theorem allB_lt (l : List Th) : ∀ x ∈ allB l, x < 256 := by
  intro x hx
  simp only [allB, List.mem_flatMap] at hx
  obtain ⟨c, _, hc⟩ := hx
  exact thingB_lt _ _ _ x hc
theorem allB_len (l : List Th) : (allB l).length ≤ 107 * l.length := by
  induction l with
  | nil => simp [allB]
  | cons c l ih =>
    have h1 := thingB_len c.1 c.2.1 c.2.2
    have e : allB (c :: l) = tB c ++ allB l := rfl
    rw [e, List.length_append, List.length_cons]
    have : (tB c).length ≤ 107 := h1
    omega
theorem allB_snoc (l : List Th) (k : Nat) (c : Th) (h : l[k]? = some c) : allB (l.take (k + 1)) = allB (l.take k) ++ tB c := by
  rw [List.take_add_one, h]
  simp [allB]
theorem plc_succ (l : List Th) (k : Nat) (c : Th) (h : l[k]? = some c) : plc l (k + 1) = plc l k + (tB c).length := by
  unfold plc
  rw [allB_snoc l k c h, List.length_append]
theorem plcs_succ (l : List Th) (k : Nat) : plcs l (k + 1) = plcs l k ++ [plc l (k + 1)] := by
  unfold plcs
  rw [List.range_succ, List.map_append]
  rfl
theorem plcs_len (l : List Th) (k : Nat) : (plcs l k).length = k + 1 := by simp [plcs]

theorem i64info : (Tryd.prog.info? 3).map (fun i => (i.zero, i.size, i.bytes)) = some (some (.int .i64 0), 1, 8) := by kernel_rfl

/-- What the first loop leaves. -/
structure Lays (w w' : World) (l : List Th) (k : Nat) (vb vp : Value) : Prop where
  below : Below w.heap.size w w'
  laid : Laid w'
  ownB : Own w' w.heap.size vb (allB (l.take k))
  ownP : OwnI w' w.heap.size vp (plcs l k)
  apart : ∀ g, vb.ownBlock = some g → vp.ownBlock ≠ some g

theorem own_block {w : World} {base e : Nat} {sz : Nat} {v : Value} {n : Nat} {xs : List Value} (h : w.ownsRow base e sz v n xs) {g : Nat} (hg : v.ownBlock = some g) : g < w.heap.size := (h.lt g hg).2
theorem Lays.kept {w wr w2 : World} {l : List Th} {k : Nat} {vb vp v' : Value} {X : List Nat} (h : Lays w wr l k vb vp) (ho : Onto wr w2 w.heap.size vb v' X) (o : Obj) : (w2.alloc o).ownsRow w.heap.size 3 1 vp (k + 1) ((plcs l k).map (fun x : Nat => Value.int .i64 (x : Int))) := by
  have h1 := h.ownP
  unfold OwnI at h1
  rw [plcs_len] at h1
  refine World.ownsRow.alloc (World.ownsRow.kept h1 ho.grown ?_) o
  rcases hv : vp.ownBlock with _ | g
  · exact Or.inl rfl
  · refine Or.inr (fun e => ?_)
    exact h.apart g e.symm hv
/-- One round of the first loop. -/
theorem Lays.step {w wr w2 w3 : World} (hL : Laid w) {l : List Th} {k : Nat} {c : Th} {vb vp v' vp' : Value} {o : Obj} (h : Lays w wr l k vb vp) (hk : l[k]? = some c) (ho : Onto wr w2 w.heap.size vb v' (allB (l.take k) ++ tB c))
    (hown : w3.ownsRow w.heap.size 3 1 vp' (k + 1 + 1) ((plcs l k).map (fun x : Nat => Value.int .i64 (x : Int)) ++ [Value.int .i64 ((plc l (k + 1) : Nat) : Int)])) (hg : (w2.alloc o).grownBy w3 vp.ownBlock)
    (hb : vp'.ownBlock = vp.ownBlock ∨ vp'.ownBlock = some (w2.alloc o).heap.size) : Lays w w3 l (k + 1) v' vp' := by
  have hsz := h.below.size
  have b2 : Below w.heap.size w w2 := h.below.grown ho.grown hsz (fun g hg => (h.ownB.lt g hg).1)
  have b3 : Below w.heap.size w w3 := (b2.alloc b2.size o).grown hg (Nat.le_trans b2.size (by simp)) (fun g hg => (h.ownP.lt g hg).1)
  have hap : ∀ g, v'.ownBlock = some g → vp.ownBlock ≠ some g := fun g hg hp => by
    rcases ho.block g hg with h1 | h1
    · exact h.apart g h1 hp
    · have := own_block h.ownP hp
      omega
  refine ⟨b3, ?_, ?_, ?_, ?_⟩
  · exact hL.below b3 hL.lt
  · rw [allB_snoc l k c hk]
    refine World.ownsRow.kept (World.ownsRow.alloc ho.own o) hg ?_
    rcases hv : v'.ownBlock with _ | g
    · exact Or.inl rfl
    · exact Or.inr (fun e => hap g hv e.symm)
  · unfold OwnI
    rw [plcs_succ, List.length_append, plcs_len, List.map_append]
    exact hown
  · intro g hg' hp
    rcases hb with h1 | h1
    · rw [h1] at hp
      exact hap g hg' hp
    · rw [h1] at hp
      injection hp with hp
      have := own_block ho.own hg'
      simp at hp
      omega
theorem ThingsAt.take {w : World} {B : Nat} {A : Option Addr} {l : List Th} (h : ThingsAt w B A l) (m : Nat) : ThingsAt w B A (l.take m) := by
  refine ⟨fun ha => by rw [h.none_ ha]; simp, fun a ha hl => h.low a ha (fun e => hl (by rw [e]; simp)), fun a ha j x hx => h.cells a ha j x ?_⟩
  rw [List.getElem?_take] at hx
  split at hx
  · exact hx
  · cases hx
theorem Lays.start {w w1 : World} {l : List Th} (hb : Below w.heap.size w w1) (hL : Laid w1) : Lays w (w1.alloc (.cells #[.int .i64 0] 3)) l 0 (.slice none 0 0) (.slice (some ⟨w1.heap.size, 0, none⟩) 1 1) := by
  refine ⟨hb.alloc hb.size _, hL.below ((Below.refl _ _).alloc (Nat.le_refl _) _) hL.lt, ?_, ?_, fun g hg => by cases hg⟩
  · have : allB (l.take 0) = [] := by simp [allB]
    rw [this]
    exact Own.nil_ _ _
  · have e : plcs l 0 = [0] := by simp [plcs, plc, allB, List.range_succ]
    rw [e]
    refine ⟨rfl, Or.inr ⟨w1.heap.size, 1, #[.int .i64 0], rfl, hb.size, heap_alloc_new w1 _, Nat.le_refl _, by decide, rfl, rfl⟩⟩

/-- What the places' cells hold, also later on. -/
theorem Lays.place {w wr wx : World} {L : List Th} {k gp n cp : Nat} {vb : Value} (h : Lays w wr L k vb (.slice (some ⟨gp, 0, none⟩) n cp)) (hb : Below wr.heap.size wr wx) (j : Nat) (hj : j ≤ k) : wx.cell? ⟨gp, j, none⟩ = some (.int .i64 ((plc L j : Nat) : Int)) := by
  have hlt := own_block h.ownP (g := gp) rfl
  have hc := World.ownsRow.cells h.ownP (g := gp) rfl j (.int .i64 ((plc L j : Nat) : Int)) (by simp [plcs, show j < k + 1 by omega])
  rw [show (⟨gp, 0, none⟩ : Addr).add j = ⟨gp, j, none⟩ from by unfold Addr.add; by_cases h0 : j = 0 <;> simp [h0]] at hc
  exact (hb.cell (p := ⟨gp, j, none⟩) hlt).trans hc
theorem allB_cut (L : List Th) (j : Nat) (c : Th) (h : L[j]? = some c) : allB L = allB (L.take j) ++ (tB c ++ allB (L.drop (j + 1))) := by
  obtain ⟨hj, hc⟩ := List.getElem?_eq_some_iff.1 h
  have e : L = L.take j ++ (c :: L.drop (j + 1)) := by
    rw [← hc, ← List.drop_eq_getElem_cons hj, List.take_append_drop]
  have e2 : allB L = allB (L.take j ++ (c :: L.drop (j + 1))) := congrArg allB e
  rw [e2]
  simp [allB]
theorem plc_all (L : List Th) (k : Nat) (h : L.length ≤ k) : plc L k = (allB L).length := by unfold plc; rw [List.take_of_length_le h]
theorem plc_zero (L : List Th) : plc L 0 = 0 := by simp [plc, allB]
/-- A thing of a row, the row cut anywhere behind it. -/
theorem thing_at (L : List Th) (j n : Nat) (c : Th) (h : L[j]? = some c) (hn : plc L (j + 1) ≤ n) (hn2 : n ≤ (allB L).length) : bytesAt (ofB ((allB L).take n)) (plc L j) (tB c).length = tB c ∧ plc L j + (tB c).length ≤ (ofB ((allB L).take n)).size := by
  have hs := plc_succ L j c h
  have hsz : (ofB ((allB L).take n)).size = n := by rw [ofB_size, List.length_take]; omega
  refine ⟨?_, by rw [hsz]; omega⟩
  rw [bytesAt_ofB _ (fun x hx => allB_lt L x (List.mem_of_mem_take hx)) _ _ (by rw [List.length_take]; omega), List.drop_take, List.take_take, allB_cut L j c h]
  rw [List.drop_append_of_le_length (by unfold plc; omega), show plc L j = (allB (L.take j)).length from rfl, List.drop_length, List.nil_append]
  rw [List.take_append_of_le_length (by have : plc L j = (allB (L.take j)).length := rfl; omega)]
  rw [List.take_of_length_le (by have : plc L j = (allB (L.take j)).length := rfl; omega)]
theorem thing_at_cut (L : List Th) (j n : Nat) (c : Th) (h : L[j]? = some c) (hp : plc L j ≤ n) (hn : n < plc L (j + 1)) (hn2 : n ≤ (allB L).length) : bytesAt (ofB ((allB L).take n)) (plc L j) (n - plc L j) = (tB c).take (n - plc L j) := by
  have hs := plc_succ L j c h
  have e0 : plc L j = (allB (L.take j)).length := rfl
  rw [bytesAt_ofB _ (fun x hx => allB_lt L x (List.mem_of_mem_take hx)) _ _ (by rw [List.length_take]; omega), List.drop_take, List.take_take, allB_cut L j c h]
  rw [List.drop_append_of_le_length (by omega), e0, List.drop_length, List.nil_append, List.take_append_of_le_length (by omega)]
  congr 1
  omega
theorem take_all (L : List Th) : (allB L).take (allB L).length = allB L := List.take_length
/-- How long a slice is. -/
def lenOf : Value → Nat
  | .slice _ n _ => n
  | _ => 0
theorem lenOf_own {w : World} {base : Nat} {v : Value} {l : List Nat} (h : Own w base v l) : lenOf v = l.length := by
  obtain ⟨A, cap, rfl, _⟩ := h.form
  rfl
theorem Own.drewN {w : World} {base : Nat} {v : Value} {l : List Nat} (h : Own w base v l) (n : Nat) : Own (w.drewN n) base v l := h
/-- A slice of one's own stays where an in is read. -/
theorem own_chg {w w' : World} {base b : Nat} {v : Value} {l : List Nat} {s : ByteArray} {p : Nat} {F : Option (Int × Int)} (h : Own w base v l) (hi : InS w b s p F) (hc : Chg b w w') : Own w' base v l := by
  refine ⟨h.1, ?_⟩
  rcases h.2 with h2 | ⟨g, cap, cur, hv, hg, hh, r⟩
  · exact Or.inl h2
  · obtain ⟨f, h1, _⟩ := hi
    exact Or.inr ⟨g, cap, cur, hv, hg, (hc.other (lt_of_heap hh) (h1.ne_cells hh (by decide))).trans hh, r⟩
theorem he_none {w : World} {base : Nat} {v : Value} {s : ByteArray} (h : ErrIs w base v (endS s ⟨s.size, none⟩)) : v = .nilIface := by
  have e : endS s ⟨s.size, none⟩ = none := by simp [endS]
  rw [e] at h
  exact h
theorem left_zero (b : Nat) (s : ByteArray) (w : World) (h : InS w b s s.size none) (hs : s.size ≤ 140737488355328) :
    Calls Tryd.prog 11 #[.pointer (some ⟨b, 0, none⟩)] w fun e w' => e = .returned (.int .i64 0) ∧ Below w.heap.size w w' := by
  obtain ⟨f, hi, _⟩ := h
  refine (Left_any b s.size s w hi.c0 hi.c1 (Nat.le_refl _) hs).mono fun e w' ⟨h1, k, h2⟩ => ?_
  subst h2
  rw [Int.sub_self] at h1
  exact ⟨h1, below_drewN (Below.refl _ _) k⟩
theorem conv_cut {w : World} {B : Nat} {A : Option Addr} {cap : Nat} {l : List Nat} (h : RdB w B A l) (hl : ∀ x ∈ l, x < 256) (m : Nat) (hm : m ≤ l.length) : (convert 43 9 (.slice A m cap)).run Tryd.prog w = .ok (.string (ofB (l.take m))) w := by
  have h2 : RdB w B A (l.take m) := by
    refine ⟨fun ha => by rw [h.none_ ha]; simp, fun a ha hl => h.low a ha (fun e => hl (by rw [e]; simp)), fun a ha j x hx => h.cells a ha j x ?_⟩
    rw [List.getElem?_take] at hx
    split at hx
    · exact hx
    · cases hx
  have := conv_rd w B A cap (l.take m) h2 (fun x hx => hl x (List.mem_of_mem_take hx))
  rw [show (l.take m).length = m from by rw [List.length_take]; omega] at this
  exact this
set_option maxRecDepth 100000 in
set_option maxHeartbeats 80000000 in
theorem back_all (A : Option Addr) (n c cut : Nat) (l : List Th) (s : ByteArray) (w : World) (hL : Laid w) (hA : ThingsAt w w.heap.size A l) (hl : l.length = n) (hn : n ≤ c) (hs : s.size ≤ 9223372036854775807) (hcut : cut < 65536)
    (hr : ∀ x ∈ l, x.1 < 256 ∧ x.2.1 < 18446744073709551616 ∧ x.2.2.size ≤ 9223372036854775807) :
    Calls Tryd.prog 5 #[.slice A n c, .int .u16 cut, .string s] w fun e w' => e = .returned (.bool true) ∧ Below w.heap.size w w' := by
  have hmin : (min (n : Int) 30).toNat = min n 30 := by omega
  have HL := Lib.hid hL
  have HA := Lib.hid (hA.take (min n 30))
  have HR : Hid (∀ x ∈ l.take (min n 30), x.1 < 256 ∧ x.2.1 < 18446744073709551616 ∧ x.2.2.size ≤ 9223372036854775807) := Lib.hid (fun x hx => hr x (List.mem_of_mem_take hx))
  have HLL : Hid ((l.take (min n 30)).length = min n 30) := by rw [Hid, List.length_take, hl]; omega
  have h30 : min n 30 ≤ 30 := by omega
  have HM := Lib.hid hmin
  clear hL hA hr hl hmin
  have HW := Lib.hid (works_any w HL.out)
  go_enter Tryd.func5, Tryd.ntmps5
  go_wp2_with (go_at_call 16; refine HW.out.mono ?_; rintro e w1 ⟨rfl, hb1⟩; have B1 := Lib.hid hb1; clear hb1)
  rw [HM.out]
  generalize min n 30 = m at *
  generalize l.take m = L at *
  clear HM
  have LS := Lib.hid (Lays.start (l := L) B1.out (HL.out.below B1.out HL.out.lt))
  obtain ⟨i0, hi0, hz0, hz1, hz2⟩ := info_parts i64info
  have H9 := Lib.hid hz0
  have H10 := Lib.hid hz1
  have H11 := Lib.hid hz2
  have H12 := Lib.hid hi0
  clear hz0 hz1 hz2 hi0
  go_loopw [7, 8, 9] (fun vb vp i wr => ∃ (k : Nat), k ≤ m ∧ i = .int .i64 k ∧ Lays w wr L k vb vp) (fun _ _ i _ => m - (intOf i).toNat)
  case atStart => exact ⟨0, Nat.zero_le _, rfl, LS.out⟩
  case round =>
    obtain ⟨k, hk, rfl, hla⟩ := hrel
    have HLa := Lib.hid hla
    clear hla LS B1
    by_cases hlt : k < m
    · obtain ⟨a, rfl⟩ : ∃ a, A = some a := by
        rcases A with _ | a
        · have := HA.out.none_ rfl
          have hz := HLL.out
          rw [this] at hz
          simp at hz
          omega
        · exact ⟨a, rfl⟩
      have hlk : L[k]? = some (L[k]'(by rw [HLL.out]; exact hlt)) := List.getElem?_eq_getElem _
      have hg := (HA.out.below HLa.out.below (Nat.le_refl _)).at_ k _ hlk
      have hrng := HR.out (L[k]'(by rw [HLL.out]; exact hlt)) (List.getElem_mem _)
      have hln := allB_len (L.take k)
      have hlt2 : (L.take k).length ≤ 30 := by rw [List.length_take, HLL.out]; omega
      have hpn := plc_succ L k _ hlk
      have htl := thingB_len (L[k]'(by rw [HLL.out]; exact hlt)).1 (L[k]'(by rw [HLL.out]; exact hlt)).2.1 (L[k]'(by rw [HLL.out]; exact hlt)).2.2
      generalize (L[k]'(by rw [HLL.out]; exact hlt)) = ck at *
      obtain ⟨c1, c2, c3⟩ := ck
      obtain ⟨g1, g2, g3⟩ := hg
      have HK := Lib.hid hlk
      have HPN := Lib.hid hpn
      clear hlk hpn
      obtain ⟨Ab, cb, hvb, _⟩ := HLa.out.ownB.form
      subst hvb
      have C := Lib.hid (laid_any c1 c2 c3 Ab (allB (L.take k)).length cb (allB (L.take k)) wr w.heap.size HLa.out.laid HLa.out.ownB HLa.out.below.size (by omega) hrng.2.1 hrng.2.2)
      have hk1 : k + 1 ≤ 30 := by omega
      go_wp2_with (first
        | (go_at_call 25; refine C.out.mono ?_; rintro e w2 ⟨v2, rfl, hon⟩; obtain ⟨A2, c2', hv2, _⟩ := hon.own.form; subst hv2; have hbase := (HLa.out.below.grown hon.grown HLa.out.below.size (fun g hg => (HLa.out.ownB.lt g hg).1)).size; have HON := Lib.hid hon; clear hon)
        | (at_builtin; refine wpList_append_own_at _ rfl (.tmp 39) (.tmp 42) _ rfl w.heap.size 3 i0 _ 1 8 Tryd.underlying56 H12.out H9.out H10.out H11.out rfl (by omega) _ (k + 1) _ rfl (HLa.out.kept HON.out _) ⟨w2.heap.size, 0, none⟩ 1 1 [.int .i64 ((allB (L.take k)).length + (thingB c1 c2 c3).length : Int)] rfl rfl (cell_one_new w2 _ _) (by intro u hu; simp at hu; subst hu; rfl) (by simp only [maxLen]; omega) (by omega) (by simp; omega) ?_; intro v3 w3 hown3 hg3 _ hblk3; have O3 := Lib.hid hown3; have G3 := Lib.hid hg3; have B3 := Lib.hid hblk3; clear hown3 hg3 hblk3))
      have hon := HON.out
      rw [List.length_append] at hon
      have hO3 := O3.out
      rw [show ((allB (L.take k)).length : Int) + ((thingB c1 c2 c3).length : Int) = ((plc L (k + 1) : Nat) : Int) from by rw [HPN.out]; simp only [plc, tB]; omega] at hO3
      exact ⟨⟨k + 1, by omega, by go_num, Lays.step HL.out HLa.out HK.out hon hO3 G3.out B3.out⟩, by simp [intOf]; omega⟩
    · obtain rfl : k = m := by omega
      obtain ⟨wo, rfl⟩ : ∃ wo : World, wo = wr := ⟨_, rfl⟩
      obtain ⟨Ab, cb, hvb, hcap, _, _, hrd, _⟩ := HLa.out.ownB.form
      have hLk : L.take k = L := by rw [List.take_of_length_le]; rw [HLL.out]; exact Nat.le_refl _
      rw [hLk] at hrd hvb hcap
      subst hvb
      have hcv := conv_rd wo _ Ab cb (allB L) hrd (allB_lt L)
      have HN := Lib.hid (New_any (ofB (allB L)) wo)
      have hln := allB_len L
      rw [HLL.out] at hln
      have HRD := Lib.hid hrd
      clear hlt hrd
      go_wp2_with (go_at_call 8; refine HN.out.mono ?_; rintro e w2 ⟨rfl, rfl⟩; clear hcv)
      obtain ⟨gp, cp, hvp, _⟩ := World.ownsRow.form HLa.out.ownP (by rw [plcs_len]; omega)
      rw [plcs_len] at hvp
      subst hvp
      have hk30 := h30
      go_loopw [11] (fun i wx => ∃ (j : Nat), j ≤ k ∧ i = .int .i64 j ∧ InS wx wo.heap.size (ofB (allB L)) (plc L j) none ∧ Below wo.heap.size wo wx) (fun i _ => k - (intOf i).toNat)
      case atStart => exact ⟨0, Nat.zero_le _, rfl, by rw [plc_zero]; exact InS.new _ _, (Below.refl _ _).alloc (Nat.le_refl _) _⟩
      case round =>
        obtain ⟨j, hj, rfl, hix, hbx⟩ := hrel
        by_cases hlt : j < k
        · obtain ⟨a, rfl⟩ : ∃ a, A = some a := by
            rcases A with _ | a
            · have := HA.out.none_ rfl
              have hz := HLL.out
              rw [this] at hz
              simp at hz
              omega
            · exact ⟨a, rfl⟩
          have hlk : L[j]? = some (L[j]'(by rw [HLL.out]; exact hlt)) := List.getElem?_eq_getElem _
          have hrng := HR.out (L[j]'(by rw [HLL.out]; exact hlt)) (List.getElem_mem _)
          have hps := plc_succ L j _ hlk
          have hta := thing_at L j (allB L).length _ hlk (by have := allB_cut L j _ hlk; have e := congrArg List.length this; simp only [List.length_append] at e; have e0 : plc L j = (allB (L.take j)).length := rfl; omega) (Nat.le_refl _)
          rw [take_all] at hta
          have TB := Lib.hid (thing_back (ofB (allB L)) (plc L j) _ _ _ hta.2 hta.1)
          have hpj : plc L j ≤ (allB L).length := by have := hta.2; rw [ofB_size] at this; omega
          have hg := fun (wy : World) (hy : Below wo.heap.size wo wy) => (HA.out.below (HLa.out.below.trans (hy.mono HLa.out.below.size)) (Nat.le_refl _)).at_ j _ hlk
          generalize (L[j]'(by rw [HLL.out]; exact hlt)) = ck at *
          obtain ⟨c1, c2, c3⟩ := ck
          rw [show (thingB (c1, c2, c3).1 (c1, c2, c3).2.1 (c1, c2, c3).2.2) = tB (c1, c2, c3) from rfl, ← hps] at TB
          have HS : Hid (∀ wy : World, Below wo.heap.size wo wy → wy.cell? ⟨gp, j, none⟩ = some (.int .i64 ((plc L j : Nat) : Int)) ∧ wy.cell? (a.add (j * 3)) = some (.int .u8 (c1 : Int)) ∧ wy.cell? ⟨(a.add (j * 3)).block, (a.add (j * 3)).off + 1, none⟩ = some (.int .u64 (c2 : Int)) ∧ wy.cell? ⟨(a.add (j * 3)).block, (a.add (j * 3)).off + 2, none⟩ = some (.string c3)) := Lib.hid (fun wy hy => ⟨HLa.out.place hy j (by omega), hg wy hy⟩)
          have HK := Lib.hid hlk
          have BX := Lib.hid hbx
          have IX := Lib.hid (hix.drewN 1)
          have LX := Lib.hid (HLa.out.laid.below hbx HLa.out.laid.lt)
          have i1 : wr.drew.cell? ⟨wo.heap.size, 1, none⟩ = some (.int .i64 ((plc L j : Nat) : Int)) := by obtain ⟨f, hf, _⟩ := hix.drewN 1; exact hf.c1
          have hj2 : (j : Int) < (k : Int) + 1 := by omega
          clear hlk hps hta hg hbx hix
          go_wp2_with fail
          refine wp_region_noPanic ?_
          refine wp_region_held_drew (S := (fun w' => w'.cell? ⟨gp, j, none⟩ = some (.int .i64 ((plc L j : Nat) : Int)) ∧ w'.cell? (a.add (j * 3)) = some (.int .u8 (c1 : Int)) ∧ w'.cell? ⟨(a.add (j * 3)).block, (a.add (j * 3)).off + 1, none⟩ = some (.int .u64 (c2 : Int)) ∧ w'.cell? ⟨(a.add (j * 3)).block, (a.add (j * 3)).off + 2, none⟩ = some (.string c3))) (by kernel_rfl) (HS.out _ BX.out.drew) (fun hHeld => ?_)
          refine' take_ 0 rfl (by kernel_rfl) (by kernel_rfl) (by kernel_rfl) (fun _ _ _ h => h) (by rfl) (fun wS hSw => ?_) hHeld ?_
          rotate_left
          focus (obtain ⟨k1, k2, k3, k4⟩ := hSw; go_simp; (try with_reducible rfl); done)
          try simp only [Act.put, List.setIfInBounds_toArray, List.set_cons_zero, List.set_cons_succ]
          refine' take_ 2 rfl (by kernel_rfl) (by kernel_rfl) (by kernel_rfl) (fun _ _ _ h => h) (by rfl) (fun wS hSw => ?_) hHeld ?_
          rotate_left
          focus (obtain ⟨k1, k2, k3, k4⟩ := hSw; go_simp; (try with_reducible rfl); done)
          try simp only [Act.put, List.setIfInBounds_toArray, List.set_cons_zero, List.set_cons_succ]
          refine' take_ 3 rfl (by kernel_rfl) (by kernel_rfl) (by kernel_rfl) (fun _ _ _ h => h) (by rfl) (fun wS hSw => ?_) hHeld ?_
          rotate_left
          focus (obtain ⟨k1, k2, k3, k4⟩ := hSw; go_simp; (try with_reducible rfl); done)
          try simp only [Act.put, List.setIfInBounds_toArray, List.set_cons_zero, List.set_cons_succ]
          refine' take_ 4 rfl (by kernel_rfl) (by kernel_rfl) (by kernel_rfl) (fun _ _ _ h => h) (by rfl) (fun wS hSw => ?_) hHeld ?_
          rotate_left
          focus (obtain ⟨k1, k2, k3, k4⟩ := hSw; go_simp; (try with_reducible rfl); done)
          try simp only [Act.put, List.setIfInBounds_toArray, List.set_cons_zero, List.set_cons_succ]
          refine' take_ 5 rfl (by kernel_rfl) (by kernel_rfl) (by kernel_rfl) (fun _ _ _ h => h) (by rfl) (fun wS hSw => ?_) hHeld ?_
          rotate_left
          focus (obtain ⟨k1, k2, k3, k4⟩ := hSw; go_simp; (try with_reducible rfl); done)
          try simp only [Act.put, List.setIfInBounds_toArray, List.set_cons_zero, List.set_cons_succ]
          refine only_ 1 rfl (by kernel_rfl) (by rfl) (fun K hK => ?_)
          go_simp
          refine (Place_any _ (plc L j) _ i1).mono ?_
          rintro e w' ⟨rfl, rfl⟩
          refine hK.out _ _ (HS.out _ BX.out.drew) (fun hHeld2 => ?_)
          clear hK K hHeld
          have hHeld := hHeld2
          clear hHeld2
          try simp only [Act.put, List.setIfInBounds_toArray, List.set_cons_zero, List.set_cons_succ]
          refine' take_ 6 rfl (by kernel_rfl) (by kernel_rfl) (by kernel_rfl) (fun _ _ _ h => h) (by rfl) (fun wS hSw => ?_) hHeld ?_
          rotate_left
          focus (obtain ⟨k1, k2, k3, k4⟩ := hSw; go_simp; (try with_reducible rfl); done)
          try simp only [Act.put, List.setIfInBounds_toArray, List.set_cons_zero, List.set_cons_succ]
          refine' take_ 7 rfl (by kernel_rfl) (by kernel_rfl) (by kernel_rfl) (fun _ _ _ h => h) (by rfl) (fun wS hSw => ?_) hHeld ?_
          rotate_left
          focus (obtain ⟨k1, k2, k3, k4⟩ := hSw; go_simp; (try with_reducible rfl); done)
          try simp only [Act.put, List.setIfInBounds_toArray, List.set_cons_zero, List.set_cons_succ]
          refine' take_ 8 rfl (by kernel_rfl) (by kernel_rfl) (by kernel_rfl) (fun _ _ _ h => h) (by rfl) (fun wS hSw => ?_) hHeld ?_
          rotate_left
          focus (obtain ⟨k1, k2, k3, k4⟩ := hSw; go_simp; (try with_reducible rfl); done)
          try simp only [Act.put, List.setIfInBounds_toArray, List.set_cons_zero, List.set_cons_succ]
          refine' take_ 9 rfl (by kernel_rfl) (by kernel_rfl) (by kernel_rfl) (fun _ _ _ h => h) (by rfl) (fun wS hSw => ?_) hHeld ?_
          rotate_left
          focus (obtain ⟨k1, k2, k3, k4⟩ := hSw; go_simp; (try with_reducible rfl); done)
          try simp only [Act.put, List.setIfInBounds_toArray, List.set_cons_zero, List.set_cons_succ]
          refine' take_ 10 rfl (by kernel_rfl) (by kernel_rfl) (by kernel_rfl) (fun _ _ _ h => h) (by rfl) (fun wS hSw => ?_) hHeld ?_
          rotate_left
          focus (obtain ⟨k1, k2, k3, k4⟩ := hSw; go_simp; (try with_reducible rfl); done)
          try simp only [Act.put, List.setIfInBounds_toArray, List.set_cons_zero, List.set_cons_succ]
          refine' take_ 11 rfl (by kernel_rfl) (by kernel_rfl) (by kernel_rfl) (fun _ _ _ h => h) (by rfl) (fun wS hSw => ?_) hHeld ?_
          rotate_left
          focus (obtain ⟨k1, k2, k3, k4⟩ := hSw; go_simp; (try with_reducible rfl); done)
          try simp only [Act.put, List.setIfInBounds_toArray, List.set_cons_zero, List.set_cons_succ]
          refine' take_ 12 rfl (by kernel_rfl) (by kernel_rfl) (by kernel_rfl) (fun _ _ _ h => h) (by rfl) (fun wS hSw => ?_) hHeld ?_
          rotate_left
          focus (obtain ⟨k1, k2, k3, k4⟩ := hSw; go_simp; (try with_reducible rfl); done)
          try simp only [Act.put, List.setIfInBounds_toArray, List.set_cons_zero, List.set_cons_succ]
          refine only_ 13 rfl (by kernel_rfl) (by rfl) (fun K hK => ?_)
          go_simp
          refine (back_any c1 c2 c3 wo.heap.size (ofB (allB L)) ⟨plc L j, none⟩ _ (LX.out.drewN 1) IX.out (by rw [ofB_size]; exact hpj) (by rw [ofB_size]; omega) hrng.2.2).mono ?_
          rintro e w3 ⟨tt, rfl, hok, hi3, hch3⟩
          obtain rfl : tt = true := hok TB.out.1
          rw [TB.out.2] at hi3
          have I3 := Lib.hid hi3
          have B3 := Lib.hid (BX.out.drew.trans (hch3.below (Nat.le_refl _) (by have := BX.out.size; simpa using this)))
          clear hi3 hch3 hok
          refine hK.out _ _ (HS.out _ B3.out) (fun hHeld2 => ?_)
          clear hK K hHeld
          have hHeld := hHeld2
          clear hHeld2
          try simp only [Act.put, List.setIfInBounds_toArray, List.set_cons_zero, List.set_cons_succ]
          refine' take_ 14 rfl (by kernel_rfl) (by kernel_rfl) (by kernel_rfl) (fun _ _ _ h => h) (by rfl) (fun wS hSw => ?_) hHeld ?_
          rotate_left
          focus (obtain ⟨k1, k2, k3, k4⟩ := hSw; go_simp; (try with_reducible rfl); done)
          try simp only [Act.put, List.setIfInBounds_toArray, List.set_cons_zero, List.set_cons_succ]
          refine' take_ 15 rfl (by kernel_rfl) (by kernel_rfl) (by kernel_rfl) (fun _ _ _ h => h) (by rfl) (fun wS hSw => ?_) hHeld ?_
          rotate_left
          focus (obtain ⟨k1, k2, k3, k4⟩ := hSw; go_simp; (try with_reducible rfl); done)
          try simp only [Act.put, List.setIfInBounds_toArray, List.set_cons_zero, List.set_cons_succ]
          refine wpAnyH_done (by kernel_rfl) ?_ _
          refine NoPanic.normal ?_
          go_wp2_with fail
          exact ⟨⟨j + 1, by omega, by go_num, I3.out, B3.out⟩, by simp [intOf]; omega⟩
        · obtain rfl : j = k := by omega
          obtain ⟨w4, rfl⟩ : ∃ w4 : World, w4 = wr := ⟨_, rfl⟩
          have hpe : plc L j = (ofB (allB L)).size := by rw [ofB_size]; exact plc_all L j (by rw [HLL.out]; exact Nat.le_refl _)
          rw [hpe] at hix
          have IX := Lib.hid hix
          have BX := Lib.hid hbx
          have HPE := Lib.hid hpe
          have HEnd := Lib.hid (End_any wo.heap.size (ofB (allB L)) ⟨(ofB (allB L)).size, none⟩ w4 hix (Nat.le_refl _) (by rw [ofB_size]; omega))
          have hnn0 : (cut : Int) % (((allB L).length : Int) + 1) = ((cut % ((allB L).length + 1) : Nat) : Int) := by rw [Int.natCast_emod]; rfl
          have hnn1 : cut % ((allB L).length + 1) ≤ (allB L).length := by have := Nat.mod_lt cut (show (allB L).length + 1 > 0 by omega); omega
          generalize cut % ((allB L).length + 1) = nn at *
          clear hlt hix hbx hpe
          go_wp2_with (first
            | (go_at_call 14; refine HEnd.out.mono ?_; rintro e w5 ⟨v5, rfl, he5, hb5⟩; obtain rfl : v5 = .nilIface := he_none he5; have I5 := Lib.hid (IX.out.below hb5 (Nat.le_refl _)); have B5 := Lib.hid (BX.out.trans (hb5.mono BX.out.size)); clear he5 hb5)
            | (go_at_call 11; refine (left_zero wo.heap.size (ofB (allB L)) _ I5.out (by rw [ofB_size]; omega)).mono ?_; rintro e w6 ⟨rfl, hb6⟩; have I6 := Lib.hid (I5.out.below hb6 (Nat.le_refl _)); have B6 := Lib.hid (B5.out.trans (hb6.mono B5.out.size)); have hcv := conv_cut (HRD.out.below B6.out (Nat.le_refl _)) (allB_lt L) nn hnn1 (cap := cb); clear hb6)
            | (go_at_call 8; refine (New_any _ _).mono ?_; rintro e w' ⟨rfl, rfl⟩; clear hcv))
          go_loopw [14, 15] (fun i1 i2 wx => ∃ (q : Nat), q ≤ j ∧ i1 = .int .i64 q ∧ i2 = .int .i64 q ∧ plc L q ≤ nn ∧ InS wx w6.heap.size (ofB ((allB L).take nn)) (plc L q) none ∧ Below w6.heap.size w6 wx) (fun _ i _ => j - (intOf i).toNat)
          case atStart => exact ⟨0, Nat.zero_le _, rfl, rfl, by rw [plc_zero]; exact Nat.zero_le _, by rw [plc_zero]; exact InS.new _ _, (Below.refl _ _).alloc (Nat.le_refl _) _⟩
          case round =>
            obtain ⟨q, hq, rfl, rfl, hpq, hiq, hbq⟩ := hrel
            have hs2 : (ofB ((allB L).take nn)).size = nn := by rw [ofB_size, List.length_take]; omega
            have BQ := Lib.hid (B6.out.trans (hbq.mono B6.out.size))
            have IQ := Lib.hid hiq
            have LQ := Lib.hid (HLa.out.laid.below BQ.out HLa.out.laid.lt)
            have BW := Lib.hid (HLa.out.below.trans (BQ.out.mono HLa.out.below.size))
            have BH := Lib.hid hbq
            clear hiq hbq
            by_cases hlt : q < j
            · obtain ⟨a, rfl⟩ : ∃ a, A = some a := by
                rcases A with _ | a
                · have := HA.out.none_ rfl
                  have hz := HLL.out
                  rw [this] at hz
                  simp at hz
                  omega
                · exact ⟨a, rfl⟩
              have hlk : L[q]? = some (L[q]'(by rw [HLL.out]; exact hlt)) := List.getElem?_eq_getElem _
              have hrng := HR.out (L[q]'(by rw [HLL.out]; exact hlt)) (List.getElem_mem _)
              have hps := plc_succ L q _ hlk
              have hg := (HA.out.below BW.out (Nat.le_refl _)).at_ q _ hlk
              generalize (L[q]'(by rw [HLL.out]; exact hlt)) = ck at *
              obtain ⟨c1, c2, c3⟩ := ck
              obtain ⟨g1, g2, g3⟩ := hg
              have pc := HLa.out.place BQ.out (q + 1) (by omega)
              have pc0 := HLa.out.place BQ.out q (by omega)
              have HK := Lib.hid hlk
              have HPS := Lib.hid hps
              have HS2 := Lib.hid hs2
              clear hlk hps hs2
              by_cases hle : plc L (q + 1) ≤ nn
              · have hta := thing_at L q nn _ HK.out hle hnn1
                have TB := Lib.hid (thing_back (ofB ((allB L).take nn)) (plc L q) _ _ _ hta.2 hta.1)
                rw [show (thingB (c1, c2, c3).1 (c1, c2, c3).2.1 (c1, c2, c3).2.2) = tB (c1, c2, c3) from rfl, ← HPS.out] at TB
                have C := Lib.hid (back_any c1 c2 c3 w6.heap.size (ofB ((allB L).take nn)) ⟨plc L q, none⟩ wr LQ.out IQ.out (by rw [HS2.out]; exact hpq) (by rw [HS2.out]; omega) hrng.2.2)
                have hle2 : ((plc L (q + 1) : Nat) : Int) ≤ (nn : Int) := by omega
                clear hta pc0
                go_wp2_with (go_at_call 26; refine C.out.mono ?_; rintro e w7 ⟨tt, rfl, hok, hi7, hch7⟩; obtain rfl : tt = true := hok TB.out.1; rw [TB.out.2] at hi7; have I7 := Lib.hid hi7; have B7 := Lib.hid (BH.out.trans (hch7.below (Nat.le_refl _) BH.out.size)); clear hi7 hch7 hok)
                exact ⟨⟨q + 1, by omega, by go_num, by go_num, hle, I7.out, B7.out⟩, by simp [intOf]; omega⟩
              · have htc := thing_at_cut L q nn _ HK.out hpq (by omega) hnn1
                have TC := Lib.hid (thing_cut (ofB ((allB L).take nn)) (plc L q) c1 c2 c3 (by rw [HS2.out]; exact hpq) (by rw [HS2.out]; have := HPS.out; have e : (tB (c1, c2, c3)).length = (thingB c1 c2 c3).length := rfl; omega) (by rw [HS2.out]; exact htc))
                have C := Lib.hid (back_any c1 c2 c3 w6.heap.size (ofB ((allB L).take nn)) ⟨plc L q, none⟩ wr LQ.out IQ.out (by rw [HS2.out]; exact hpq) (by rw [HS2.out]; omega) hrng.2.2)
                have hle2 : ¬ ((plc L (q + 1) : Nat) : Int) ≤ (nn : Int) := by omega
                have hq2 : (q : Int) < (j : Int) + 1 := by omega
                clear htc
                go_wp2_with (go_at_call 26; refine C.out.mono ?_; rintro e w7 ⟨tt, rfl, _, hi7, hch7⟩; rw [TC.out] at hi7; have I7 := Lib.hid hi7; have B7 := Lib.hid (BH.out.trans (hch7.below (Nat.le_refl _) BH.out.size)); clear hi7 hch7 g1 g2 g3 pc pc0)
                have BR := Lib.hid (B6.out.trans (B7.out.mono B6.out.size))
                have LR := Lib.hid (HLa.out.laid.below BR.out HLa.out.laid.lt)
                refine wp_region_noPanic ?_
                refine wp_region_held_drew (S := (fun w' => w'.cell? ⟨gp, q, none⟩ = some (.int .i64 ((plc L q : Nat) : Int)))) (by kernel_rfl) (HLa.out.place BR.out.drew q (by omega)) (fun hHeld => ?_)
                refine' take_ 0 rfl (by kernel_rfl) (by kernel_rfl) (by kernel_rfl) (fun _ _ _ h => h) (by rfl) (fun wS hSw => ?_) hHeld ?_
                rotate_left
                focus (go_simp; (try with_reducible rfl); done)
                try simp only [Act.put, List.setIfInBounds_toArray, List.set_cons_zero, List.set_cons_succ]
                refine' take_ 2 rfl (by kernel_rfl) (by kernel_rfl) (by kernel_rfl) (fun _ _ _ h => h) (by rfl) (fun wS hSw => ?_) hHeld ?_
                rotate_left
                focus (go_simp; (try with_reducible rfl); done)
                try simp only [Act.put, List.setIfInBounds_toArray, List.set_cons_zero, List.set_cons_succ]
                refine' take_ 3 rfl (by kernel_rfl) (by kernel_rfl) (by kernel_rfl) (fun _ _ _ h => h) (by rfl) (fun wS hSw => ?_) hHeld ?_
                rotate_left
                focus (go_simp; (try with_reducible rfl); done)
                try simp only [Act.put, List.setIfInBounds_toArray, List.set_cons_zero, List.set_cons_succ]
                refine' take_ 4 rfl (by kernel_rfl) (by kernel_rfl) (by kernel_rfl) (fun _ _ _ h => h) (by rfl) (fun wS hSw => ?_) hHeld ?_
                rotate_left
                focus (go_simp; (try with_reducible rfl); done)
                try simp only [Act.put, List.setIfInBounds_toArray, List.set_cons_zero, List.set_cons_succ]
                refine' take_ 5 rfl (by kernel_rfl) (by kernel_rfl) (by kernel_rfl) (fun _ _ _ h => h) (by rfl) (fun wS hSw => ?_) hHeld ?_
                rotate_left
                focus (go_simp; (try with_reducible rfl); done)
                try simp only [Act.put, List.setIfInBounds_toArray, List.set_cons_zero, List.set_cons_succ]
                refine' take_ 6 rfl (by kernel_rfl) (by kernel_rfl) (by kernel_rfl) (fun _ _ _ h => h) (by rfl) (fun wS hSw => ?_) hHeld ?_
                rotate_left
                focus (go_simp; (try with_reducible rfl); done)
                try simp only [Act.put, List.setIfInBounds_toArray, List.set_cons_zero, List.set_cons_succ]
                refine only_ 1 rfl (by kernel_rfl) (by rfl) (fun K hK => ?_)
                go_simp
                refine (Err_any w6.heap.size (ofB ((allB L).take nn)) (plc L q) (some (3, ((plc L q : Nat) : Int))) _ (I7.out.drewN 1)).mono ?_
                rintro e w8 ⟨v8, rfl, he8, hb8⟩
                have I8 := Lib.hid ((I7.out.drewN 1).below hb8 (Nat.le_refl _))
                have B8 := Lib.hid ((BR.out.drew).trans (hb8.mono BR.out.drew.size))
                have E8 := Lib.hid he8
                clear he8 hb8
                refine hK.out _ _ (HLa.out.place B8.out q (by omega)) (fun hHeld2 => ?_)
                clear hK K hHeld
                have hHeld := hHeld2
                clear hHeld2
                try simp only [Act.put, List.setIfInBounds_toArray, List.set_cons_zero, List.set_cons_succ]
                refine only_ 7 rfl (by kernel_rfl) (by rfl) (fun K hK => ?_)
                go_simp
                refine (fault_is v8 (some (3, ((plc L q : Nat) : Int))) _ _ (HLa.out.laid.below B8.out HLa.out.laid.lt) E8.out (by intro c' a' h; injection h with h; injection h with h _; omega)).mono ?_
                rintro e w9 ⟨rfl, hb9⟩
                have I9 := Lib.hid (I8.out.below hb9 (Nat.le_refl _))
                have B9 := Lib.hid (B8.out.trans (hb9.mono B8.out.size))
                clear hb9
                refine hK.out _ _ (HLa.out.place B9.out q (by omega)) (fun hHeld2 => ?_)
                clear hK K hHeld
                have hHeld := hHeld2
                clear hHeld2
                try simp only [Act.put, List.setIfInBounds_toArray, List.set_cons_zero, List.set_cons_succ]
                refine' take_ 8 rfl (by kernel_rfl) (by kernel_rfl) (by kernel_rfl) (fun _ _ _ h => h) (by rfl) (fun wS hSw => ?_) hHeld ?_
                rotate_left
                focus (go_simp; (try with_reducible rfl); done)
                try simp only [Act.put, List.setIfInBounds_toArray, List.set_cons_zero, List.set_cons_succ]
                refine' take_ 9 rfl (by kernel_rfl) (by kernel_rfl) (by kernel_rfl) (fun _ _ _ h => h) (by rfl) (fun wS hSw => ?_) hHeld ?_
                rotate_left
                focus (go_simp; (try with_reducible rfl); done)
                try simp only [Act.put, List.setIfInBounds_toArray, List.set_cons_zero, List.set_cons_succ]
                refine' take_ 10 rfl (by kernel_rfl) (by kernel_rfl) (by kernel_rfl) (fun _ _ _ h => h) (by rfl) (fun wS hSw => ?_) hHeld ?_
                rotate_left
                focus (go_simp; (try with_reducible rfl); done)
                try simp only [Act.put, List.setIfInBounds_toArray, List.set_cons_zero, List.set_cons_succ]
                refine' take_ 12 rfl (by kernel_rfl) (by kernel_rfl) (by kernel_rfl) (fun _ _ _ h => h) (by rfl) (fun wS hSw => ?_) hHeld ?_
                rotate_left
                focus (go_simp; (try with_reducible rfl); done)
                try simp only [Act.put, List.setIfInBounds_toArray, List.set_cons_zero, List.set_cons_succ]
                refine' take_ 13 rfl (by kernel_rfl) (by kernel_rfl) (by kernel_rfl) (fun _ _ _ h => h) (by rfl) (fun wS hSw => ?_) hHeld ?_
                rotate_left
                focus (go_simp; (try with_reducible rfl); done)
                try simp only [Act.put, List.setIfInBounds_toArray, List.set_cons_zero, List.set_cons_succ]
                refine' take_ 14 rfl (by kernel_rfl) (by kernel_rfl) (by kernel_rfl) (fun _ _ _ h => h) (by rfl) (fun wS hSw => ?_) hHeld ?_
                rotate_left
                focus (go_simp; (try with_reducible rfl); done)
                try simp only [Act.put, List.setIfInBounds_toArray, List.set_cons_zero, List.set_cons_succ]
                refine' take_ 15 rfl (by kernel_rfl) (by kernel_rfl) (by kernel_rfl) (fun _ _ _ h => h) (by rfl) (fun wS hSw => ?_) hHeld ?_
                rotate_left
                focus (go_simp; (try with_reducible rfl); done)
                try simp only [Act.put, List.setIfInBounds_toArray, List.set_cons_zero, List.set_cons_succ]
                refine only_ 11 rfl (by kernel_rfl) (by rfl) (fun K hK => ?_)
                go_simp
                have i9 : w9.cell? ⟨w6.heap.size, 1, none⟩ = some (.int .i64 ((plc L q : Nat) : Int)) := by obtain ⟨f, hf, _⟩ := I9.out; exact hf.c1
                refine (Place_any _ (plc L q) _ i9).mono ?_
                rintro e w' ⟨rfl, rfl⟩
                refine hK.out _ _ (HLa.out.place B9.out q (by omega)) (fun hHeld2 => ?_)
                clear hK K hHeld
                have hHeld := hHeld2
                clear hHeld2
                try simp only [Act.put, List.setIfInBounds_toArray, List.set_cons_zero, List.set_cons_succ]
                refine' take_ 16 rfl (by kernel_rfl) (by kernel_rfl) (by kernel_rfl) (fun _ _ _ h => h) (by rfl) (fun wS hSw => ?_) hHeld ?_
                rotate_left
                focus (go_simp; (try with_reducible rfl); done)
                try simp only [Act.put, List.setIfInBounds_toArray, List.set_cons_zero, List.set_cons_succ]
                refine' take_ 17 rfl (by kernel_rfl) (by kernel_rfl) (by kernel_rfl) (fun _ _ _ h => h) (by rfl) (fun wS hSw => ?_) hHeld ?_
                rotate_left
                focus (go_simp; (try with_reducible rfl); done)
                try simp only [Act.put, List.setIfInBounds_toArray, List.set_cons_zero, List.set_cons_succ]
                refine wpAnyH_done (by kernel_rfl) ?_ _
                refine NoPanic.normal ?_
                have BZ := Lib.hid (HLa.out.below.trans (B9.out.mono HLa.out.below.size))
                obtain ⟨wz, rfl⟩ : ∃ wz : World, wz = w9 := ⟨_, rfl⟩
                have LZ := Lib.hid (HL.out.below BZ.out HL.out.lt)
                have ht : (s.extract 0 (min (s.size : Int) 100).toNat).size ≤ 100 := by rw [ByteArray.size_extract]; omega
                go_wp2_with (go_at_call 8; refine (New_any _ _).mono ?_; rintro e w' ⟨rfl, rfl⟩)
                generalize s.extract 0 (min (s.size : Int) 100).toNat = t at *
                go_loopw [17] (fun va wx => ∃ (p : Nat), p ≤ t.size ∧ InS wx wz.heap.size t p none ∧ Own wx wz.heap.size va (bytesAt t 0 p) ∧ Below wz.heap.size wz wx) (fun va _ => t.size - lenOf va)
                case atStart => exact ⟨0, Nat.zero_le _, InS.new _ _, Own.nil_ _ _, (Below.refl _ _).alloc (Nat.le_refl _) _⟩
                case round =>
                  obtain ⟨p, hp, hip, hop, hbp⟩ := hrel
                  obtain ⟨Av, cv, hva, _⟩ := hop.form
                  subst hva
                  rw [length_bytesAt] at hop
                  rw [length_bytesAt]
                  have IP := Lib.hid hip
                  have OP := Lib.hid hop
                  have BP := Lib.hid hbp
                  have LP := Lib.hid (LZ.out.below hbp LZ.out.lt)
                  obtain ⟨i0c, i1c⟩ : wr.cell? ⟨wz.heap.size, 0, none⟩ = some (.string t) ∧ wr.cell? ⟨wz.heap.size, 1, none⟩ = some (.int .i64 (p : Int)) := by obtain ⟨f, hf, _⟩ := hip; exact ⟨hf.c0, hf.c1⟩
                  have HLeft := Lib.hid (Left_any wz.heap.size p t wr i0c i1c hp (by omega))
                  clear i0c i1c hip hop hbp
                  by_cases hlt : p < t.size
                  · obtain ⟨u, p2, F, hu⟩ : ∃ u p2 F, uS t ⟨p, none⟩ = (u, ⟨p2, F⟩) := ⟨_, _, _, rfl⟩
                    have hpos : (0 : Int) < (t.size : Int) - (p : Int) := by omega
                    have hraw := uS_raw t p
                    have hflt := uS_fault t p
                    have hul := uS_lt t ⟨p, none⟩
                    have hple := uS_le t ⟨p, none⟩ hp
                    rw [hu] at hraw hflt hul hple
                    have HU := Lib.hid (fun n => U_any wz.heap.size t ⟨p, none⟩ (wr.drewN n) (LP.out.drewN n) (IP.out.drewN n) hp (by omega))
                    rw [hu] at HU
                    clear hu
                    rcases F with _ | ⟨fc1, fa1⟩
                    · obtain ⟨hr1, hr2⟩ := hraw rfl
                      have HR1 := Lib.hid hr1
                      clear hraw hflt hr1
                      go_wp2_with (first
                        | (go_at_call 11; refine HLeft.out.mono ?_; rintro e w' ⟨rfl, n1, rfl⟩)
                        | (go_at_call 27; refine (HU.out n1).mono ?_; rintro e wu ⟨rfl, hiu, hcu⟩; have IU := Lib.hid hiu; have BU := Lib.hid ((below_drewN BP.out n1).trans (hcu.below (Nat.le_refl _) (by have := BP.out.size; simpa using this))); have OU := Lib.hid (own_chg (OP.out.drewN n1) (IP.out.drewN n1) hcu); clear hiu hcu)
                          | (go_at_call 13; refine (Err_any wz.heap.size t p2 none _ IU.out).mono ?_; rintro e we ⟨ve, rfl, he, hbe⟩; obtain rfl : ve = .nilIface := he; have IE := Lib.hid (IU.out.below hbe (Nat.le_refl _)); have BE := Lib.hid (BU.out.trans (hbe.mono BU.out.size)); have OE := Lib.hid (OU.out.below hbe (Nat.le_refl _)); clear hbe)
                          | (go_at_call 17; refine (P_any Av p cv (bytesAt t 0 p) u (Nat.lt_of_lt_of_le (show u < 4611686018427387904 from hul) (by decide)) _ (LZ.out.below BE.out LZ.out.lt) OE.out.parts.1 OE.out.parts.2.1 OE.out.parts.2.2 (by omega)).mono ?_; rintro e w9 ⟨v9, rfl, ho9, hb9⟩; have I9 := Lib.hid (IE.out.below hb9 (Nat.le_refl _)); have B9 := Lib.hid (BE.out.trans (hb9.mono BE.out.size)); have O9 := Lib.hid (ho9.mono BE.out.size); clear ho9 hb9))
                      exact ⟨⟨p2, hple, I9.out, by rw [HR1.out]; exact O9.out, B9.out⟩, by rw [lenOf_own O9.out, ← HR1.out, length_bytesAt]; simp only [lenOf]; have hr3 : p < p2 := hr2; omega⟩
                    · obtain rfl : p2 = p := hflt (by simp)
                      clear hraw hflt
                      go_wp2_with (first
                        | (go_at_call 11; refine HLeft.out.mono ?_; rintro e w' ⟨rfl, n1, rfl⟩)
                        | (go_at_call 27; refine (HU.out n1).mono ?_; rintro e wu ⟨rfl, hiu, hcu⟩; have IU := Lib.hid hiu; have BU := Lib.hid ((below_drewN BP.out n1).trans (hcu.below (Nat.le_refl _) (by have := BP.out.size; simpa using this))); have OU := Lib.hid (own_chg (OP.out.drewN n1) (IP.out.drewN n1) hcu); clear hiu hcu)
                          | (go_at_call 13; refine (Err_any wz.heap.size t p2 (some (fc1, fa1)) _ IU.out).mono ?_; rintro e we ⟨ve, rfl, he, hbe⟩; obtain ⟨fbb, rfl, _, _⟩ := he; have IR := Lib.hid (IU.out.below hbe (Nat.le_refl _)); have BR := Lib.hid (BU.out.trans (hbe.mono BU.out.size)); have OR := Lib.hid (OU.out.below hbe (Nat.le_refl _)); clear hbe))
                      have ip : we.drew.cell? ⟨wz.heap.size, 1, none⟩ = some (.int .i64 (p2 : Int)) := by obtain ⟨f, hf, _⟩ := IR.out.drewN 1; exact hf.c1
                      have CV : Hid (∀ wy : World, Below we.heap.size we wy → (convert 43 9 (.slice Av p2 cv)).run Tryd.prog wy = .ok (.string (t.extract 0 p2)) wy) := Lib.hid (fun wy hy => by have := conv_cut (OR.out.parts.2.2.below hy (Nat.le_refl _)) (bytesAt_lt t 0 p2) p2 (by rw [length_bytesAt]; exact Nat.le_refl _) (cap := cv); rw [← ofB_bytesAt t p2 hp]; rw [show (bytesAt t 0 p2).take p2 = bytesAt t 0 p2 from by rw [List.take_of_length_le]; rw [length_bytesAt]; exact Nat.le_refl _] at this; exact this)
                      refine wp_region_noPanic ?_
                      refine wp_region_held_drew (S := (fun w' => (convert 43 9 (.slice Av p2 cv)).run Tryd.prog w' = .ok (.string (t.extract 0 p2)) w')) (by kernel_rfl) (CV.out _ ((Below.refl _ _).drew)) (fun hHeld => ?_)
                      refine' take_ 0 rfl (by kernel_rfl) (by kernel_rfl) (by kernel_rfl) (fun _ _ _ h => h) (by rfl) (fun wS hSw => ?_) hHeld ?_
                      rotate_left
                      focus (go_simp; (try with_reducible rfl); done)
                      try simp only [Act.put, List.setIfInBounds_toArray, List.set_cons_zero, List.set_cons_succ]
                      refine' take_ 1 rfl (by kernel_rfl) (by kernel_rfl) (by kernel_rfl) (fun _ _ _ h => h) (by rfl) (fun wS hSw => ?_) hHeld ?_
                      rotate_left
                      focus (go_simp; (try with_reducible rfl); done)
                      try simp only [Act.put, List.setIfInBounds_toArray, List.set_cons_zero, List.set_cons_succ]
                      refine' take_ 4 rfl (by kernel_rfl) (by kernel_rfl) (by kernel_rfl) (fun _ _ _ h => h) (by rfl) (fun wS hSw => ?_) hHeld ?_
                      rotate_left
                      focus (go_simp; (try with_reducible rfl); done)
                      try simp only [Act.put, List.setIfInBounds_toArray, List.set_cons_zero, List.set_cons_succ]
                      refine' take_ 5 rfl (by kernel_rfl) (by kernel_rfl) (by kernel_rfl) (fun _ _ _ h => h) (by rfl) (fun wS hSw => ?_) hHeld ?_
                      rotate_left
                      focus (go_simp; (try with_reducible rfl); done)
                      try simp only [Act.put, List.setIfInBounds_toArray, List.set_cons_zero, List.set_cons_succ]
                      refine only_ 2 rfl (by kernel_rfl) (by rfl) (fun K hK => ?_)
                      go_simp
                      refine (Place_any _ p2 _ ip).mono ?_
                      rintro e w' ⟨rfl, rfl⟩
                      refine hK.out _ _ (CV.out _ ((Below.refl _ _).drew)) (fun hHeld2 => ?_)
                      clear hK K hHeld
                      have hHeld := hHeld2
                      clear hHeld2
                      try simp only [Act.put, List.setIfInBounds_toArray, List.set_cons_zero, List.set_cons_succ]
                      refine' take_ 3 rfl (by kernel_rfl) (by kernel_rfl) (by kernel_rfl) (fun _ _ _ h => h) (by rfl) (fun wS hSw => ?_) hHeld ?_
                      rotate_left
                      focus (go_simp; (try with_reducible rfl); done)
                      try simp only [Act.put, List.setIfInBounds_toArray, List.set_cons_zero, List.set_cons_succ]
                      refine' take_ 6 rfl (by kernel_rfl) (by kernel_rfl) (by kernel_rfl) (fun _ _ _ h => h) (by rfl) (fun wS hSw => ?_) hHeld ?_
                      rotate_left
                      focus (go_simp; (try with_reducible rfl); done)
                      try simp only [Act.put, List.setIfInBounds_toArray, List.set_cons_zero, List.set_cons_succ]
                      refine' take_ 7 rfl (by kernel_rfl) (by kernel_rfl) (by kernel_rfl) (fun _ _ _ h => h) (by rfl) (fun wS hSw => ?_) hHeld ?_
                      rotate_left
                      focus (go_simp; (try with_reducible rfl); done)
                      try simp only [Act.put, List.setIfInBounds_toArray, List.set_cons_zero, List.set_cons_succ]
                      refine wpAnyH_done (by kernel_rfl) ?_ _
                      refine NoPanic.normal ?_
                      go_wp2
                      go_ret
                      exact ⟨by simp, BZ.out.trans (BR.out.drew.mono BZ.out.size)⟩
                  · obtain rfl : p = t.size := by omega
                    rw [Int.sub_self] at HLeft
                    go_wp2_with (go_at_call 11; refine HLeft.out.mono ?_; rintro e w' ⟨rfl, n1, rfl⟩)
                    have IR := Lib.hid (IP.out.drewN n1)
                    have OR := Lib.hid (OP.out.drewN n1)
                    have BR := Lib.hid (below_drewN BP.out n1)
                    generalize wr.drewN n1 = we at *
                    have ip : we.drew.cell? ⟨wz.heap.size, 1, none⟩ = some (.int .i64 (t.size : Int)) := by obtain ⟨f, hf, _⟩ := IR.out.drewN 1; exact hf.c1
                    have CV : Hid (∀ wy : World, Below we.heap.size we wy → (convert 43 9 (.slice Av t.size cv)).run Tryd.prog wy = .ok (.string (t.extract 0 t.size)) wy) := Lib.hid (fun wy hy => by have := conv_cut (OR.out.parts.2.2.below hy (Nat.le_refl _)) (bytesAt_lt t 0 t.size) t.size (by rw [length_bytesAt]; exact Nat.le_refl _) (cap := cv); rw [← ofB_bytesAt t t.size hp]; rw [show (bytesAt t 0 t.size).take t.size = bytesAt t 0 t.size from by rw [List.take_of_length_le]; rw [length_bytesAt]; exact Nat.le_refl _] at this; exact this)
                    refine wp_region_noPanic ?_
                    refine wp_region_held_drew (S := (fun w' => (convert 43 9 (.slice Av t.size cv)).run Tryd.prog w' = .ok (.string (t.extract 0 t.size)) w')) (by kernel_rfl) (CV.out _ ((Below.refl _ _).drew)) (fun hHeld => ?_)
                    refine' take_ 0 rfl (by kernel_rfl) (by kernel_rfl) (by kernel_rfl) (fun _ _ _ h => h) (by rfl) (fun wS hSw => ?_) hHeld ?_
                    rotate_left
                    focus (go_simp; (try with_reducible rfl); done)
                    try simp only [Act.put, List.setIfInBounds_toArray, List.set_cons_zero, List.set_cons_succ]
                    refine' take_ 1 rfl (by kernel_rfl) (by kernel_rfl) (by kernel_rfl) (fun _ _ _ h => h) (by rfl) (fun wS hSw => ?_) hHeld ?_
                    rotate_left
                    focus (go_simp; (try with_reducible rfl); done)
                    try simp only [Act.put, List.setIfInBounds_toArray, List.set_cons_zero, List.set_cons_succ]
                    refine' take_ 4 rfl (by kernel_rfl) (by kernel_rfl) (by kernel_rfl) (fun _ _ _ h => h) (by rfl) (fun wS hSw => ?_) hHeld ?_
                    rotate_left
                    focus (go_simp; (try with_reducible rfl); done)
                    try simp only [Act.put, List.setIfInBounds_toArray, List.set_cons_zero, List.set_cons_succ]
                    refine' take_ 5 rfl (by kernel_rfl) (by kernel_rfl) (by kernel_rfl) (fun _ _ _ h => h) (by rfl) (fun wS hSw => ?_) hHeld ?_
                    rotate_left
                    focus (go_simp; (try with_reducible rfl); done)
                    try simp only [Act.put, List.setIfInBounds_toArray, List.set_cons_zero, List.set_cons_succ]
                    refine only_ 2 rfl (by kernel_rfl) (by rfl) (fun K hK => ?_)
                    go_simp
                    refine (Place_any _ t.size _ ip).mono ?_
                    rintro e w' ⟨rfl, rfl⟩
                    refine hK.out _ _ (CV.out _ ((Below.refl _ _).drew)) (fun hHeld2 => ?_)
                    clear hK K hHeld
                    have hHeld := hHeld2
                    clear hHeld2
                    try simp only [Act.put, List.setIfInBounds_toArray, List.set_cons_zero, List.set_cons_succ]
                    refine' take_ 3 rfl (by kernel_rfl) (by kernel_rfl) (by kernel_rfl) (fun _ _ _ h => h) (by rfl) (fun wS hSw => ?_) hHeld ?_
                    rotate_left
                    focus (go_simp; (try with_reducible rfl); done)
                    try simp only [Act.put, List.setIfInBounds_toArray, List.set_cons_zero, List.set_cons_succ]
                    refine' take_ 6 rfl (by kernel_rfl) (by kernel_rfl) (by kernel_rfl) (fun _ _ _ h => h) (by rfl) (fun wS hSw => ?_) hHeld ?_
                    rotate_left
                    focus (go_simp; (try with_reducible rfl); done)
                    try simp only [Act.put, List.setIfInBounds_toArray, List.set_cons_zero, List.set_cons_succ]
                    refine' take_ 7 rfl (by kernel_rfl) (by kernel_rfl) (by kernel_rfl) (fun _ _ _ h => h) (by rfl) (fun wS hSw => ?_) hHeld ?_
                    rotate_left
                    focus (go_simp; (try with_reducible rfl); done)
                    try simp only [Act.put, List.setIfInBounds_toArray, List.set_cons_zero, List.set_cons_succ]
                    refine wpAnyH_done (by kernel_rfl) ?_ _
                    refine NoPanic.normal ?_
                    go_wp2
                    go_ret
                    exact ⟨by simp, BZ.out.trans (BR.out.drew.mono BZ.out.size)⟩
            · obtain rfl : q = j := by omega
              obtain ⟨wz, rfl⟩ : ∃ wz : World, wz = wr := ⟨_, rfl⟩
              have BZ := Lib.hid BW.out
              clear hlt
              have LZ := Lib.hid (HL.out.below BZ.out HL.out.lt)
              have ht : (s.extract 0 (min (s.size : Int) 100).toNat).size ≤ 100 := by rw [ByteArray.size_extract]; omega
              go_wp2_with (go_at_call 8; refine (New_any _ _).mono ?_; rintro e w' ⟨rfl, rfl⟩)
              generalize s.extract 0 (min (s.size : Int) 100).toNat = t at *
              go_loopw [17] (fun va wx => ∃ (p : Nat), p ≤ t.size ∧ InS wx wz.heap.size t p none ∧ Own wx wz.heap.size va (bytesAt t 0 p) ∧ Below wz.heap.size wz wx) (fun va _ => t.size - lenOf va)
              case atStart => exact ⟨0, Nat.zero_le _, InS.new _ _, Own.nil_ _ _, (Below.refl _ _).alloc (Nat.le_refl _) _⟩
              case round =>
                obtain ⟨p, hp, hip, hop, hbp⟩ := hrel
                obtain ⟨Av, cv, hva, _⟩ := hop.form
                subst hva
                rw [length_bytesAt] at hop
                rw [length_bytesAt]
                have IP := Lib.hid hip
                have OP := Lib.hid hop
                have BP := Lib.hid hbp
                have LP := Lib.hid (LZ.out.below hbp LZ.out.lt)
                obtain ⟨i0c, i1c⟩ : wr.cell? ⟨wz.heap.size, 0, none⟩ = some (.string t) ∧ wr.cell? ⟨wz.heap.size, 1, none⟩ = some (.int .i64 (p : Int)) := by obtain ⟨f, hf, _⟩ := hip; exact ⟨hf.c0, hf.c1⟩
                have HLeft := Lib.hid (Left_any wz.heap.size p t wr i0c i1c hp (by omega))
                clear i0c i1c hip hop hbp
                by_cases hlt : p < t.size
                · obtain ⟨u, p2, F, hu⟩ : ∃ u p2 F, uS t ⟨p, none⟩ = (u, ⟨p2, F⟩) := ⟨_, _, _, rfl⟩
                  have hpos : (0 : Int) < (t.size : Int) - (p : Int) := by omega
                  have hraw := uS_raw t p
                  have hflt := uS_fault t p
                  have hul := uS_lt t ⟨p, none⟩
                  have hple := uS_le t ⟨p, none⟩ hp
                  rw [hu] at hraw hflt hul hple
                  have HU := Lib.hid (fun n => U_any wz.heap.size t ⟨p, none⟩ (wr.drewN n) (LP.out.drewN n) (IP.out.drewN n) hp (by omega))
                  rw [hu] at HU
                  clear hu
                  rcases F with _ | ⟨fc1, fa1⟩
                  · obtain ⟨hr1, hr2⟩ := hraw rfl
                    have HR1 := Lib.hid hr1
                    clear hraw hflt hr1
                    go_wp2_with (first
                      | (go_at_call 11; refine HLeft.out.mono ?_; rintro e w' ⟨rfl, n1, rfl⟩)
                      | (go_at_call 27; refine (HU.out n1).mono ?_; rintro e wu ⟨rfl, hiu, hcu⟩; have IU := Lib.hid hiu; have BU := Lib.hid ((below_drewN BP.out n1).trans (hcu.below (Nat.le_refl _) (by have := BP.out.size; simpa using this))); have OU := Lib.hid (own_chg (OP.out.drewN n1) (IP.out.drewN n1) hcu); clear hiu hcu)
                        | (go_at_call 13; refine (Err_any wz.heap.size t p2 none _ IU.out).mono ?_; rintro e we ⟨ve, rfl, he, hbe⟩; obtain rfl : ve = .nilIface := he; have IE := Lib.hid (IU.out.below hbe (Nat.le_refl _)); have BE := Lib.hid (BU.out.trans (hbe.mono BU.out.size)); have OE := Lib.hid (OU.out.below hbe (Nat.le_refl _)); clear hbe)
                        | (go_at_call 17; refine (P_any Av p cv (bytesAt t 0 p) u (Nat.lt_of_lt_of_le (show u < 4611686018427387904 from hul) (by decide)) _ (LZ.out.below BE.out LZ.out.lt) OE.out.parts.1 OE.out.parts.2.1 OE.out.parts.2.2 (by omega)).mono ?_; rintro e w9 ⟨v9, rfl, ho9, hb9⟩; have I9 := Lib.hid (IE.out.below hb9 (Nat.le_refl _)); have B9 := Lib.hid (BE.out.trans (hb9.mono BE.out.size)); have O9 := Lib.hid (ho9.mono BE.out.size); clear ho9 hb9))
                    exact ⟨⟨p2, hple, I9.out, by rw [HR1.out]; exact O9.out, B9.out⟩, by rw [lenOf_own O9.out, ← HR1.out, length_bytesAt]; simp only [lenOf]; have hr3 : p < p2 := hr2; omega⟩
                  · obtain rfl : p2 = p := hflt (by simp)
                    clear hraw hflt
                    go_wp2_with (first
                      | (go_at_call 11; refine HLeft.out.mono ?_; rintro e w' ⟨rfl, n1, rfl⟩)
                      | (go_at_call 27; refine (HU.out n1).mono ?_; rintro e wu ⟨rfl, hiu, hcu⟩; have IU := Lib.hid hiu; have BU := Lib.hid ((below_drewN BP.out n1).trans (hcu.below (Nat.le_refl _) (by have := BP.out.size; simpa using this))); have OU := Lib.hid (own_chg (OP.out.drewN n1) (IP.out.drewN n1) hcu); clear hiu hcu)
                        | (go_at_call 13; refine (Err_any wz.heap.size t p2 (some (fc1, fa1)) _ IU.out).mono ?_; rintro e we ⟨ve, rfl, he, hbe⟩; obtain ⟨fbb, rfl, _, _⟩ := he; have IR := Lib.hid (IU.out.below hbe (Nat.le_refl _)); have BR := Lib.hid (BU.out.trans (hbe.mono BU.out.size)); have OR := Lib.hid (OU.out.below hbe (Nat.le_refl _)); clear hbe))
                    have ip : we.drew.cell? ⟨wz.heap.size, 1, none⟩ = some (.int .i64 (p2 : Int)) := by obtain ⟨f, hf, _⟩ := IR.out.drewN 1; exact hf.c1
                    have CV : Hid (∀ wy : World, Below we.heap.size we wy → (convert 43 9 (.slice Av p2 cv)).run Tryd.prog wy = .ok (.string (t.extract 0 p2)) wy) := Lib.hid (fun wy hy => by have := conv_cut (OR.out.parts.2.2.below hy (Nat.le_refl _)) (bytesAt_lt t 0 p2) p2 (by rw [length_bytesAt]; exact Nat.le_refl _) (cap := cv); rw [← ofB_bytesAt t p2 hp]; rw [show (bytesAt t 0 p2).take p2 = bytesAt t 0 p2 from by rw [List.take_of_length_le]; rw [length_bytesAt]; exact Nat.le_refl _] at this; exact this)
                    refine wp_region_noPanic ?_
                    refine wp_region_held_drew (S := (fun w' => (convert 43 9 (.slice Av p2 cv)).run Tryd.prog w' = .ok (.string (t.extract 0 p2)) w')) (by kernel_rfl) (CV.out _ ((Below.refl _ _).drew)) (fun hHeld => ?_)
                    refine' take_ 0 rfl (by kernel_rfl) (by kernel_rfl) (by kernel_rfl) (fun _ _ _ h => h) (by rfl) (fun wS hSw => ?_) hHeld ?_
                    rotate_left
                    focus (go_simp; (try with_reducible rfl); done)
                    try simp only [Act.put, List.setIfInBounds_toArray, List.set_cons_zero, List.set_cons_succ]
                    refine' take_ 1 rfl (by kernel_rfl) (by kernel_rfl) (by kernel_rfl) (fun _ _ _ h => h) (by rfl) (fun wS hSw => ?_) hHeld ?_
                    rotate_left
                    focus (go_simp; (try with_reducible rfl); done)
                    try simp only [Act.put, List.setIfInBounds_toArray, List.set_cons_zero, List.set_cons_succ]
                    refine' take_ 4 rfl (by kernel_rfl) (by kernel_rfl) (by kernel_rfl) (fun _ _ _ h => h) (by rfl) (fun wS hSw => ?_) hHeld ?_
                    rotate_left
                    focus (go_simp; (try with_reducible rfl); done)
                    try simp only [Act.put, List.setIfInBounds_toArray, List.set_cons_zero, List.set_cons_succ]
                    refine' take_ 5 rfl (by kernel_rfl) (by kernel_rfl) (by kernel_rfl) (fun _ _ _ h => h) (by rfl) (fun wS hSw => ?_) hHeld ?_
                    rotate_left
                    focus (go_simp; (try with_reducible rfl); done)
                    try simp only [Act.put, List.setIfInBounds_toArray, List.set_cons_zero, List.set_cons_succ]
                    refine only_ 2 rfl (by kernel_rfl) (by rfl) (fun K hK => ?_)
                    go_simp
                    refine (Place_any _ p2 _ ip).mono ?_
                    rintro e w' ⟨rfl, rfl⟩
                    refine hK.out _ _ (CV.out _ ((Below.refl _ _).drew)) (fun hHeld2 => ?_)
                    clear hK K hHeld
                    have hHeld := hHeld2
                    clear hHeld2
                    try simp only [Act.put, List.setIfInBounds_toArray, List.set_cons_zero, List.set_cons_succ]
                    refine' take_ 3 rfl (by kernel_rfl) (by kernel_rfl) (by kernel_rfl) (fun _ _ _ h => h) (by rfl) (fun wS hSw => ?_) hHeld ?_
                    rotate_left
                    focus (go_simp; (try with_reducible rfl); done)
                    try simp only [Act.put, List.setIfInBounds_toArray, List.set_cons_zero, List.set_cons_succ]
                    refine' take_ 6 rfl (by kernel_rfl) (by kernel_rfl) (by kernel_rfl) (fun _ _ _ h => h) (by rfl) (fun wS hSw => ?_) hHeld ?_
                    rotate_left
                    focus (go_simp; (try with_reducible rfl); done)
                    try simp only [Act.put, List.setIfInBounds_toArray, List.set_cons_zero, List.set_cons_succ]
                    refine' take_ 7 rfl (by kernel_rfl) (by kernel_rfl) (by kernel_rfl) (fun _ _ _ h => h) (by rfl) (fun wS hSw => ?_) hHeld ?_
                    rotate_left
                    focus (go_simp; (try with_reducible rfl); done)
                    try simp only [Act.put, List.setIfInBounds_toArray, List.set_cons_zero, List.set_cons_succ]
                    refine wpAnyH_done (by kernel_rfl) ?_ _
                    refine NoPanic.normal ?_
                    go_wp2
                    go_ret
                    exact ⟨by simp, BZ.out.trans (BR.out.drew.mono BZ.out.size)⟩
                · obtain rfl : p = t.size := by omega
                  rw [Int.sub_self] at HLeft
                  go_wp2_with (go_at_call 11; refine HLeft.out.mono ?_; rintro e w' ⟨rfl, n1, rfl⟩)
                  have IR := Lib.hid (IP.out.drewN n1)
                  have OR := Lib.hid (OP.out.drewN n1)
                  have BR := Lib.hid (below_drewN BP.out n1)
                  generalize wr.drewN n1 = we at *
                  have ip : we.drew.cell? ⟨wz.heap.size, 1, none⟩ = some (.int .i64 (t.size : Int)) := by obtain ⟨f, hf, _⟩ := IR.out.drewN 1; exact hf.c1
                  have CV : Hid (∀ wy : World, Below we.heap.size we wy → (convert 43 9 (.slice Av t.size cv)).run Tryd.prog wy = .ok (.string (t.extract 0 t.size)) wy) := Lib.hid (fun wy hy => by have := conv_cut (OR.out.parts.2.2.below hy (Nat.le_refl _)) (bytesAt_lt t 0 t.size) t.size (by rw [length_bytesAt]; exact Nat.le_refl _) (cap := cv); rw [← ofB_bytesAt t t.size hp]; rw [show (bytesAt t 0 t.size).take t.size = bytesAt t 0 t.size from by rw [List.take_of_length_le]; rw [length_bytesAt]; exact Nat.le_refl _] at this; exact this)
                  refine wp_region_noPanic ?_
                  refine wp_region_held_drew (S := (fun w' => (convert 43 9 (.slice Av t.size cv)).run Tryd.prog w' = .ok (.string (t.extract 0 t.size)) w')) (by kernel_rfl) (CV.out _ ((Below.refl _ _).drew)) (fun hHeld => ?_)
                  refine' take_ 0 rfl (by kernel_rfl) (by kernel_rfl) (by kernel_rfl) (fun _ _ _ h => h) (by rfl) (fun wS hSw => ?_) hHeld ?_
                  rotate_left
                  focus (go_simp; (try with_reducible rfl); done)
                  try simp only [Act.put, List.setIfInBounds_toArray, List.set_cons_zero, List.set_cons_succ]
                  refine' take_ 1 rfl (by kernel_rfl) (by kernel_rfl) (by kernel_rfl) (fun _ _ _ h => h) (by rfl) (fun wS hSw => ?_) hHeld ?_
                  rotate_left
                  focus (go_simp; (try with_reducible rfl); done)
                  try simp only [Act.put, List.setIfInBounds_toArray, List.set_cons_zero, List.set_cons_succ]
                  refine' take_ 4 rfl (by kernel_rfl) (by kernel_rfl) (by kernel_rfl) (fun _ _ _ h => h) (by rfl) (fun wS hSw => ?_) hHeld ?_
                  rotate_left
                  focus (go_simp; (try with_reducible rfl); done)
                  try simp only [Act.put, List.setIfInBounds_toArray, List.set_cons_zero, List.set_cons_succ]
                  refine' take_ 5 rfl (by kernel_rfl) (by kernel_rfl) (by kernel_rfl) (fun _ _ _ h => h) (by rfl) (fun wS hSw => ?_) hHeld ?_
                  rotate_left
                  focus (go_simp; (try with_reducible rfl); done)
                  try simp only [Act.put, List.setIfInBounds_toArray, List.set_cons_zero, List.set_cons_succ]
                  refine only_ 2 rfl (by kernel_rfl) (by rfl) (fun K hK => ?_)
                  go_simp
                  refine (Place_any _ t.size _ ip).mono ?_
                  rintro e w' ⟨rfl, rfl⟩
                  refine hK.out _ _ (CV.out _ ((Below.refl _ _).drew)) (fun hHeld2 => ?_)
                  clear hK K hHeld
                  have hHeld := hHeld2
                  clear hHeld2
                  try simp only [Act.put, List.setIfInBounds_toArray, List.set_cons_zero, List.set_cons_succ]
                  refine' take_ 3 rfl (by kernel_rfl) (by kernel_rfl) (by kernel_rfl) (fun _ _ _ h => h) (by rfl) (fun wS hSw => ?_) hHeld ?_
                  rotate_left
                  focus (go_simp; (try with_reducible rfl); done)
                  try simp only [Act.put, List.setIfInBounds_toArray, List.set_cons_zero, List.set_cons_succ]
                  refine' take_ 6 rfl (by kernel_rfl) (by kernel_rfl) (by kernel_rfl) (fun _ _ _ h => h) (by rfl) (fun wS hSw => ?_) hHeld ?_
                  rotate_left
                  focus (go_simp; (try with_reducible rfl); done)
                  try simp only [Act.put, List.setIfInBounds_toArray, List.set_cons_zero, List.set_cons_succ]
                  refine' take_ 7 rfl (by kernel_rfl) (by kernel_rfl) (by kernel_rfl) (fun _ _ _ h => h) (by rfl) (fun wS hSw => ?_) hHeld ?_
                  rotate_left
                  focus (go_simp; (try with_reducible rfl); done)
                  try simp only [Act.put, List.setIfInBounds_toArray, List.set_cons_zero, List.set_cons_succ]
                  refine wpAnyH_done (by kernel_rfl) ?_ _
                  refine NoPanic.normal ?_
                  go_wp2
                  go_ret
                  exact ⟨by simp, BZ.out.trans (BR.out.drew.mono BZ.out.size)⟩
end Go.Proofs.YtmmdkoomceikiaaDoor
