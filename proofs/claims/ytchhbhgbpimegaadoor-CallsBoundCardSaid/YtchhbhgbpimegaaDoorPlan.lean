/-
  The order of functions, plainly: a state (how many calls each one waits for, which may be next, which are over), its steps, what holds of it; in a graph whose functions call lesser ones alone each one stands once, behind all that it calls.
-/
import Derived.Test.YtchhbhgbpimegaaDoorBits
namespace Go.Proofs.YtchhbhgbpimegaaDoor
structure St where
  ws : Nat → Int
  rd : Nat
  ord : List Nat
def dec1 (ws : Nat → Int) (c : Nat) : Nat → Int := fun k => if k = c then ws c - 1 else ws k
def relax1 (s : (Nat → Int) × Nat) (c : Nat) : (Nat → Int) × Nat := (dec1 s.1 c, if s.1 c - 1 = 0 then s.2 ||| 2 ^ c else s.2)
def relax (cs : List Nat) (s : (Nat → Int) × Nat) : (Nat → Int) × Nat := cs.foldl relax1 s
/-- Those that call f, rising. -/
def callersOf (n : Nat) (G : Nat → List Nat) (f : Nat) : List Nat := (List.range n).filter fun c => (G c).contains f
def oneStep (n : Nat) (G : Nat → List Nat) (s : St) : St :=
  ⟨(relax (callersOf n G (Lib.ctz 64 s.rd)) (s.ws, without s.rd (Lib.ctz 64 s.rd))).1, (relax (callersOf n G (Lib.ctz 64 s.rd)) (s.ws, without s.rd (Lib.ctz 64 s.rd))).2, s.ord ++ [Lib.ctz 64 s.rd]⟩
def step (n : Nat) (G : Nat → List Nat) (s : St) : St := if s.rd = 0 then s else oneStep n G s
def steps (n : Nat) (G : Nat → List Nat) : Nat → St → St
  | 0, s => s
  | k + 1, s => step n G (steps n G k s)
def rdy (G : Nat → List Nat) (x c : Nat) : Nat := if ((G c).length : Int) = 0 then x ||| 2 ^ c else x
def start (n : Nat) (G : Nat → List Nat) : St := ⟨fun c => (G c).length, (List.range n).foldl (rdy G) 0, []⟩
def orderL (n : Nat) (G : Nat → List Nat) : List Nat := (steps n G n (start n G)).ord
/-- What a graph is: each function calls such ones, each once. -/
structure IsG (n : Nat) (G : Nat → List Nat) : Prop where
  n64 : n ≤ 64
  lt : ∀ f, f < n → ∀ c ∈ G f, c < n
  once : ∀ f, f < n → (G f).Nodup
structure Inv (n : Nat) (G : Nat → List Nat) (s : St) : Prop where
  rd64 : s.rd < 18446744073709551616
  nd : s.ord.Nodup
  lt : ∀ f ∈ s.ord, f < n
  ws : ∀ c, c < n → s.ws c = ((G c).filter fun k => !s.ord.contains k).length
  rd : ∀ c, s.rd.testBit c = decide (c < n ∧ c ∉ s.ord ∧ s.ws c = 0)
  front : ∀ l f r, s.ord = l ++ f :: r → ∀ c ∈ G f, c ∈ l
theorem two64 : (18446744073709551616 : Nat) = 2 ^ 64 := by decide
theorem or_bit_lt (x c : Nat) (hx : x < 18446744073709551616) (hc : c < 64) : x ||| 2 ^ c < 18446744073709551616 := by
  rw [two64] at *
  exact Nat.or_lt_two_pow hx (Nat.pow_lt_pow_right (by decide) hc)
theorem or_bit_bit (x c i : Nat) : (x ||| 2 ^ c).testBit i = (x.testBit i || decide (i = c)) := by
  rw [Nat.testBit_or, Nat.testBit_two_pow]
  congr 1
  by_cases h : i = c
  · subst h; simp
  · have h' : ¬ c = i := fun e => h e.symm
    simp [h, h']
theorem relax_ws (cs : List Nat) (s : (Nat → Int) × Nat) (hn : cs.Nodup) (k : Nat) : (relax cs s).1 k = s.1 k - (if k ∈ cs then 1 else 0) := by
  induction cs generalizing s with
  | nil => simp [relax]
  | cons c cs ih =>
    have hc := (List.nodup_cons.1 hn).1
    have := ih (relax1 s c) (List.nodup_cons.1 hn).2
    show (relax cs (relax1 s c)).1 k = _
    rw [this]
    simp only [relax1, dec1, List.mem_cons]
    by_cases hk : k = c
    · subst hk
      simp [hc]
    · simp [hk]
theorem relax_rd (cs : List Nat) (s : (Nat → Int) × Nat) (hn : cs.Nodup) (k : Nat) : (relax cs s).2.testBit k = (s.2.testBit k || decide (k ∈ cs ∧ s.1 k - 1 = 0)) := by
  induction cs generalizing s with
  | nil => simp [relax]
  | cons c cs ih =>
    have hc := (List.nodup_cons.1 hn).1
    have := ih (relax1 s c) (List.nodup_cons.1 hn).2
    show (relax cs (relax1 s c)).2.testBit k = _
    rw [this]
    simp only [relax1, dec1, List.mem_cons]
    by_cases hk : k = c
    · subst hk
      by_cases h0 : s.1 k - 1 = 0
      · rw [if_pos h0, or_bit_bit]
        simp [h0]
      · simp [h0, hc]
    · have hk' : ¬ c = k := fun e => hk e.symm
      by_cases h0 : s.1 c - 1 = 0
      · rw [if_pos h0, or_bit_bit]
        simp [hk]
      · simp [h0, hk]
theorem relax_lt (cs : List Nat) (s : (Nat → Int) × Nat) (h : s.2 < 18446744073709551616) (hc : ∀ c ∈ cs, c < 64) : (relax cs s).2 < 18446744073709551616 := by
  induction cs generalizing s with
  | nil => exact h
  | cons c cs ih =>
    refine ih (relax1 s c) ?_ (fun k hk => hc k (by simp [hk]))
    simp only [relax1]
    split
    · exact or_bit_lt _ _ h (hc c (by simp))
    · exact h
theorem callersOf_nodup (n : Nat) (G : Nat → List Nat) (f : Nat) : (callersOf n G f).Nodup := List.nodup_range.filter _
theorem mem_callersOf (n : Nat) (G : Nat → List Nat) (f c : Nat) : c ∈ callersOf n G f ↔ c < n ∧ f ∈ G c := by simp [callersOf]
theorem rdy_bit (G : Nat → List Nat) (l : List Nat) (x c : Nat) : (l.foldl (rdy G) x).testBit c = (x.testBit c || decide (c ∈ l ∧ (G c).length = 0)) := by
  induction l generalizing x with
  | nil => simp
  | cons k l ih =>
    rw [List.foldl_cons, ih]
    simp only [rdy, List.mem_cons]
    by_cases hk : c = k
    · subst hk
      by_cases h0 : (G c).length = 0
      · have h1 : ((G c).length : Int) = 0 := by omega
        rw [if_pos h1, or_bit_bit]
        simp [h0]
      · have h1 : ¬ ((G c).length : Int) = 0 := by omega
        rw [if_neg h1]
        simp [h0]
    · by_cases h0 : ((G k).length : Int) = 0
      · rw [if_pos h0, or_bit_bit]
        simp [hk]
      · rw [if_neg h0]
        simp [hk]
theorem rdy_lt (G : Nat → List Nat) (l : List Nat) (x : Nat) (hx : x < 18446744073709551616) (hl : ∀ c ∈ l, c < 64) : l.foldl (rdy G) x < 18446744073709551616 := by
  induction l generalizing x with
  | nil => exact hx
  | cons k l ih =>
    rw [List.foldl_cons]
    refine ih _ ?_ (fun c hc => hl c (by simp [hc]))
    simp only [rdy]
    split
    · exact or_bit_lt _ _ hx (hl k (by simp))
    · exact hx
theorem start_inv {n : Nat} {G : Nat → List Nat} (hG : IsG n G) : Inv n G (start n G) := by
  have h64 := hG.n64
  refine ⟨rdy_lt G _ 0 (by decide) (fun c hc => ?_), by simp [start], by simp [start], ?_, ?_, ?_⟩
  · have := List.mem_range.1 hc
    omega
  · intro c _
    show ((G c).length : Int) = _
    rw [List.filter_eq_self.2 (fun k _ => by simp [start])]
  · intro c
    simp only [start, rdy_bit]
    simp
  · intro l f r h
    simp [start] at h
theorem filter_drop (l : List Nat) (o : List Nat) (f : Nat) (hn : l.Nodup) (hf : f ∉ o) : ((l.filter fun k => !(o ++ [f]).contains k).length : Int) = ((l.filter fun k => !o.contains k).length : Int) - (if f ∈ l then 1 else 0) := by
  induction l with
  | nil => simp
  | cons a l ih =>
    have ha := (List.nodup_cons.1 hn).1
    have := ih (List.nodup_cons.1 hn).2
    by_cases hfa : f = a
    · subst hfa
      rw [if_neg ha] at this
      simp only [List.filter_cons]
      have h1 : (!(o ++ [f]).contains f) = false := by simp
      have h2 : (!o.contains f) = true := by simpa using hf
      rw [h1, h2]
      simp only [List.mem_cons, true_or, if_true]
      simp only [Bool.false_eq_true, if_false, List.length_cons]
      omega
    · have h3 : (!(o ++ [f]).contains a) = (!o.contains a) := by
        have hne : ¬ a = f := fun e => hfa e.symm
        simp [hne]
      have h4 : (f ∈ a :: l) ↔ f ∈ l := by simp [hfa]
      simp only [List.filter_cons, h3, h4]
      by_cases ho : (!o.contains a) = true
      · rw [if_pos ho, if_pos ho]
        simp only [List.length_cons]
        omega
      · rw [if_neg ho, if_neg ho]
        exact this
theorem oneStep_inv {n : Nat} {G : Nat → List Nat} (hG : IsG n G) {s : St} (h : Inv n G s) (h0 : s.rd ≠ 0) : Inv n G (oneStep n G s) := by
  obtain ⟨k64, kbit, kmin⟩ := ctz_bits s.rd h.rd64 h0
  unfold oneStep
  generalize Lib.ctz 64 s.rd = f at *
  have hk := kbit
  rw [h.rd f] at hk
  obtain ⟨fn, fo, fw⟩ := of_decide_eq_true hk
  have hall : ∀ c ∈ G f, c ∈ s.ord := by
    have h1 := h.ws f fn
    rw [fw] at h1
    have h2 : ((G f).filter fun k => !s.ord.contains k) = [] := List.eq_nil_of_length_eq_zero (by omega)
    rw [List.filter_eq_nil_iff] at h2
    intro c hc
    simpa using h2 c hc
  have hff : f ∉ G f := fun hf => fo (hall f hf)
  have hws : ∀ k, (relax (callersOf n G f) (s.ws, without s.rd f)).1 k = s.ws k - (if k < n ∧ f ∈ G k then 1 else 0) := by
    intro k
    rw [relax_ws _ _ (callersOf_nodup n G f) k]
    simp only [mem_callersOf]
  have hw2 : ∀ c, c < n → s.ws c - (if c < n ∧ f ∈ G c then 1 else 0) = ((G c).filter fun k => !(s.ord ++ [f]).contains k).length := by
    intro c hc
    rw [filter_drop _ _ _ (hG.once c hc) fo, ← h.ws c hc]
    simp [hc]
  refine ⟨?_, ?_, ?_, ?_, ?_, ?_⟩
  · refine relax_lt _ _ ?_ ?_
    · show without s.rd f < _
      rw [two64]
      rw [without]
      have h9 : 18446744073709551615 - 2 ^ f < 2 ^ 64 := Nat.lt_of_le_of_lt (Nat.sub_le _ _) (by decide)
      exact Nat.and_lt_two_pow _ h9
    · intro c hc
      have := ((mem_callersOf n G f c).1 hc).1
      have := hG.n64
      omega
  · show (s.ord ++ [f]).Nodup
    rw [List.nodup_append]
    exact ⟨h.nd, by simp, fun a ha b hb e => by rw [List.mem_singleton] at hb; subst e hb; exact fo ha⟩
  · intro k hk2
    rcases List.mem_append.1 hk2 with h6 | h6
    · exact h.lt k h6
    · rw [List.mem_singleton] at h6
      subst h6
      exact fn
  · intro c hc
    show (relax (callersOf n G f) (s.ws, without s.rd f)).1 c = _
    rw [hws, hw2 c hc]
  · intro c
    show (relax (callersOf n G f) (s.ws, without s.rd f)).2.testBit c = _
    rw [relax_rd _ _ (callersOf_nodup n G f) c, without_bit _ _ _ h.rd64 k64, h.rd c]
    simp only [hws, mem_callersOf]
    by_cases hc : c < n
    · by_cases hcf : f = c
      · subst hcf
        simp [hff]
      · by_cases hfc : f ∈ G c
        · have hco : c ∉ s.ord := by
            intro hco
            obtain ⟨l, r, hlr⟩ := List.append_of_mem hco
            have := h.front l c r hlr f hfc
            exact fo (by rw [hlr]; simp [this])
          have hw3 : ¬ s.ws c = 0 := by
            intro hw0
            have h1 := h.ws c hc
            rw [hw0] at h1
            have h2 : ((G c).filter fun k => !s.ord.contains k) = [] := List.eq_nil_of_length_eq_zero (by omega)
            rw [List.filter_eq_nil_iff] at h2
            have := h2 f hfc
            simp at this
            exact fo this
          have hcf' : ¬ c = f := fun e => hcf e.symm
          simp [hc, hfc, hcf', hco, hw3]
        · have hcf' : ¬ c = f := fun e => hcf e.symm
          simp [hc, hfc, hcf, hcf']
    · simp [hc]
  · intro l g r hlr c hc
    have hlr : s.ord ++ [f] = l ++ g :: r := hlr
    rcases List.append_eq_append_iff.1 hlr with ⟨us, h7, h8⟩ | ⟨bs, h7, h8⟩
    · cases us with
      | nil =>
        simp only [List.nil_append, List.cons.injEq] at h8
        obtain ⟨h9, _⟩ := h8
        subst h9
        rw [h7]
        simpa using hall c hc
      | cons a us => simp at h8
    · cases bs with
      | nil =>
        simp only [List.nil_append, List.cons.injEq] at h8
        obtain ⟨h9, _⟩ := h8
        subst h9
        rw [← List.append_nil l, ← h7]
        exact hall c hc
      | cons b bs =>
        simp only [List.cons_append, List.cons.injEq] at h8
        obtain ⟨rfl, _⟩ := h8
        exact h.front l g bs h7 c hc
theorem oneStep_len (n : Nat) (G : Nat → List Nat) (s : St) : (oneStep n G s).ord.length = s.ord.length + 1 := by simp [oneStep]
theorem inv_len {n : Nat} {G : Nat → List Nat} {s : St} (h : Inv n G s) : s.ord.length ≤ n := by
  have h2 := List.Nodup.length_le_of_subset h.nd (l₂ := List.range n) (fun f hf => List.mem_range.2 (h.lt f hf))
  simpa using h2
theorem inv_len_lt {n : Nat} {G : Nat → List Nat} (hG : IsG n G) {s : St} (h : Inv n G s) (h0 : s.rd ≠ 0) : s.ord.length < n := by
  have := inv_len (oneStep_inv hG h h0)
  rw [oneStep_len] at this
  omega
theorem steps_inv {n : Nat} {G : Nat → List Nat} (hG : IsG n G) (k : Nat) : Inv n G (steps n G k (start n G)) := by
  induction k with
  | zero => exact start_inv hG
  | succ k ih =>
    show Inv n G (step n G (steps n G k (start n G)))
    unfold step
    split
    · exact ih
    · next h0 => exact oneStep_inv hG ih h0
theorem steps_len {n : Nat} {G : Nat → List Nat} (k : Nat) (h : (steps n G k (start n G)).rd ≠ 0) : (steps n G k (start n G)).ord.length = k := by
  induction k with
  | zero => rfl
  | succ k ih =>
    have he : steps n G (k + 1) (start n G) = step n G (steps n G k (start n G)) := rfl
    rw [he] at h ⊢
    unfold step at h ⊢
    split at h
    · next h0 => exact absurd h0 h
    · next h0 => rw [if_neg h0, oneStep_len, ih h0]
theorem steps_end {n : Nat} {G : Nat → List Nat} (hG : IsG n G) : (steps n G n (start n G)).rd = 0 := by
  refine Classical.byContradiction fun h => ?_
  have h1 := steps_len n h
  have h2 := inv_len_lt hG (steps_inv hG n) h
  omega
theorem steps_stay {n : Nat} {G : Nat → List Nat} (k m : Nat) (h : (steps n G k (start n G)).rd = 0) : steps n G (k + m) (start n G) = steps n G k (start n G) := by
  induction m with
  | zero => rfl
  | succ m ih =>
    show step n G (steps n G (k + m) (start n G)) = _
    rw [ih]
    unfold step
    rw [if_pos h]
/-- The k-th state is the last one, as soon as none may be next. -/
theorem steps_last {n : Nat} {G : Nat → List Nat} (k : Nat) (hk : k ≤ n) (h : (steps n G k (start n G)).rd = 0) : (steps n G k (start n G)).ord = orderL n G := by
  have := steps_stay k (n - k) h
  rw [show k + (n - k) = n from by omega] at this
  rw [orderL, this]
theorem orderL_inv {n : Nat} {G : Nat → List Nat} (hG : IsG n G) : Inv n G (steps n G n (start n G)) := steps_inv hG n
theorem orderL_all {n : Nat} {G : Nat → List Nat} (hG : IsG n G) (hl : ∀ f, f < n → ∀ c ∈ G f, c < f) : ∀ f, f < n → f ∈ orderL n G := by
  have h := orderL_inv hG
  have h0 := steps_end hG
  intro f
  induction f using Nat.strongRecOn with
  | ind f ih =>
    intro hf
    refine Classical.byContradiction fun hn => ?_
    have h1 := h.rd f
    rw [h0, Nat.zero_testBit] at h1
    have hw := of_decide_eq_false h1.symm
    have hw2 : ¬ (steps n G n (start n G)).ws f = 0 := fun e => hw ⟨hf, hn, e⟩
    refine hw2 ?_
    rw [h.ws f hf]
    have : ((G f).filter fun k => !(steps n G n (start n G)).ord.contains k) = [] := by
      rw [List.filter_eq_nil_iff]
      intro c hc
      have := ih c (hl f hf c hc) (hG.lt f hf c hc)
      simpa [orderL] using this
    rw [this]
    rfl
theorem orderL_len {n : Nat} {G : Nat → List Nat} (hG : IsG n G) (hl : ∀ f, f < n → ∀ c ∈ G f, c < f) : (orderL n G).length = n := by
  have h1 := inv_len (orderL_inv hG)
  have h2 := List.Nodup.length_le_of_subset (List.nodup_range (n := n)) (l₂ := orderL n G) (fun f hf => orderL_all hG hl f (List.mem_range.1 hf))
  simp at h2
  exact Nat.le_antisymm h1 h2
end Go.Proofs.YtchhbhgbpimegaaDoor
