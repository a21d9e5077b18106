/-
  Plainly: in a graph whose functions call lesser ones alone, depths are the greatest needs of all ways; each function's place in the order stands behind those of all that it calls; the bound.
-/
import Derived.Test.YtchhbhgbpimegaaDoorBound
namespace Go.Proofs.YtchhbhgbpimegaaDoor
theorem deep_fold_stay (G : Nat → List Nat) (sz : List Int) (r : List Nat) (D : Nat → Int) (k : Nat) (h : k ∉ r) : (r.foldl (deep1 G sz) D) k = D k := by
  induction r generalizing D with
  | nil => rfl
  | cons f r ih =>
    rw [List.foldl_cons, ih _ (fun hk => h (by simp [hk]))]
    unfold deep1
    rw [if_neg (fun e => h (by simp [e]))]
theorem deep_stay (G : Nat → List Nat) (sz : List Int) (l r : List Nat) (k : Nat) (h : k ∉ r) : deepL G sz (l ++ r) k = deepL G sz l k := by
  rw [deepL, List.foldl_append]
  exact deep_fold_stay G sz r _ k h
/-- What a depth is, in an order that is one. -/
theorem deepL_eq (G : Nat → List Nat) (sz : List Int) (ol : List Nat) (hn : ol.Nodup) (hfr : ∀ l f r, ol = l ++ f :: r → ∀ c ∈ G f, c ∈ l) (f : Nat) (hf : f ∈ ol) :
    deepL G sz ol f = max (toldI sz f) 0 + greatL ((G f).map (deepL G sz ol)) := by
  obtain ⟨l, r, rfl⟩ := List.append_of_mem hf
  have hnd := List.nodup_append.1 hn
  have hnd2 := List.nodup_cons.1 hnd.2.1
  have h1 : deepL G sz (l ++ f :: r) f = deepL G sz (l ++ [f]) f := by
    rw [show l ++ f :: r = (l ++ [f]) ++ r by simp]
    exact deep_stay G sz _ r f hnd2.1
  rw [h1, deepL_snoc, deep1, if_pos rfl]
  congr 2
  apply List.map_congr_left
  intro c hc
  have hcl := hfr l f r rfl c hc
  exact (deep_stay G sz l (f :: r) c (fun h => hnd.2.2 c hcl c h rfl)).symm
theorem foldl_max_le_iff (l : List Int) (x b : Int) : l.foldl max x ≤ b ↔ x ≤ b ∧ ∀ y ∈ l, y ≤ b := by
  constructor
  · intro h
    have h2 := le_foldl_max l x
    exact ⟨by omega, fun y hy => by have := h2.2 y hy; omega⟩
  · intro h
    exact foldl_max_le l x b h.1 h.2
theorem foldl_max_same (l m : List Int) (h : ∀ y, y ∈ l ↔ y ∈ m) : l.foldl max 0 = m.foldl max 0 := by
  apply Int.le_antisymm
  · rw [foldl_max_le_iff]
    have := (foldl_max_le_iff m 0 (m.foldl max 0)).1 (Int.le_refl _)
    exact ⟨this.1, fun y hy => this.2 y ((h y).1 hy)⟩
  · rw [foldl_max_le_iff]
    have := (foldl_max_le_iff l 0 (l.foldl max 0)).1 (Int.le_refl _)
    exact ⟨this.1, fun y hy => this.2 y ((h y).2 hy)⟩
/-- The greatest need of all ways. -/
theorem deep_walk {n : Nat} {G : Nat → List Nat} {sz : List Int} (hF : Fine n G) (hl : ∀ f, f < n → ∀ c ∈ G f, c < f) (hsz : Sizes sz) (f : Nat) (hf : f < n) :
    deepL (cnt G) sz (orderL n (cnt G)) f = max (toldI sz f) 0 + ((G f).map (deepL (cnt G) sz (orderL n (cnt G)))).foldl max 0 := by
  have hI := orderL_inv hF.isG
  have hlc : ∀ f, f < n → ∀ c ∈ cnt G f, c < f := fun f hf c hc => hl f hf c ((mem_cnt hF.n64 (hF.lt f hf) c).1 hc)
  rw [deepL_eq (cnt G) sz (orderL n (cnt G)) hI.nd hI.front f (orderL_all hF.isG hlc f hf)]
  congr 1
  rw [greatL_foldl]
  · apply foldl_max_same
    intro y
    simp only [List.mem_map, mem_cnt hF.n64 (hF.lt f hf)]
  · intro y hy
    obtain ⟨c, _, rfl⟩ := List.mem_map.1 hy
    exact (deepL_small (cnt G) sz hsz _ c).1
theorem order_whole {n : Nat} {G : Nat → List Nat} (hF : Fine n G) (hl : ∀ f, f < n → ∀ c ∈ G f, c < f) : (orderL n (cnt G)).length = n :=
  orderL_len hF.isG fun f hf c hc => hl f hf c ((mem_cnt hF.n64 (hF.lt f hf) c).1 hc)
/-- The places, of the first j. -/
def atF (ol : List Nat) (j : Nat) (c : Nat) : Int := if ol.idxOf c < j then ((ol.idxOf c : Nat) : Int) + 1 else 0
theorem atF_zero (ol : List Nat) : atF ol 0 = fun _ => 0 := by
  funext c
  simp [atF]
theorem idx_at {ol : List Nat} (hn : ol.Nodup) {j f : Nat} (h : ol[j]? = some f) : ol.idxOf f = j := by
  obtain ⟨hj, rfl⟩ := List.getElem?_eq_some_iff.1 h
  exact hn.idxOf_getElem j hj
theorem atF_step {ol : List Nat} (hn : ol.Nodup) {j f : Nat} (h : ol[j]? = some f) : atF ol (j + 1) = fun c => if c = f then ((j : Nat) : Int) + 1 else atF ol j c := by
  funext c
  unfold atF
  by_cases hc : c = f
  · subst hc
    rw [if_pos rfl, idx_at hn h, if_pos (Nat.lt_succ_self j)]
  · rw [if_neg hc]
    by_cases h1 : ol.idxOf c < j
    · rw [if_pos h1, if_pos (by omega)]
    · rw [if_neg h1, if_neg]
      intro h2
      have h3 : ol.idxOf c = j := by omega
      obtain ⟨hj, hjf⟩ := List.getElem?_eq_some_iff.1 h
      have h4 : ol[ol.idxOf c]'(by omega) = c := List.getElem_idxOf (by omega)
      simp only [h3] at h4
      exact hc (by rw [← h4, hjf])
theorem atF_new {ol : List Nat} (hn : ol.Nodup) {j f : Nat} (h : ol[j]? = some f) : atF ol j f = 0 := by
  rw [atF, idx_at hn h, if_neg (Nat.lt_irrefl j)]
theorem atF_before {n : Nat} {G : Nat → List Nat} (hF : Fine n G) (hl : ∀ f, f < n → ∀ c ∈ G f, c < f) (f c : Nat) (hf : f < n) (hc : c ∈ G f) : ¬ atF (orderL n (cnt G)) n c > atF (orderL n (cnt G)) n f := by
  have hI := orderL_inv hF.isG
  have hw := order_whole hF hl
  have hlc : ∀ f, f < n → ∀ c ∈ cnt G f, c < f := fun f hf c hc => hl f hf c ((mem_cnt hF.n64 (hF.lt f hf) c).1 hc)
  have hm := orderL_all hF.isG hlc f hf
  obtain ⟨l, r, hlr⟩ := List.append_of_mem hm
  have hcl := hI.front l f r hlr c ((mem_cnt hF.n64 (hF.lt f hf) c).2 hc)
  have hnd : (l ++ f :: r).Nodup := hlr ▸ hI.nd
  have hfl : f ∉ l := fun h => (List.nodup_append.1 hnd).2.2 f h f (by simp) rfl
  have h1 : (orderL n (cnt G)).idxOf f = l.length := by
    rw [hlr, List.idxOf_append, if_neg hfl]
    simp
  have h2 : (orderL n (cnt G)).idxOf c < l.length := by
    rw [hlr, List.idxOf_append, if_pos hcl]
    exact List.idxOf_lt_length_of_mem hcl
  have h3 : l.length < n := by
    rw [hlr] at hw
    simp at hw
    omega
  unfold atF
  rw [if_pos (by omega), if_pos (by omega)]
  omega
/-- The need, as the law reckons it. -/
def mostL (pr : List Int) (D : Nat → Int) (p : Nat) : Nat → Int
  | 0 => 0
  | f + 1 => if pr.getD f 0 = (p : Int) then max (mostL pr D p f) (D f) else mostL pr D p f
def needL (n : Nat) (pr : List Int) (D : Nat → Int) : Nat → Int
  | 0 => D (n - 1)
  | p + 1 => needL n pr D p + mostL pr D (p + 1) n
theorem toldI_nat (l : List Int) (f : Nat) (h : f < l.length) : toldI l (f : Nat) = l.getD f 0 := by
  have : ¬ ((f : Int) < 0 ∨ (l.length : Int) ≤ f) := by omega
  rw [toldI, if_neg this]
  rfl
theorem most_prio (pr : List Int) (D : Nat → Int) (hD : ∀ f, 0 ≤ D f) (p k : Nat) (hp : 1 ≤ p) (hp7 : p ≤ 7) (hk : k ≤ pr.length) : greatL (prioL k pr D p) = mostL pr D p k := by
  induction k with
  | zero => rfl
  | succ k ih =>
    have ih := ih (by omega)
    have hnn : ∀ y ∈ prioL k pr D p, 0 ≤ y := fun y hy => by
      obtain ⟨f, rfl⟩ := mem_prioL hy
      exact hD f
    have ht := toldI_nat pr k (by omega)
    rw [mostL]
    by_cases h : pr.getD k 0 = (p : Int)
    · rw [if_pos h, prioL_yes k pr D p ⟨by rw [ht, h], hp, hp7⟩, greatL_foldl _ (fun y hy => ?_), List.foldl_append, ← greatL_foldl _ hnn, ih]
      · rfl
      · rcases List.mem_append.1 hy with h1 | h1
        · exact hnn y h1
        · rw [List.mem_singleton] at h1
          rw [h1]
          exact hD k
    · rw [if_neg h, prioL_no k pr D p (fun h2 => h (by rw [← ht]; exact h2.1)), ih]
theorem prioL_zero (n : Nat) (pr : List Int) (D : Nat → Int) : prioL n pr D 0 = [] := by
  unfold prioL
  have : ((List.range n).filter fun f => toldI pr (f : Nat) == ((0 : Nat) : Int) && decide (1 ≤ 0) && decide (0 ≤ 7)) = [] := by
    rw [List.filter_eq_nil_iff]
    intro f _
    simp
  rw [this]
  rfl
theorem toldI_last (n : Nat) (D : Nat → Int) (hn : 1 ≤ n) : toldI ((List.range n).map D) ((n : Int) - 1) = D (n - 1) := by
  have : ((n : Int) - 1) = ((n - 1 : Nat) : Int) := by omega
  rw [this, toldI_nat _ _ (by simp; omega)]
  have hlt : n - 1 < n := by omega
  simp [hlt]
theorem bound_need (n : Nat) (pr : List Int) (D : Nat → Int) (hD : ∀ f, 0 ≤ D f) (hn : 1 ≤ n) (hpr : pr.length = n) : boundL n pr D ((n : Int) - 1) = needL n pr D 7 := by
  have h : ∀ p, p ≤ 7 → toldI ((List.range n).map D) ((n : Int) - 1) + sumTo n pr D (p + 1) = needL n pr D p := by
    intro p
    induction p with
    | zero =>
      intro _
      rw [toldI_last n D hn]
      simp [sumTo, needL, prioL_zero, greatL]
    | succ p ih =>
      intro hp
      have ih := ih (by omega)
      rw [needL, ← ih, ← most_prio pr D hD (p + 1) n (by omega) hp (by omega)]
      show _ + (sumTo n pr D (p + 1) + _) = _
      omega
  exact h 7 (by decide)
theorem prioL_nil (n : Nat) (D : Nat → Int) (p : Nat) : prioL n [] D p = [] := by
  unfold prioL
  have : ((List.range n).filter fun f => toldI [] (f : Nat) == (p : Int) && decide (1 ≤ p) && decide (p ≤ 7)) = [] := by
    rw [List.filter_eq_nil_iff]
    intro f _
    have : toldI [] (f : Nat) = 0 := by
      unfold toldI
      split <;> simp
    rw [this]
    simp
    omega
  rw [this]
  rfl
theorem sumTo_nil (n : Nat) (D : Nat → Int) (p : Nat) : sumTo n [] D p = 0 := by
  induction p with
  | zero => rfl
  | succ p ih => rw [sumTo, ih, prioL_nil]; rfl
theorem bound_main (n : Nat) (D : Nat → Int) (hn : 1 ≤ n) : boundL n [] D ((n : Int) - 1) = D (n - 1) := by
  rw [boundL, sumTo_nil, toldI_last n D hn]
  omega
theorem bound_none (n : Nat) (D : Nat → Int) : boundL n [] D (-1) = 0 := by
  rw [boundL, sumTo_nil, toldI, if_pos (by omega)]
  rfl
theorem bound_empty (pr : List Int) (D : Nat → Int) (m : Int) : boundL 0 pr D m = 0 := by
  have h : ∀ p, sumTo 0 pr D p = 0 := by
    intro p
    induction p with
    | zero => rfl
    | succ p ih => rw [sumTo, ih]; rfl
  rw [boundL, h]
  unfold toldI
  split <;> simp
end Go.Proofs.YtchhbhgbpimegaaDoor
