/-
  The law's arguments as rows of bytes, and what its first loop builds: a graph, sizes and priorities, each row in a block of its own.
-/
import Derived.Test.YtchhbhgbpimegaaDoorWalk
namespace Go.Proofs.YtchhbhgbpimegaaDoor
open Go.RowKit
set_option linter.unusedVariables false
/-- At v lie these bytes. -/
def BytesIs (w : World) (v : Value) (l : List Nat) : Prop := ∃ A c, v = .slice A l.length c ∧ l.length ≤ maxLen ∧ (∀ x ∈ l, x < 256) ∧ ∀ j x, l[j]? = some x → ∃ a, A = some a ∧ w.cell? (a.add j) = some (.int .u8 (x : Nat))
/-- At v lie n rows of bytes. -/
def RawIs (w : World) (v : Value) (n : Nat) (R : Nat → List Nat) : Prop := ∃ A c, v = .slice A n c ∧ n ≤ maxLen ∧ ∀ f, f < n → ∃ a u, A = some a ∧ w.cell? (a.add f) = some u ∧ BytesIs w u (R f)
theorem BytesIs.below {w w' : World} {v : Value} {l : List Nat} (h : BytesIs w v l) (hb : Below w.heap.size w w') : BytesIs w' v l := by
  obtain ⟨A, c, rfl, hl, h2, h3⟩ := h
  refine ⟨A, c, rfl, hl, h2, fun j x hj => ?_⟩
  obtain ⟨a, hA, hc⟩ := h3 j x hj
  exact ⟨a, hA, cell_below hc hb⟩
theorem RawIs.below {w w' : World} {v : Value} {n : Nat} {R : Nat → List Nat} (h : RawIs w v n R) (hb : Below w.heap.size w w') : RawIs w' v n R := by
  obtain ⟨A, c, rfl, hl, h3⟩ := h
  refine ⟨A, c, rfl, hl, fun f hf => ?_⟩
  obtain ⟨a, u, hA, hc, hr⟩ := h3 f hf
  exact ⟨a, u, hA, cell_below hc hb, hr.below hb⟩
/-- What has been built so far. -/
structure Built (B : Nat) (w : World) (gv sv pv : Value) (us : List Value) (G : List (List Nat)) (sz pr : List Int) : Prop where
  g : w.ownsRow B 36 1 gv us.length us
  s : w.ownsRow B 3 1 sv sz.length (sz.map jv)
  p : w.ownsRow B 3 1 pv pr.length (pr.map jv)
  len : us.length = G.length
  row : ∀ (f : Nat) (u : Value) (l : List Nat), us[f]? = some u → G[f]? = some l → w.ownsRow B 3 1 u l.length (l.map iv)
  ug : ∀ u ∈ us, ∀ b, u.ownBlock = some b → gv.ownBlock ≠ some b ∧ sv.ownBlock ≠ some b ∧ pv.ownBlock ≠ some b
  gs : ∀ b, gv.ownBlock = some b → sv.ownBlock ≠ some b ∧ pv.ownBlock ≠ some b
  sp : ∀ b, sv.ownBlock = some b → pv.ownBlock ≠ some b
  ok : ∀ (f : Nat) (l : List Nat), G[f]? = some l → l.length ≤ 5 ∧ ∀ c ∈ l, c < f
  sok : ∀ x ∈ sz, 0 ≤ x ∧ x < 40
  pok : ∀ x ∈ pr, 0 ≤ x ∧ x < 8
theorem Built.start (B : Nat) (w : World) : Built B w (.slice none 0 0) (.slice none 0 0) (.slice none 0 0) [] [] [] [] :=
  ⟨World.ownsRow_nil _ _ _ _, World.ownsRow_nil _ _ _ _, World.ownsRow_nil _ _ _ _, rfl, by simp, by simp, (fun b hb => by cases hb), (fun b hb => by cases hb), by simp, by simp, by simp⟩
theorem Built.grow {B : Nat} {w w' : World} {gv sv pv : Value} {us : List Value} {G : List (List Nat)} {sz pr : List Int} (h : Built B w gv sv pv us G sz pr) (hg : w.grownBy w' none) : Built B w' gv sv pv us G sz pr :=
  ⟨own_ne h.g hg (by simp), own_ne h.s hg (by simp), own_ne h.p hg (by simp), h.len, fun f u l hu hl => own_ne (h.row f u l hu hl) hg (by simp), h.ug, h.gs, h.sp, h.ok, h.sok, h.pok⟩
theorem Built.addG {B : Nat} {w w3 : World} {gv sv pv g3 u : Value} {us : List Value} {G : List (List Nat)} {l : List Nat} {sz pr : List Int} (h : Built B w gv sv pv us G sz pr) (hg : w.grownBy w3 gv.ownBlock)
    (ho : w3.ownsRow B 36 1 g3 (us.length + 1) (us ++ [u])) (hb : ∀ b, g3.ownBlock = some b → gv.ownBlock = some b ∨ w.heap.size ≤ b) (hu : w.ownsRow B 3 1 u l.length (l.map iv))
    (hua : ∀ b, u.ownBlock = some b → gv.ownBlock ≠ some b ∧ sv.ownBlock ≠ some b ∧ pv.ownBlock ≠ some b) (hl : l.length ≤ 5 ∧ ∀ c ∈ l, c < G.length) : Built B w3 g3 sv pv (us ++ [u]) (G ++ [l]) sz pr := by
  have hrows : ∀ t ∈ us ++ [u], ∀ b, t.ownBlock = some b → gv.ownBlock ≠ some b ∧ sv.ownBlock ≠ some b ∧ pv.ownBlock ≠ some b := by
    intro t ht b hb
    rcases List.mem_append.1 ht with h1 | h1
    · exact h.ug t h1 b hb
    · rw [List.mem_singleton] at h1
      subst h1
      exact hua b hb
  have hsmall : ∀ t ∈ us ++ [u], ∀ b, t.ownBlock = some b → b < w.heap.size := by
    intro t ht b hb
    rcases List.mem_append.1 ht with h1 | h1
    · obtain ⟨f, hf, rfl⟩ := List.mem_iff_getElem.1 h1
      obtain ⟨l2, hl2⟩ : ∃ l2, G[f]? = some l2 := ⟨_, List.getElem?_eq_getElem (by rw [← h.len]; exact hf)⟩
      exact ((h.row f _ l2 (List.getElem?_eq_getElem hf) hl2).lt b hb).2
    · rw [List.mem_singleton] at h1
      subst h1
      exact (hu.lt b hb).2
  refine ⟨by simpa using ho, own_ne h.s hg fun b hb e => (h.gs b e).1 hb, own_ne h.p hg fun b hb e => (h.gs b e).2 hb, by simp [h.len], ?_, ?_, ?_, h.sp, ?_, h.sok, h.pok⟩
  · intro f t l2 ht hl2
    by_cases hf : f < us.length
    · rw [List.getElem?_append_left hf] at ht
      rw [List.getElem?_append_left (by rw [← h.len]; exact hf)] at hl2
      exact own_ne (h.row f t l2 ht hl2) hg fun b hb e => (h.ug t (List.mem_of_getElem? ht) b hb).1 e
    · have hlt := (List.getElem?_eq_some_iff.1 ht).1
      simp only [List.length_append, List.length_singleton] at hlt
      obtain rfl : f = us.length := by omega
      rw [List.getElem?_append_right (Nat.le_refl _)] at ht
      rw [List.getElem?_append_right (by rw [h.len]; exact Nat.le_refl _)] at hl2
      simp only [h.len, Nat.sub_self, List.getElem?_cons_zero, Option.some.injEq] at ht hl2
      subst ht hl2
      exact own_ne hu hg fun b hb e => (hua b hb).1 e
  · intro t ht b hbt
    refine ⟨fun e => ?_, (hrows t ht b hbt).2⟩
    rcases hb b e with h1 | h1
    · exact (hrows t ht b hbt).1 h1
    · have := hsmall t ht b hbt
      omega
  · intro b hb2
    rcases hb b hb2 with h1 | h1
    · exact h.gs b h1
    · exact ⟨fun e => by have := (h.s.lt b e).2; omega, fun e => by have := (h.p.lt b e).2; omega⟩
  · intro f l2 hl2
    by_cases hf : f < G.length
    · rw [List.getElem?_append_left hf] at hl2
      exact h.ok f l2 hl2
    · have hlt := (List.getElem?_eq_some_iff.1 hl2).1
      simp only [List.length_append, List.length_singleton] at hlt
      obtain rfl : f = G.length := by omega
      rw [List.getElem?_append_right (Nat.le_refl _)] at hl2
      simp only [Nat.sub_self, List.getElem?_cons_zero, Option.some.injEq] at hl2
      subst hl2
      exact hl
theorem Built.rowlt {B : Nat} {w : World} {gv sv pv : Value} {us : List Value} {G : List (List Nat)} {sz pr : List Int} (h : Built B w gv sv pv us G sz pr) (u : Value) (hu : u ∈ us) (b : Nat) (hb : u.ownBlock = some b) : b < w.heap.size := by
  obtain ⟨f, hf, rfl⟩ := List.mem_iff_getElem.1 hu
  obtain ⟨l2, hl2⟩ : ∃ l2, G[f]? = some l2 := ⟨_, List.getElem?_eq_getElem (by rw [← h.len]; exact hf)⟩
  exact ((h.row f _ l2 (List.getElem?_eq_getElem hf) hl2).lt b hb).2
theorem Built.addS {B : Nat} {w w3 : World} {gv sv pv s3 : Value} {us : List Value} {G : List (List Nat)} {sz pr : List Int} {x : Int} (h : Built B w gv sv pv us G sz pr) (hg : w.grownBy w3 sv.ownBlock)
    (ho : w3.ownsRow B 3 1 s3 (sz.length + 1) (sz.map jv ++ [jv x])) (hb : ∀ b, s3.ownBlock = some b → sv.ownBlock = some b ∨ w.heap.size ≤ b) (hx : 0 ≤ x ∧ x < 40) : Built B w3 gv s3 pv us G (sz ++ [x]) pr := by
  refine ⟨own_ne h.g hg fun b hb e => (h.gs b hb).1 e, by simpa using ho, own_ne h.p hg fun b hb e => h.sp b e hb, h.len, fun f u l hu hl => own_ne (h.row f u l hu hl) hg fun b hb e => (h.ug u (List.mem_of_getElem? hu) b hb).2.1 e, ?_, ?_, ?_, h.ok, ?_, h.pok⟩
  · intro u hu b hbu
    refine ⟨(h.ug u hu b hbu).1, fun e => ?_, (h.ug u hu b hbu).2.2⟩
    rcases hb b e with h1 | h1
    · exact (h.ug u hu b hbu).2.1 h1
    · have := h.rowlt u hu b hbu
      omega
  · intro b hbg
    refine ⟨fun e => ?_, (h.gs b hbg).2⟩
    rcases hb b e with h1 | h1
    · exact (h.gs b hbg).1 h1
    · have := (h.g.lt b hbg).2
      omega
  · intro b hbs e
    rcases hb b hbs with h1 | h1
    · exact h.sp b h1 e
    · have := (h.p.lt b e).2
      omega
  · intro y hy
    rcases List.mem_append.1 hy with h1 | h1
    · exact h.sok y h1
    · rw [List.mem_singleton] at h1
      subst h1
      exact hx
theorem Built.addP {B : Nat} {w w3 : World} {gv sv pv p3 : Value} {us : List Value} {G : List (List Nat)} {sz pr : List Int} {x : Int} (h : Built B w gv sv pv us G sz pr) (hg : w.grownBy w3 pv.ownBlock)
    (ho : w3.ownsRow B 3 1 p3 (pr.length + 1) (pr.map jv ++ [jv x])) (hb : ∀ b, p3.ownBlock = some b → pv.ownBlock = some b ∨ w.heap.size ≤ b) (hx : 0 ≤ x ∧ x < 8) : Built B w3 gv sv p3 us G sz (pr ++ [x]) := by
  refine ⟨own_ne h.g hg fun b hb e => (h.gs b hb).2 e, own_ne h.s hg fun b hb e => h.sp b hb e, by simpa using ho, h.len, fun f u l hu hl => own_ne (h.row f u l hu hl) hg fun b hb e => (h.ug u (List.mem_of_getElem? hu) b hb).2.2 e, ?_, ?_, ?_, h.ok, h.sok, ?_⟩
  · intro u hu b hbu
    refine ⟨(h.ug u hu b hbu).1, (h.ug u hu b hbu).2.1, fun e => ?_⟩
    rcases hb b e with h1 | h1
    · exact (h.ug u hu b hbu).2.2 h1
    · have := h.rowlt u hu b hbu
      omega
  · intro b hbg
    refine ⟨(h.gs b hbg).1, fun e => ?_⟩
    rcases hb b e with h1 | h1
    · exact (h.gs b hbg).2 h1
    · have := (h.g.lt b hbg).2
      omega
  · intro b hbs e
    rcases hb b e with h1 | h1
    · exact h.sp b hbs h1
    · have := (h.s.lt b hbs).2
      omega
  · intro y hy
    rcases List.mem_append.1 hy with h1 | h1
    · exact h.pok y h1
    · rw [List.mem_singleton] at h1
      subst h1
      exact hx
theorem Built.graph {B : Nat} {w : World} {gv sv pv : Value} {us : List Value} {G : List (List Nat)} {sz pr : List Int} (h : Built B w gv sv pv us G sz pr) : GraphIs w gv G.length (fun f => G.getD f []) := by
  obtain ⟨A, c, rfl⟩ := own_form h.g
  refine ⟨A, c, by rw [h.len], fun f hf => ?_⟩
  obtain ⟨u, hu⟩ : ∃ u, us[f]? = some u := ⟨_, List.getElem?_eq_getElem (by rw [h.len]; exact hf)⟩
  obtain ⟨b, hb, ⟨c2, hv⟩, hc⟩ := own_cell h.g f u hu
  have hg : G[f]? = some (G.getD f []) := by simp [hf]
  exact ⟨b, u, (Value.slice.inj hv).1, hc, rowIs_own (h.row f u _ hu hg)⟩
theorem Built.fine {B : Nat} {w : World} {gv sv pv : Value} {us : List Value} {G : List (List Nat)} {sz pr : List Int} (h : Built B w gv sv pv us G sz pr) (h9 : G.length ≤ 9) :
    Fine G.length (fun f => G.getD f []) ∧ ∀ f, f < G.length → ∀ c ∈ G.getD f [], c < f := by
  have hg : ∀ f, f < G.length → G[f]? = some (G.getD f []) := fun f hf => by simp [hf]
  refine ⟨⟨by omega, fun f hf c hc => ?_, fun f hf => ?_⟩, fun f hf c hc => (h.ok f _ (hg f hf)).2 c hc⟩
  · have := (h.ok f _ (hg f hf)).2 c hc
    omega
  · have := (h.ok f _ (hg f hf)).1
    omega
end Go.Proofs.YtchhbhgbpimegaaDoor
