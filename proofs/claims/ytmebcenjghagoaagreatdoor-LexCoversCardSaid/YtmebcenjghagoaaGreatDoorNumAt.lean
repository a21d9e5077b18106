/-
  The program's own numberAt, by its contract. Conditions: the listed variables marks and strconv.ErrRange hold what they hold; the text is shorter than 2^46 bytes.
-/
import Derived.Test.YtmebcenjghagoaaGreatDoorPuAll
namespace Go.Proofs.YtmebcenjghagoaaGreatDoor
open Go.RowKit

/-- What the listed variables hold. -/
structure LaidL (w : World) : Prop where
  mks : MarksAt w
  er : ∃ te pe, w.cell? ⟨4, 0, none⟩ = some (.iface te pe)
  et : w.cell? ⟨0, 0, none⟩ = some (.iface 109 (.agg #[.pointer (some ⟨8, 31, none⟩)]))
theorem LaidL.lt {w : World} (h : LaidL w) : 5 ≤ w.heap.size := by
  obtain ⟨te, pe, h1⟩ := h.er
  have h2 := World.block_lt_of_cell? w _ h1
  simp at h2
  omega
theorem LaidL.below {w w' : World} {B : Nat} (h : LaidL w) (hb : Below B w w') (hB : 5 ≤ B) : LaidL w' := by
  obtain ⟨te, pe, h1⟩ := h.er
  exact ⟨fun k m hm => (hb.cell (p := ⟨2, k, none⟩) (by simp; omega)).trans (h.mks k m hm), ⟨te, pe, (hb.cell (p := ⟨4, 0, none⟩) (by simp; omega)).trans h1⟩, (hb.cell (p := ⟨0, 0, none⟩) (by simp; omega)).trans h.et⟩
/-- The zero token's cells. -/
abbrev tokZ : Array Value := #[.int .i64 0, .int .i64 0, .int .i64 0, .string ⟨#[]⟩, .int .i64 0]
theorem tok_cells {w' : World} {b : Nat} (hr : w'.heap[b]? = some (.cells #[.int .i64 0, .int .i64 0, .int .i64 0, .string ⟨#[]⟩, .int .i64 0] 38 (0, 0))) :
    (w'.cell? ⟨b, 0, none⟩ = some (.int .i64 0) ∧ w'.cell? ⟨b, 1, none⟩ = some (.int .i64 0) ∧ w'.cell? ⟨b, 2, none⟩ = some (.int .i64 0) ∧ w'.cell? ⟨b, 3, none⟩ = some (.string ⟨#[]⟩) ∧ w'.cell? ⟨b, 4, none⟩ = some (.int .i64 0)) ∧
    (w'.frozen? ⟨b, 0, none⟩ = false ∧ w'.frozen? ⟨b, 1, none⟩ = false ∧ w'.frozen? ⟨b, 2, none⟩ = false ∧ w'.frozen? ⟨b, 3, none⟩ = false ∧ w'.frozen? ⟨b, 4, none⟩ = false) := by
  refine ⟨⟨?_, ?_, ?_, ?_, ?_⟩, ?_, ?_, ?_, ?_, ?_⟩
  · rw [cell_of_row w' b 0 _ _ _ hr]; rfl
  · rw [cell_of_row w' b 1 _ _ _ hr]; rfl
  · rw [cell_of_row w' b 2 _ _ _ hr]; rfl
  · rw [cell_of_row w' b 3 _ _ _ hr]; rfl
  · rw [cell_of_row w' b 4 _ _ _ hr]; rfl
  all_goals simp [World.frozen?, hr]
theorem alloc_at (W : World) (o : Obj) (b : Nat) (hb : W.heap.size = b) : (W.alloc o).heap[b]? = some o := by subst hb; exact heap_alloc_new W o
theorem isW_wend (s : ByteArray) (e : Nat) : (isW s e = true → e < wend s e) ∧ (isW s e = false → wend s e = e) := by
  constructor
  · intro h
    rcases isW_ways s e with ⟨h1, h2, _⟩ | ⟨h1, _, h2, _⟩ | ⟨_, _, _, h2⟩ | ⟨_, h2⟩
    · rw [wend_step s e h1 (Or.inl h2)]
      have := wend_ge s (e + 1)
      omega
    · rw [wend_step s e h1 (Or.inr h2)]
      have := wend_ge s (e + 1)
      omega
    · rw [h2] at h; cases h
    · rw [h2] at h; cases h
  · intro h
    rcases isW_ways s e with ⟨_, _, h2⟩ | ⟨_, _, _, h2⟩ | ⟨h1, h2, h3, _⟩ | ⟨h1, _⟩
    · rw [h2] at h; cases h
    · rw [h2] at h; cases h
    · exact wend_stop s e (fun _ h4 => by simp [h2, h3] at h4)
    · exact wend_stop s e (fun h4 => absurd h4 h1)
theorem numE_pu (s : ByteArray) (p b m from_ : Nat) (hb : ∀ c, ofK m c = true ↔ (0 ≤ hexS c ∧ hexS c < (b : Int))) (h1 : 1 ≤ b) (hn : numE s p = numS s (b : Int) from_ 0) (hf : from_ ≤ s.size) :
    (numE s p).2 = spanS (ofK m) s from_ ∧ (∀ v, puS (s.extract from_ (spanS (ofK m) s from_)) b 0 (spanS (ofK m) s from_ - from_) 0 = some v → (numE s p).1 = (v : Int) ∧ v ≤ 4294967295) ∧ (puS (s.extract from_ (spanS (ofK m) s from_)) b 0 (spanS (ofK m) s from_ - from_) 0 = none → 4294967296 ≤ (numE s p).1) := by
  have he := numS_end s (b : Int) m hb from_ 0
  have h2 := numS_pu s b m hb h1 from_ 0 (by omega)
  have hge := span_ge (ofK m) s from_
  have hle := span_le (ofK m) s from_ hf
  have h3 := pu_extract s b from_ (spanS (ofK m) s from_) 0 0 hle hge
  rw [Nat.add_zero] at h3
  rw [h3, hn]
  refine ⟨he, fun v hv => ?_, fun hv => ?_⟩
  · rw [hv] at h2
    exact ⟨h2, pu_le s b from_ _ 0 v (by omega) hv⟩
  · rw [hv] at h2
    exact h2
theorem digitT_x (s : ByteArray) (p : Nat) (h : isX s p = true) (h2 : (numE s p).2 = p + 2) : digitT s p = (⟨0, p, lineS s p, ByteArray.empty, 0⟩, (7, p + 2)) := by
  unfold digitT; rw [if_pos ⟨h, h2⟩]
theorem digitT_n (s : ByteArray) (p e : Nat) (he : (numE s p).2 = e) (h : ¬ (isX s p = true ∧ e = p + 2)) (h2 : 4294967296 ≤ (numE s p).1) : digitT s p = (⟨0, p, lineS s p, ByteArray.empty, 0⟩, (10, p)) := by
  unfold digitT; rw [he, if_neg h, if_pos h2]
theorem digitT_w (s : ByteArray) (p e v : Nat) (he : (numE s p).2 = e) (h : ¬ (isX s p = true ∧ e = p + 2)) (hv : (numE s p).1 = (v : Int) ∧ v ≤ 4294967295) (h3 : isW s e = true) : digitT s p = (⟨0, p, lineS s p, ByteArray.empty, 0⟩, (7, e)) := by
  unfold digitT; rw [he, if_neg h, if_neg (by omega), if_pos h3]
theorem digitT_t (s : ByteArray) (p e v : Nat) (he : (numE s p).2 = e) (h : ¬ (isX s p = true ∧ e = p + 2)) (hv : (numE s p).1 = (v : Int) ∧ v ≤ 4294967295) (h3 : isW s e = false) : digitT s p = (⟨2, p, lineS s p, s.extract p e, (v : Int)⟩, (0, 0)) := by
  unfold digitT; rw [he, if_neg h, if_neg (by omega), if_neg (by simp [h3]), hv.1]
end Go.Proofs.YtmebcenjghagoaaGreatDoor
