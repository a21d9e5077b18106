/-
  The document's own Lex by its contract. Condition: the text is shorter than 2^46 bytes.
-/
import Derived.Test.YtmebcenjghagoaaGreatDoorRefT
import Derived.Deep.AppendLies
import Derived.Maps.AppendAt
namespace Go.Proofs.YtmebcenjghagoaaGreatDoor
open Go.RowKit

/-- A token's cells. -/
def tkC (x : Tk) : List Value := [.int .i64 (x.k : Int), .int .i64 (x.p : Int), .int .i64 (x.l : Int), .string x.t, .int .i64 x.n]
/-- A slice of tokens of one's own. -/
def OwnT (w : World) (base : Nat) (v : Value) (l : List Tk) : Prop := w.ownsRow base 38 5 v l.length (l.flatMap tkC)
theorem tkC_len (x : Tk) : (tkC x).length = 5 := rfl
theorem tkinfo : (Tryz.prog.info? 38).map (fun i => (i.zero, i.size, i.bytes)) = some (some (.agg #[.int .i64 0, .int .i64 0, .int .i64 0, .string ⟨#[]⟩, .int .i64 0]), 5, 48) := by kernel_rfl
theorem OwnT.form {w : World} {base : Nat} {v : Value} {l : List Tk} (h : OwnT w base v l) : ∃ A cap, v = .slice A l.length cap := by
  rcases h.2 with ⟨rfl, h0⟩ | ⟨g, cap, cur, rfl, _⟩
  · exact ⟨none, 0, by rw [h0]⟩
  · exact ⟨_, _, rfl⟩
theorem OwnT.below {w w' : World} {base B : Nat} {v : Value} {l : List Tk} (h : OwnT w base v l) (hb : Below B w w') (hB : w.heap.size ≤ B) : OwnT w' base v l := by
  refine ⟨h.1, ?_⟩
  rcases h.2 with h2 | ⟨g, cap, cur, hv, hg, hh, r⟩
  · exact Or.inl h2
  · have hlt : g < w.heap.size := by
      rcases Nat.lt_or_ge g w.heap.size with h1 | h1
      · exact h1
      · rw [Array.getElem?_eq_none h1] at hh; cases hh
    exact Or.inr ⟨g, cap, cur, hv, hg, (hb.block g (by omega)).trans hh, r⟩
theorem news_tk (w : World) (x : Tk) (b : Nat) (hb : w.heap.size = b) : ∀ j u, (tkC x)[j]? = some u → (w.alloc (.cells #[.int .i64 (x.k : Int), .int .i64 (x.p : Int), .int .i64 (x.l : Int), .string x.t, .int .i64 x.n] 38)).cell? ((⟨b, 0, none⟩ : Addr).add j) = some u := by
  subst hb
  exact World.news_of_block (heap_alloc_new w _)
theorem tkC_one (x : Tk) : ∀ u ∈ tkC x, u.oneCell' = true := by
  intro u hu
  simp only [tkC, List.mem_cons, List.not_mem_nil, or_false] at hu
  rcases hu with rfl | rfl | rfl | rfl | rfl <;> rfl
theorem OwnT.snoc {w : World} {base : Nat} {v : Value} {l : List Tk} {x : Tk} (h : w.ownsRow base 38 5 v (l.length + 1) (l.flatMap tkC ++ tkC x)) : OwnT w base v (l ++ [x]) := by
  unfold OwnT
  rw [List.length_append, List.flatMap_append]
  simpa using h
theorem OwnT.mono {w : World} {base base' : Nat} {v : Value} {l : List Tk} (h : OwnT w base v l) (hB : base' ≤ base) : OwnT w base' v l := by
  refine ⟨h.1, ?_⟩
  rcases h.2 with h2 | ⟨g, cap, cur, hv, hg, r⟩
  · exact Or.inl h2
  · exact Or.inr ⟨g, cap, cur, hv, by omega, r⟩
theorem OwnT.alloc {w : World} {base : Nat} {v : Value} {l : List Tk} (h : OwnT w base v l) (o : Obj) : OwnT (w.alloc o) base v l := World.ownsRow.alloc h o
theorem OwnT.set {w : World} {b : Nat} {v : Value} {l : List Tk} (h : OwnT w (b + 1) v l) (i : Nat) (u : Value) : OwnT (w.setCell ⟨b, i, none⟩ u) (b + 1) v l := by
  refine ⟨h.1, ?_⟩
  rcases h.2 with h2 | ⟨g, cap, cur, hv, hg, hh, r⟩
  · exact Or.inl h2
  · exact Or.inr ⟨g, cap, cur, hv, hg, (Below.heap_setCell _ _ _ _ (by simp; omega)).trans hh, r⟩
theorem tk3 (w : World) (x : Tk) (o o' : Obj) : (((w.alloc (.cells #[.int .i64 (x.k : Int), .int .i64 (x.p : Int), .int .i64 (x.l : Int), .string x.t, .int .i64 x.n] 38)).alloc o).alloc o').cell? ⟨w.heap.size, 3, none⟩ = some (.string x.t) := by
  rw [World.cell?_alloc_lt _ _ ⟨w.heap.size, 3, none⟩ (by simp; omega), World.cell?_alloc_lt _ _ ⟨w.heap.size, 3, none⟩ (by simp), cell_of_row _ w.heap.size 3 _ _ _ (heap_alloc_new w _)]
  rfl
theorem own_ne {w : World} {base : Nat} {v : Value} {l : List Tk} (h : OwnT w base v l) (b : Nat) (hb : w.heap.size ≤ b) : some b ≠ v.ownBlock := by
  intro e
  have := (World.ownsRow.lt h b e.symm).2
  omega
set_option maxRecDepth 100000 in
set_option maxHeartbeats 8000000 in
theorem rLex_any (s : ByteArray) (w : World) (hs : s.size ≤ 70368744177664) :
    Calls Tryz.prog 27 #[.string s] w fun e w' => ∃ v, e = .returned (.tuple #[v, fltV (lexS s).2.1 (lexS s).2.2]) ∧ OwnT w' w.heap.size v (lexS s).1 ∧ Below w.heap.size w w' := by
  have HB := Lib.hid (fun (p : Nat) (hp : p ≤ s.size) (w : World) => rbetween_any s p w hs hp)
  have HO := Lib.hid (fun (p : Nat) (hp : p < s.size) (w : World) => by have := rone_any s p w hs hp; rw [oneV_eq] at this; exact this)
  have HLi := Lib.hid (fun w => rLine_any s (s.size : Int) w hs (by omega))
  by_cases hlong : 20000 < s.size
  · have e0 : lexS s = ([], (4, 20000)) := by unfold lexS; rw [if_pos hlong]
    have hl2 : (20000 : Int) < (s.size : Int) := by omega
    rw [e0]
    clear e0 hlong
    go_enter Tryz.func27, Tryz.ntmps27
    go_wp2
    refine bodyPost_ret (v := .tuple #[.slice none 0 0, .agg #[.int .i64 4, .int .i64 20000]]) (by simp [results, Tryz.results27, go_sem]) rfl ⟨_, rfl, World.ownsRow_nil _ _ _ _, ?_⟩
    exact (Below.refl _ _).alloc (Nat.le_refl _) _
  · have e0 : lexS s = lexA s (gap s 0) [] := by unfold lexS; rw [if_neg hlong]
    have H0 := Lib.hid e0
    have hl2 : ¬ (20000 : Int) < (s.size : Int) := by omega
    clear e0 hlong
    obtain ⟨i0, hi0, hz0, hz1, hz2⟩ := info_parts tkinfo
    have H9 := Lib.hid hz0
    have H10 := Lib.hid hz1
    have H11 := Lib.hid hz2
    have H12 := Lib.hid hi0
    clear hz0 hz1 hz2 hi0
    go_enter Tryz.func27, Tryz.ntmps27
    go_wp2_with (go_at_call 43; refine (HB.out 0 (Nat.zero_le _) _).mono ?_; rintro e w' ⟨rfl, rfl⟩)
    go_loopw [4, 5] (fun v i wr => ∃ (p : Nat) (acc : List Tk), p ≤ s.size ∧ i = .int .i64 p ∧ OwnT wr (w.heap.size + 1) v acc ∧ Hid (lexA s p acc = lexA s (gap s 0) []) ∧ acc.length ≤ p ∧ wr.heap[w.heap.size]? = some (.cells #[.int .i64 0, .int .i64 0] 49 (0, 0)) ∧ Below w.heap.size w wr ∧ w.heap.size + 1 ≤ wr.heap.size) (fun _ i _ => s.size - (intOf i).toNat)
    case atStart => exact ⟨gap s 0, [], gap_le s 0 (Nat.zero_le _), rfl, World.ownsRow_nil _ _ _ _, rfl, Nat.zero_le _, heap_alloc_new w _, (Below.refl _ _).alloc (Nat.le_refl _) _, by simp⟩
    case round =>
      obtain ⟨p, acc, hp, rfl, hown, HA, hacc, hres, hbw, hsz⟩ := hrel
      have HOW := Lib.hid hown
      have HRS := Lib.hid hres
      have HBW := Lib.hid hbw
      clear hown hres hbw
      by_cases hlt : p < s.size
      · obtain ⟨Av, cv, hv⟩ := HOW.out.form
        subst hv
        obtain ⟨⟨tk, fc, fa⟩, ho⟩ : ∃ r, oneT s p = r := ⟨_, rfl⟩
        have hO := HO.out p hlt wr
        rw [ho] at hO
        unfold tkV tokV fltV at hO
        by_cases hf : fc = 0
        · subst hf
          have hok := oneT_ok s p hlt (by rw [ho])
          rw [ho] at hok
          have hst := lexA_step s p acc hlt (by rw [ho])
          rw [ho] at hst
          simp only at hok hst
          have hO2 : Calls Tryz.prog 44 #[.string s, .int .i64 (p : Int)] wr fun e w' => e = .returned (.tuple #[.agg #[.int .i64 (tk.k : Int), .int .i64 (tk.p : Int), .int .i64 (tk.l : Int), .string tk.t, .int .i64 tk.n], .agg #[.int .i64 0, .int .i64 (fa : Int)]]) ∧ Below wr.heap.size wr w' := hO
          have HO2 := Lib.hid hO2
          have HST := Lib.hid hst
          have HB2 := Lib.hid (HB.out (p + tk.t.size) hok.2)
          rw [show ((p + tk.t.size : Nat) : Int) = (p : Int) + (tk.t.size : Int) from by omega] at HB2
          clear ho hO hO2 hst
          go_wp2_with (first
            | (go_at_call 44; refine HO2.out.mono ?_; rintro e w2 ⟨rfl, hb2⟩; have B2 := Lib.hid hb2; have hz2 := hb2.size; have O2 := Lib.hid (HOW.out.below hb2 (Nat.le_refl _)); clear hb2)
            | (at_builtin; refine wpList_append_own_at _ rfl (.tmp 28) (.tmp 30) _ rfl (w.heap.size + 1) 38 i0 _ 5 48 Tryz.underlying29 H12.out H9.out H10.out H11.out rfl (by omega) (.slice Av acc.length cv) acc.length (acc.flatMap tkC) rfl (((O2.out.alloc _).alloc _).alloc _) ⟨w2.heap.size + 1 + 1, 0, none⟩ 1 1 (tkC tk) rfl rfl (news_tk _ tk _ (by simp)) (tkC_one tk) (by simp only [maxLen]; omega) (by omega) (by simp; omega) ?_; intro v3 w3 hown3 hg3 _ hblk3; have O3 := Lib.hid hown3; have G3 := Lib.hid hg3; clear hown3 hg3 hblk3; have hc3 : w3.cell? ⟨w2.heap.size, 3, none⟩ = some (.string tk.t) := (G3.out.cell_far _ (by simp; omega) (own_ne O2.out _ (Nat.le_refl _))).trans (tk3 w2 tk _ _))
            | (go_at_call 43; refine (HB2.out _).mono ?_; rintro e w' ⟨rfl, rfl⟩))
          have hgg := gap_ge s (p + tk.t.size)
          have b2 := HBW.out.trans (B2.out.mono HBW.out.size)
          have hw2 : w.heap.size + 1 ≤ w2.heap.size := by omega
          have b5 := (((b2.alloc b2.size _).alloc (by simp; omega) _).alloc (by simp; omega) _).grown G3.out (by simp; omega) (fun k hk => by have := (World.ownsRow.lt HOW.out k hk).1; omega)
          have hr := (G3.out.block w.heap.size (by simp; omega) (fun e => by have := (World.ownsRow.lt HOW.out w.heap.size e.symm).1; omega)).trans ((Below.heap_alloc _ _ _ (by simp; omega)).trans ((Below.heap_alloc _ _ _ (by simp; omega)).trans ((Below.heap_alloc _ _ _ (by omega)).trans ((B2.out.block w.heap.size (by omega)).trans HRS.out))))
          have hz3 := G3.out.size
          simp only [World.size_alloc] at hz3
          exact ⟨⟨gap s (p + tk.t.size), acc ++ [tk], gap_le s _ hok.2, rfl, OwnT.snoc O3.out, by rw [Hid, ← HST.out]; exact HA.out, by rw [List.length_append, List.length_singleton]; omega, hr, b5, by omega⟩, by simp only [intOf]; omega⟩
        · have kf : ((fc : Int) != 0) = true := by simp; omega
          have hbad := lexA_bad s p acc hlt (by rw [ho]; exact hf)
          rw [ho] at hbad
          have HR : Hid (lexS s = ([], (fc, fa))) := by rw [Hid, H0.out, ← HA.out, hbad]
          have HO2 := Lib.hid hO
          clear ho hO hbad hf
          go_wp2_with (go_at_call 44; refine HO2.out.mono ?_; rintro e w2 ⟨rfl, hb2⟩; have B2 := Lib.hid hb2; have hz2 := hb2.size; have hres2 := (hb2.block w.heap.size (by omega)).trans HRS.out; have hq0 := cell_of_row w2 w.heap.size 0 _ _ _ hres2; have hq1 := cell_of_row w2 w.heap.size 1 _ _ _ hres2; clear hb2)
          have hf0 : w2.frozen? ⟨w.heap.size, 0, none⟩ = false := by simp [World.frozen?, hres2]
          have hf1 : w2.frozen? ⟨w.heap.size, 1, none⟩ = false := by simp [World.frozen?, hres2]
          have g0 : ∀ o1 o2, ((w2.alloc o1).alloc o2).cell? ⟨w.heap.size, 0, none⟩ = some (.int .i64 0) := fun o1 o2 => by rw [World.cell?_alloc_lt _ _ ⟨w.heap.size, 0, none⟩ (by simp; omega), World.cell?_alloc_lt _ _ ⟨w.heap.size, 0, none⟩ (by simp; omega), hq0]; rfl
          have g1 : ∀ o1 o2, ((w2.alloc o1).alloc o2).cell? ⟨w.heap.size, 1, none⟩ = some (.int .i64 0) := fun o1 o2 => by rw [World.cell?_alloc_lt _ _ ⟨w.heap.size, 1, none⟩ (by simp; omega), World.cell?_alloc_lt _ _ ⟨w.heap.size, 1, none⟩ (by simp; omega), hq1]; rfl
          have g2 : ∀ o1 o2, ((w2.alloc o1).alloc o2).frozen? ⟨w.heap.size, 0, none⟩ = false := fun o1 o2 => by rw [World.frozen?_alloc_old _ _ ⟨w.heap.size, 0, none⟩ (by simp; omega), World.frozen?_alloc_old _ _ ⟨w.heap.size, 0, none⟩ (by simp; omega), hf0]
          have g3 : ∀ o1 o2, ((w2.alloc o1).alloc o2).frozen? ⟨w.heap.size, 1, none⟩ = false := fun o1 o2 => by rw [World.frozen?_alloc_old _ _ ⟨w.heap.size, 1, none⟩ (by simp; omega), World.frozen?_alloc_old _ _ ⟨w.heap.size, 1, none⟩ (by simp; omega), hf1]
          clear hres2 hq0 hq1 hf0 hf1
          go_region
          go_wp2
          refine bodyPost_ret (v := .tuple #[.slice none 0 0, .agg #[.int .i64 (fc : Int), .int .i64 (fa : Int)]]) (by simp [results, Tryz.results27, go_sem, g0, g1]) rfl ⟨_, by rw [HR.out]; rfl, by rw [HR.out]; exact World.ownsRow_nil _ _ _ _, ?_⟩
          exact (((((HBW.out.trans (B2.out.mono HBW.out.size)).alloc (by omega) _).alloc (by simp; omega) _).setCell (Nat.le_refl _) _).setCell (Nat.le_refl _) _).drew
      · have hend := lexA_end s p acc hlt
        have HR : Hid (lexS s = (acc ++ [⟨0, s.size, lineS s s.size, ByteArray.empty, 0⟩], (0, 0))) := by rw [Hid, H0.out, ← HA.out, hend]
        have HL2 := HLi
        rw [Int.toNat_natCast] at HL2
        obtain ⟨Av, cv, hv⟩ := HOW.out.form
        subst hv
        have hq0 := cell_of_row wr w.heap.size 0 _ _ _ HRS.out
        have hq1 := cell_of_row wr w.heap.size 1 _ _ _ HRS.out
        have hf0 : wr.frozen? ⟨w.heap.size, 0, none⟩ = false := by simp [World.frozen?, HRS.out]
        have hf1 : wr.frozen? ⟨w.heap.size, 1, none⟩ = false := by simp [World.frozen?, HRS.out]
        have hrow : ∀ b, b = w.heap.size → some b ≠ (Value.slice Av acc.length cv).ownBlock := fun b hb e => by have := (World.ownsRow.lt HOW.out b e.symm).1; omega
        have HF := Lib.hid (And.intro hq0 (And.intro hq1 (And.intro hf0 (And.intro hf1 hrow))))
        clear hend hq0 hq1 hf0 hf1 hrow
        go_wp2_with (first
          | (go_at_call 11; refine (HL2.out _).mono ?_; rintro e w' ⟨rfl, rfl⟩)
          | (at_builtin; refine wpList_append_own_at _ rfl (.tmp 39) (.tmp 47) _ rfl (w.heap.size + 1) 38 i0 _ 5 48 Tryz.underlying29 H12.out H9.out H10.out H11.out rfl (by omega) (.slice Av acc.length cv) acc.length (acc.flatMap tkC) rfl (HOW.out.alloc _) ⟨wr.heap.size, 0, none⟩ 1 1 (tkC ⟨0, s.size, lineS s s.size, ByteArray.empty, 0⟩) rfl rfl (news_tk wr ⟨0, s.size, lineS s s.size, ByteArray.empty, 0⟩ _ rfl) (tkC_one _) (by simp only [maxLen]; omega) (by omega) (by simp; omega) ?_; intro v3 w3 hown3 hg3 _ hblk3; have O3 := Lib.hid hown3; have G3 := Lib.hid hg3; clear hown3 hg3 hblk3; have e0 : w3.cell? ⟨w.heap.size, 0, none⟩ = some (.int .i64 0) := (G3.out.cell_far _ (by simp; omega) (HF.out.2.2.2.2 _ rfl)).trans ((World.cell?_alloc_lt _ _ ⟨w.heap.size, 0, none⟩ (by simp; omega)).trans HF.out.1); have e1 : w3.cell? ⟨w.heap.size, 1, none⟩ = some (.int .i64 0) := (G3.out.cell_far _ (by simp; omega) (HF.out.2.2.2.2 _ rfl)).trans ((World.cell?_alloc_lt _ _ ⟨w.heap.size, 1, none⟩ (by simp; omega)).trans HF.out.2.1); have e2 : w3.frozen? ⟨w.heap.size, 0, none⟩ = false := (G3.out.frozen_far _ (by simp; omega) (HF.out.2.2.2.2 _ rfl)).trans ((World.frozen?_alloc_old _ _ ⟨w.heap.size, 0, none⟩ (by simp; omega)).trans HF.out.2.2.1); have e3 : w3.frozen? ⟨w.heap.size, 1, none⟩ = false := (G3.out.frozen_far _ (by simp; omega) (HF.out.2.2.2.2 _ rfl)).trans ((World.frozen?_alloc_old _ _ ⟨w.heap.size, 1, none⟩ (by simp; omega)).trans HF.out.2.2.2.1)))
        have b3 := (HBW.out.alloc (by omega) _).grown G3.out (by simp; omega) (fun k hk => by have := (World.ownsRow.lt HOW.out k hk).1; omega)
        refine bodyPost_ret (v := .tuple #[v3, .agg #[.int .i64 0, .int .i64 0]]) (by simp [results, Tryz.results27, go_sem, e0, e1]) rfl ⟨_, by rw [HR.out]; rfl, ?_, ?_⟩
        · rw [HR.out]
          exact OwnT.mono ((OwnT.set (OwnT.set (OwnT.snoc O3.out) 0 _) 1 _)) (Nat.le_succ _)
        · exact (b3.setCell (Nat.le_refl _) _).setCell (Nat.le_refl _) _
end Go.Proofs.YtmebcenjghagoaaGreatDoor
