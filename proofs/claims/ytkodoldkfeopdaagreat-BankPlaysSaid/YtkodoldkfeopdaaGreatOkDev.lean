/-
  owners, makers: the devices as they lie in interfaces. Made by wip/genbankok.py.
-/
import Derived.Test.YtkodoldkfeopdaaGreatOkReq
import Derived.IntWalk
import Derived.Handy
namespace Go.Proofs.YtkodoldkfeopdaaGreat
open Go.RowKit
set_option linter.unusedVariables false
set_option maxRecDepth 100000
theorem uIntB : Tryz.prog.underlying 3 = some (.int .i64) := by kernel_rfl
theorem mtyD : Tryz.prog.underlying 104 = some (.map 3 106) := by kernel_rfl
abbrev fn0 (f : Nat) : Value := .func (.func f) #[] #[]
abbrev enB (k : Int) (x : Value) (b : Nat) : MapEntry := { key := .int .i64 k, val := x, born := b }
abbrev own : Array MapEntry := #[enB 0 (fn0 59) 0, enB 1 (fn0 59) 1, enB 2 (fn0 59) 2, enB 3 (fn0 60) 3, enB 4 (fn0 60) 4, enB 5 (fn0 60) 5, enB 6 (fn0 61) 6, enB 7 (fn0 61) 7, enB 8 (fn0 61) 8, enB 9 (fn0 62) 9, enB 10 (fn0 62) 10, enB 11 (fn0 62) 11, enB 12 (fn0 63) 12, enB 13 (fn0 63) 13, enB 14 (fn0 63) 14]
set_option maxHeartbeats 1000000 in
theorem owners_any (w : World) : Calls Tryz.prog 38 #[] w fun x w' => x = .returned (.map (some w.heap.size)) ∧ w' = w.alloc (.map own 15) := by
  have hmm := @run_makeMap Tryz.prog
  have i0 := run_ins mtyD uIntB w #[] #[enB 0 (fn0 59) 0] 0 1 0 (fn0 59) rfl rfl rfl
  have i1 := run_ins mtyD uIntB w #[enB 0 (fn0 59) 0] #[enB 0 (fn0 59) 0, enB 1 (fn0 59) 1] 1 2 1 (fn0 59) rfl rfl rfl
  have i2 := run_ins mtyD uIntB w #[enB 0 (fn0 59) 0, enB 1 (fn0 59) 1] #[enB 0 (fn0 59) 0, enB 1 (fn0 59) 1, enB 2 (fn0 59) 2] 2 3 2 (fn0 59) rfl rfl rfl
  have i3 := run_ins mtyD uIntB w #[enB 0 (fn0 59) 0, enB 1 (fn0 59) 1, enB 2 (fn0 59) 2] #[enB 0 (fn0 59) 0, enB 1 (fn0 59) 1, enB 2 (fn0 59) 2, enB 3 (fn0 60) 3] 3 4 3 (fn0 60) rfl rfl rfl
  have i4 := run_ins mtyD uIntB w #[enB 0 (fn0 59) 0, enB 1 (fn0 59) 1, enB 2 (fn0 59) 2, enB 3 (fn0 60) 3] #[enB 0 (fn0 59) 0, enB 1 (fn0 59) 1, enB 2 (fn0 59) 2, enB 3 (fn0 60) 3, enB 4 (fn0 60) 4] 4 5 4 (fn0 60) rfl rfl rfl
  have i5 := run_ins mtyD uIntB w #[enB 0 (fn0 59) 0, enB 1 (fn0 59) 1, enB 2 (fn0 59) 2, enB 3 (fn0 60) 3, enB 4 (fn0 60) 4] #[enB 0 (fn0 59) 0, enB 1 (fn0 59) 1, enB 2 (fn0 59) 2, enB 3 (fn0 60) 3, enB 4 (fn0 60) 4, enB 5 (fn0 60) 5] 5 6 5 (fn0 60) rfl rfl rfl
  have i6 := run_ins mtyD uIntB w #[enB 0 (fn0 59) 0, enB 1 (fn0 59) 1, enB 2 (fn0 59) 2, enB 3 (fn0 60) 3, enB 4 (fn0 60) 4, enB 5 (fn0 60) 5] #[enB 0 (fn0 59) 0, enB 1 (fn0 59) 1, enB 2 (fn0 59) 2, enB 3 (fn0 60) 3, enB 4 (fn0 60) 4, enB 5 (fn0 60) 5, enB 6 (fn0 61) 6] 6 7 6 (fn0 61) rfl rfl rfl
  have i7 := run_ins mtyD uIntB w #[enB 0 (fn0 59) 0, enB 1 (fn0 59) 1, enB 2 (fn0 59) 2, enB 3 (fn0 60) 3, enB 4 (fn0 60) 4, enB 5 (fn0 60) 5, enB 6 (fn0 61) 6] #[enB 0 (fn0 59) 0, enB 1 (fn0 59) 1, enB 2 (fn0 59) 2, enB 3 (fn0 60) 3, enB 4 (fn0 60) 4, enB 5 (fn0 60) 5, enB 6 (fn0 61) 6, enB 7 (fn0 61) 7] 7 8 7 (fn0 61) rfl rfl rfl
  have i8 := run_ins mtyD uIntB w #[enB 0 (fn0 59) 0, enB 1 (fn0 59) 1, enB 2 (fn0 59) 2, enB 3 (fn0 60) 3, enB 4 (fn0 60) 4, enB 5 (fn0 60) 5, enB 6 (fn0 61) 6, enB 7 (fn0 61) 7] #[enB 0 (fn0 59) 0, enB 1 (fn0 59) 1, enB 2 (fn0 59) 2, enB 3 (fn0 60) 3, enB 4 (fn0 60) 4, enB 5 (fn0 60) 5, enB 6 (fn0 61) 6, enB 7 (fn0 61) 7, enB 8 (fn0 61) 8] 8 9 8 (fn0 61) rfl rfl rfl
  have i9 := run_ins mtyD uIntB w #[enB 0 (fn0 59) 0, enB 1 (fn0 59) 1, enB 2 (fn0 59) 2, enB 3 (fn0 60) 3, enB 4 (fn0 60) 4, enB 5 (fn0 60) 5, enB 6 (fn0 61) 6, enB 7 (fn0 61) 7, enB 8 (fn0 61) 8] #[enB 0 (fn0 59) 0, enB 1 (fn0 59) 1, enB 2 (fn0 59) 2, enB 3 (fn0 60) 3, enB 4 (fn0 60) 4, enB 5 (fn0 60) 5, enB 6 (fn0 61) 6, enB 7 (fn0 61) 7, enB 8 (fn0 61) 8, enB 9 (fn0 62) 9] 9 10 9 (fn0 62) rfl rfl rfl
  have i10 := run_ins mtyD uIntB w #[enB 0 (fn0 59) 0, enB 1 (fn0 59) 1, enB 2 (fn0 59) 2, enB 3 (fn0 60) 3, enB 4 (fn0 60) 4, enB 5 (fn0 60) 5, enB 6 (fn0 61) 6, enB 7 (fn0 61) 7, enB 8 (fn0 61) 8, enB 9 (fn0 62) 9] #[enB 0 (fn0 59) 0, enB 1 (fn0 59) 1, enB 2 (fn0 59) 2, enB 3 (fn0 60) 3, enB 4 (fn0 60) 4, enB 5 (fn0 60) 5, enB 6 (fn0 61) 6, enB 7 (fn0 61) 7, enB 8 (fn0 61) 8, enB 9 (fn0 62) 9, enB 10 (fn0 62) 10] 10 11 10 (fn0 62) rfl rfl rfl
  have i11 := run_ins mtyD uIntB w #[enB 0 (fn0 59) 0, enB 1 (fn0 59) 1, enB 2 (fn0 59) 2, enB 3 (fn0 60) 3, enB 4 (fn0 60) 4, enB 5 (fn0 60) 5, enB 6 (fn0 61) 6, enB 7 (fn0 61) 7, enB 8 (fn0 61) 8, enB 9 (fn0 62) 9, enB 10 (fn0 62) 10] #[enB 0 (fn0 59) 0, enB 1 (fn0 59) 1, enB 2 (fn0 59) 2, enB 3 (fn0 60) 3, enB 4 (fn0 60) 4, enB 5 (fn0 60) 5, enB 6 (fn0 61) 6, enB 7 (fn0 61) 7, enB 8 (fn0 61) 8, enB 9 (fn0 62) 9, enB 10 (fn0 62) 10, enB 11 (fn0 62) 11] 11 12 11 (fn0 62) rfl rfl rfl
  have i12 := run_ins mtyD uIntB w #[enB 0 (fn0 59) 0, enB 1 (fn0 59) 1, enB 2 (fn0 59) 2, enB 3 (fn0 60) 3, enB 4 (fn0 60) 4, enB 5 (fn0 60) 5, enB 6 (fn0 61) 6, enB 7 (fn0 61) 7, enB 8 (fn0 61) 8, enB 9 (fn0 62) 9, enB 10 (fn0 62) 10, enB 11 (fn0 62) 11] #[enB 0 (fn0 59) 0, enB 1 (fn0 59) 1, enB 2 (fn0 59) 2, enB 3 (fn0 60) 3, enB 4 (fn0 60) 4, enB 5 (fn0 60) 5, enB 6 (fn0 61) 6, enB 7 (fn0 61) 7, enB 8 (fn0 61) 8, enB 9 (fn0 62) 9, enB 10 (fn0 62) 10, enB 11 (fn0 62) 11, enB 12 (fn0 63) 12] 12 13 12 (fn0 63) rfl rfl rfl
  have i13 := run_ins mtyD uIntB w #[enB 0 (fn0 59) 0, enB 1 (fn0 59) 1, enB 2 (fn0 59) 2, enB 3 (fn0 60) 3, enB 4 (fn0 60) 4, enB 5 (fn0 60) 5, enB 6 (fn0 61) 6, enB 7 (fn0 61) 7, enB 8 (fn0 61) 8, enB 9 (fn0 62) 9, enB 10 (fn0 62) 10, enB 11 (fn0 62) 11, enB 12 (fn0 63) 12] #[enB 0 (fn0 59) 0, enB 1 (fn0 59) 1, enB 2 (fn0 59) 2, enB 3 (fn0 60) 3, enB 4 (fn0 60) 4, enB 5 (fn0 60) 5, enB 6 (fn0 61) 6, enB 7 (fn0 61) 7, enB 8 (fn0 61) 8, enB 9 (fn0 62) 9, enB 10 (fn0 62) 10, enB 11 (fn0 62) 11, enB 12 (fn0 63) 12, enB 13 (fn0 63) 13] 13 14 13 (fn0 63) rfl rfl rfl
  have i14 := run_ins mtyD uIntB w #[enB 0 (fn0 59) 0, enB 1 (fn0 59) 1, enB 2 (fn0 59) 2, enB 3 (fn0 60) 3, enB 4 (fn0 60) 4, enB 5 (fn0 60) 5, enB 6 (fn0 61) 6, enB 7 (fn0 61) 7, enB 8 (fn0 61) 8, enB 9 (fn0 62) 9, enB 10 (fn0 62) 10, enB 11 (fn0 62) 11, enB 12 (fn0 63) 12, enB 13 (fn0 63) 13] own 14 15 14 (fn0 63) rfl rfl rfl
  go_enter Tryz.func38, Tryz.ntmps38
  go_wp2
  go_ret
  exact ⟨rfl, rfl⟩
theorem zfn (w : World) : (zeroValue 106).run Tryz.prog w = .ok .nilFunc w := by kernel_rfl
theorem find_noneB (reg : Int) (h0 : reg ≠ 0) (h1 : reg ≠ 1) (h2 : reg ≠ 2) (h3 : reg ≠ 3) (h4 : reg ≠ 4) (h5 : reg ≠ 5) (h6 : reg ≠ 6) (h7 : reg ≠ 7) (h8 : reg ≠ 8) (h9 : reg ≠ 9) (h10 : reg ≠ 10) (h11 : reg ≠ 11) (h12 : reg ≠ 12) (h13 : reg ≠ 13) (h14 : reg ≠ 14) : Instr.findNow (.int .i64) (.int .i64 reg) own.toList 0 = some none := by
  have f0 : (reg == (0 : Int)) = false := by simpa using h0
  have f1 : (reg == (1 : Int)) = false := by simpa using h1
  have f2 : (reg == (2 : Int)) = false := by simpa using h2
  have f3 : (reg == (3 : Int)) = false := by simpa using h3
  have f4 : (reg == (4 : Int)) = false := by simpa using h4
  have f5 : (reg == (5 : Int)) = false := by simpa using h5
  have f6 : (reg == (6 : Int)) = false := by simpa using h6
  have f7 : (reg == (7 : Int)) = false := by simpa using h7
  have f8 : (reg == (8 : Int)) = false := by simpa using h8
  have f9 : (reg == (9 : Int)) = false := by simpa using h9
  have f10 : (reg == (10 : Int)) = false := by simpa using h10
  have f11 : (reg == (11 : Int)) = false := by simpa using h11
  have f12 : (reg == (12 : Int)) = false := by simpa using h12
  have f13 : (reg == (13 : Int)) = false := by simpa using h13
  have f14 : (reg == (14 : Int)) = false := by simpa using h14
  simp only [Instr.findNow, Instr.sameNow, f0, f1, f2, f3, f4, f5, f6, f7, f8, f9, f10, f11, f12, f13, f14, if_true]
/-- A device, as what it is made of is laid in an interface. -/
abbrev devV (T f c g off : Nat) : Value := .iface T (.agg #[.func (.func f) #[] #[.pointer (some ⟨c, 0, none⟩)], .pointer (some ⟨g, off, none⟩)])
abbrev cntV (c d g off : Nat) (first : Int) : Value := .iface 160 (.agg #[.func (.func 79) #[] #[.pointer (some ⟨c, 0, none⟩), .pointer (some ⟨d, 0, none⟩)], .pointer (some ⟨g, off, none⟩), .int .i64 first])
/-- One cell. -/
def Cell1 (w : World) (c : Nat) (ty : TypeId) (v : Value) : Prop := VRow w c ty [v]
theorem Cell1.below {w w' : World} {c B : Nat} {ty : TypeId} {v : Value} (h : Cell1 w c ty v) (hb : Below B w w') (hc : c < B) : Cell1 w' c ty v := VRow.below h hb hc
theorem pinsOf_any (g : Nat) (w : World) : Calls Tryz.prog 59 #[.pointer (some ⟨g, 0, none⟩)] w fun x w' =>
    x = .returned (devV 141 70 w.heap.size g 0) ∧ Cell1 w' w.heap.size 136 (.pointer (some ⟨g, 0, none⟩)) ∧ Below w.heap.size w w' := by
  go_enter Tryz.func59, Tryz.ntmps59
  go_wp2
  go_ret
  exact ⟨rfl, alloc_at _ _, by go_grown⟩
theorem serialOf_any (g : Nat) (w : World) : Calls Tryz.prog 60 #[.pointer (some ⟨g, 0, none⟩)] w fun x w' =>
    x = .returned (devV 145 72 w.heap.size g 3) ∧ Cell1 w' w.heap.size 142 (.pointer (some ⟨g, 3, none⟩)) ∧ Below w.heap.size w w' := by
  go_enter Tryz.func60, Tryz.ntmps60
  go_wp2
  go_ret
  exact ⟨rfl, alloc_at _ _, by go_grown⟩
theorem controllerOf_any (g : Nat) (w : World) : Calls Tryz.prog 63 #[.pointer (some ⟨g, 0, none⟩)] w fun x w' =>
    x = .returned (devV 151 75 w.heap.size g 30) ∧ Cell1 w' w.heap.size 148 (.pointer (some ⟨g, 30, none⟩)) ∧ Below w.heap.size w w' := by
  go_enter Tryz.func63, Tryz.ntmps63
  go_wp2
  go_ret
  exact ⟨rfl, alloc_at _ _, by go_grown⟩
theorem counterOf_any (g off : Nat) (first : Int) (w : World) : Calls Tryz.prog 74 #[.pointer (some ⟨g, off, none⟩), .int .i64 first] w fun x w' =>
    x = .returned (cntV w.heap.size (w.heap.size + 1) g off first) ∧ Cell1 w' w.heap.size 147 (.pointer (some ⟨g, off, none⟩)) ∧ Cell1 w' (w.heap.size + 1) 3 (.int .i64 first) ∧ Below w.heap.size w w' := by
  go_enter Tryz.func74, Tryz.ntmps74
  go_wp2
  go_ret
  exact ⟨rfl, keep_alloc (alloc_at _ _), by have h := alloc_at (w.alloc (.cells #[.pointer (some ⟨g, off, none⟩)] 147)) (.cells #[.int .i64 first] 3); rw [World.size_alloc] at h; exact h, by go_grown⟩
theorem firstOf_any (g : Nat) (w : World) : Calls Tryz.prog 61 #[.pointer (some ⟨g, 0, none⟩)] w fun x w' =>
    x = .returned (cntV w.heap.size (w.heap.size + 1) g 24 6) ∧ Cell1 w' w.heap.size 147 (.pointer (some ⟨g, 24, none⟩)) ∧ Cell1 w' (w.heap.size + 1) 3 (.int .i64 6) ∧ Below w.heap.size w w' := by
  have i0 := pidx0 g
  have HC := Lib.hid (fun W => counterOf_any g 24 6 W)
  go_enter Tryz.func61, Tryz.ntmps61
  go_wp2_with (go_at_call 74; refine (HC.out _).mono ?_; rintro e W1 ⟨rfl, h1, h2, h3⟩)
  go_ret
  exact ⟨rfl, h1, h2, h3⟩
theorem secondOf_any (g : Nat) (w : World) : Calls Tryz.prog 62 #[.pointer (some ⟨g, 0, none⟩)] w fun x w' =>
    x = .returned (cntV w.heap.size (w.heap.size + 1) g 27 9) ∧ Cell1 w' w.heap.size 147 (.pointer (some ⟨g, 27, none⟩)) ∧ Cell1 w' (w.heap.size + 1) 3 (.int .i64 9) ∧ Below w.heap.size w w' := by
  have i1 := pidx1 g
  have HC := Lib.hid (fun W => counterOf_any g 27 9 W)
  go_enter Tryz.func62, Tryz.ntmps62
  go_wp2_with (go_at_call 74; refine (HC.out _).mono ?_; rintro e W1 ⟨rfl, h1, h2, h3⟩)
  go_ret
  exact ⟨rfl, h1, h2, h3⟩
theorem look_pinsOf (b : Bk) (r : Int) (w : World) (g c : Nat) (ty : TypeId) (h : b.ok) (h0 : -9223372036854775808 ≤ r) (h1 : r ≤ 9223372036854775807) (hr : BRow w g ty b) (hc : Cell1 w c 136 (.pointer (some ⟨g, 0, none⟩))) :
    Calls Tryz.prog 70 #[.int .i64 r, .pointer (some ⟨c, 0, none⟩)] w fun x w' => x = .returned (.int .i32 (Gp.peekN b.o b.i b.e r)) ∧ Below w.heap.size w w' := by
  have KK := Lib.hid (fun W => Gp.gpio_ok.peek b.o b.i b.e r W h.o h.i h.e h0 h1)
  have R0 := Lib.hid hr
  have hb : w.cell? ⟨c, 0, none⟩ = some (.pointer (some ⟨g, 0, none⟩)) := row_cells hc 0 _ rfl
  clear hr hc
  go_enter Tryz.func70, Tryz.ntmps70
  go_wp2_with (first
      | (go_at_call 71; refine (KK.out _).mono ?_; rintro e W1 ⟨rfl, hB⟩)
      | ((with_reducible show wpList _ _ _ (⟨some 6, .load 24 (.tmp 5), _, _, _, _⟩ :: _) _ _); refine wpList_load_dev (by rfl) 24 _ rfl g 0 (by exact rfl) _ Tryz.underlying24 (Gp.gc b.o b.i b.e) (by kernel_rfl) R0.out.gp (Gp.gv b.o b.i b.e) rfl ?_))
  go_ret
  exact ⟨rfl, hB⟩
theorem look_serialOf (b : Bk) (r : Int) (w : World) (g c : Nat) (ty : TypeId) (h : b.ok) (h0 : -9223372036854775808 ≤ r) (h1 : r ≤ 9223372036854775807) (hr : BRow w g ty b) (hc : Cell1 w c 142 (.pointer (some ⟨g, 3, none⟩))) :
    Calls Tryz.prog 72 #[.int .i64 r, .pointer (some ⟨c, 0, none⟩)] w fun x w' => x = .returned (.int .i32 (Ua.peekU b.R b.T b.l b.c r)) ∧ Below w.heap.size w w' := by
  have KK := Lib.hid (fun W => Ua.ru_peek (l := b.l) Ua.uart_ok.peek W h.u r h0 h1)
  have R0 := Lib.hid hr
  have hb : w.cell? ⟨c, 0, none⟩ = some (.pointer (some ⟨g, 3, none⟩)) := row_cells hc 0 _ rfl
  clear hr hc
  go_enter Tryz.func72, Tryz.ntmps72
  go_wp2_with (first
      | (go_at_call 73; refine (KK.out _).mono ?_; rintro e W1 ⟨rfl, hB⟩)
      | ((with_reducible show wpList _ _ _ (⟨some 6, .load 29 (.tmp 5), _, _, _, _⟩ :: _) _ _); refine wpList_load_dev (by rfl) 29 _ rfl g 3 (by exact rfl) _ Tryz.underlying29 (ucs b) (by rw [ucs_length]; kernel_rfl) R0.out.ua (Ua.ur b.R b.T b.l b.c b.k) rfl ?_))
  go_ret
  exact ⟨rfl, hB⟩
theorem look_controllerOf (b : Bk) (r : Int) (w : World) (g c : Nat) (ty : TypeId) (h : b.ok) (h0 : -9223372036854775808 ≤ r) (h1 : r ≤ 9223372036854775807) (hr : BRow w g ty b) (hc : Cell1 w c 148 (.pointer (some ⟨g, 30, none⟩))) :
    Calls Tryz.prog 75 #[.int .i64 r, .pointer (some ⟨c, 0, none⟩)] w fun x w' => x = .returned (.int .i32 (Iq.peekI b.q r)) ∧ Below w.heap.size w w' := by
  have KK := Lib.hid (fun W => Iq.peek_any b.q r W h.q h0 h1)
  have R0 := Lib.hid hr
  have hb : w.cell? ⟨c, 0, none⟩ = some (.pointer (some ⟨g, 30, none⟩)) := row_cells hc 0 _ rfl
  clear hr hc
  go_enter Tryz.func75, Tryz.ntmps75
  go_wp2_with (first
      | (go_at_call 76; refine (KK.out _).mono ?_; rintro e W1 ⟨rfl, hB⟩)
      | ((with_reducible show wpList _ _ _ (⟨some 6, .load 35 (.tmp 5), _, _, _, _⟩ :: _) _ _); refine wpList_load_dev (by rfl) 35 _ rfl g 30 (by exact rfl) _ Tryz.underlying35 (Iq.icc b.q) (by kernel_rfl) R0.out.iq (Iq.cv b.q) rfl ?_))
  go_ret
  exact ⟨rfl, hB⟩
/-- What a counter's closure looks at. -/
structure Cnt (w W : World) (c d g off : Nat) (first : Int) (t : Ti.Tm) : Prop where
  c : Cell1 W c 147 (.pointer (some ⟨g, off, none⟩))
  d : Cell1 W d 3 (.int .i64 first)
  t : CellsAt W g off (Ti.tc t)
  g : g < W.heap.size
  b : Below w.heap.size w W
theorem Cnt.under {w W W' : World} {c d g off : Nat} {first : Int} {t : Ti.Tm} (h : Cnt w W c d g off first t) (hb : Below W.heap.size W W') : Cnt w W' c d g off first t :=
  ⟨h.c.below hb (VRow.lt h.c), h.d.below hb (VRow.lt h.d), h.t.below hb h.g, Nat.lt_of_lt_of_le h.g hb.size, h.b.trans (hb.mono h.b.size)⟩
theorem Cnt.pc {w W : World} {c d g off : Nat} {first : Int} {t : Ti.Tm} (h : Cnt w W c d g off first t) : W.cell? ⟨c, 0, none⟩ = some (.pointer (some ⟨g, off, none⟩)) := row_cells h.c 0 _ rfl
theorem Cnt.pd {w W : World} {c d g off : Nat} {first : Int} {t : Ti.Tm} (h : Cnt w W c d g off first t) : W.cell? ⟨d, 0, none⟩ = some (.int .i64 first) := row_cells h.d 0 _ rfl
theorem look_counterOf (t : Ti.Tm) (r first q : Int) (w : World) (g off c d : Nat) (h : t.ok) (hq : IntKind.i64.wrap (r - first) = q) (h0 : -9223372036854775808 ≤ q) (h1 : q ≤ 9223372036854775807) (hC : Cnt w w c d g off first t) :
    Calls Tryz.prog 79 #[.int .i64 r, .pointer (some ⟨c, 0, none⟩), .pointer (some ⟨d, 0, none⟩)] w fun x w' => x = .returned (.int .i32 (Ti.peekT t q)) ∧ Below w.heap.size w w' := by
  have KK : Hid (∀ W : World, Calls Tryz.prog 80 #[.agg (Ti.tc t).toArray, .int .i64 q] W fun x w' => x = .returned (.int .i32 (Ti.peekT t q)) ∧ Below W.heap.size W w') := Lib.hid (fun W => Ti.timer_ok.peek t q W h h0 h1)
  have HQ := Lib.hid hq
  have R0 := Lib.hid hC
  clear hC hq
  go_enter Tryz.func79, Tryz.ntmps79
  go_upto_region 2 with fail
  refine wp_region_noPanic ?_
  refine wp_region_held_drew (S := fun X => Cnt w X c d g off first t) (by kernel_rfl) (R0.out.under (Below.refl _ _).drew) (fun hHeld => ?_)
  refine' take_ 0 rfl (by kernel_rfl) (by kernel_rfl) (by kernel_rfl) (fun _ _ _ h => h) (by rfl) (fun wS hSw => ?_) hHeld ?_
  rotate_left
  focus (have hb := hSw.pc; go_simp; (try with_reducible rfl); done)
  try simp only [Act.put, List.setIfInBounds_toArray, List.set_cons_zero, List.set_cons_succ]
  refine' take_ 1 rfl (by kernel_rfl) (by kernel_rfl) (by kernel_rfl) (fun _ _ _ h => h) (by rfl) (fun wS hSw => ?_) hHeld ?_
  rotate_left
  focus (go_simp; (try with_reducible rfl); done)
  try simp only [Act.put, List.setIfInBounds_toArray, List.set_cons_zero, List.set_cons_succ]
  refine' take_ 2 rfl (by kernel_rfl) (by kernel_rfl) (by kernel_rfl) (fun _ _ _ h => h) (by rfl) (fun wS hSw => run_load_at wS 32 (.tmp 6) g off rfl (Ti.tc t) _ hSw.t Tryz.underlying32 rfl (by kernel_rfl) _ _ _ _ _) hHeld ?_
  try simp only [Act.put, List.setIfInBounds_toArray, List.set_cons_zero, List.set_cons_succ]
  refine' take_ 3 rfl (by kernel_rfl) (by kernel_rfl) (by kernel_rfl) (fun _ _ _ h => h) (by rfl) (fun wS hSw => ?_) hHeld ?_
  rotate_left
  focus (go_simp; (try with_reducible rfl); done)
  try simp only [Act.put, List.setIfInBounds_toArray, List.set_cons_zero, List.set_cons_succ]
  refine' take_ 4 rfl (by kernel_rfl) (by kernel_rfl) (by kernel_rfl) (fun _ _ _ h => h) (by rfl) (fun wS hSw => ?_) hHeld ?_
  rotate_left
  focus (have hb := hSw.pd; go_simp; (try with_reducible rfl); done)
  try simp only [Act.put, List.setIfInBounds_toArray, List.set_cons_zero, List.set_cons_succ]
  refine' take_ 5 rfl (by kernel_rfl) (by kernel_rfl) (by kernel_rfl) (fun _ _ _ h => h) (by rfl) (fun wS hSw => ?_) hHeld ?_
  rotate_left
  focus (go_simp; rw [HQ.out]; (try with_reducible rfl); done)
  try simp only [Act.put, List.setIfInBounds_toArray, List.set_cons_zero, List.set_cons_succ]
  refine only_ 6 rfl (by kernel_rfl) (by rfl) (fun K hK => ?_)
  go_simp
  with_reducible refine (KK.out _).mono ?_
  rintro e Y1 ⟨rfl, hB⟩
  go_simp
  refine hK.out _ _ (hHeld.under hB) (fun hHeld2 => ?_)
  clear hK K
  have hHeld3 := hHeld2
  clear hHeld2 hHeld
  try simp only [Act.put, List.setIfInBounds_toArray, List.set_cons_zero, List.set_cons_succ]
  refine' take_ 7 rfl (by kernel_rfl) (by kernel_rfl) (by kernel_rfl) (fun _ _ _ h => h) (by rfl) (fun wS hSw => ?_) hHeld3 ?_
  rotate_left
  focus (go_simp; (try with_reducible rfl); done)
  try simp only [Act.put, List.setIfInBounds_toArray, List.set_cons_zero, List.set_cons_succ]
  refine wpAnyH_done (by kernel_rfl) ?_ _
  refine NoPanic.normal ?_
  go_wp2
  go_ret
  exact ⟨rfl, hHeld3.b⟩
end Go.Proofs.YtkodoldkfeopdaaGreat
