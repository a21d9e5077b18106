/-
  The program's waits (the closure that looks at a vector three ways), rank, ready by their contracts.
-/
import Derived.Test.YtcdomelfmkbloaaOkSmall
import Derived.Test.YtcdomelfmkbloaaChoose
namespace Go.Proofs.Ytcdomelfmkbloaa
open Go.RowKit
set_option linter.unusedVariables false
/-- The three looks. -/
def lkc (c : Ic) (mk : Nat) : List Value := [.int .u8 (c.p : Int), .func (.func 23) #[] #[], .int .u8 (c.m : Int), .func (.func 23) #[] #[], .int .u8 (mk : Int), .func (.func 24) #[] #[]]
def LkRow (w : World) (g : Nat) (c : Ic) (mk : Nat) : Prop := VRow w g 60 (lkc c mk)
theorem index_look (c : Ic) (mk : Nat) (W : World) :
    (Instr.index 60 (.agg #[.int .u8 (c.p : Int), (.func (.func 23) #[] #[]), .int .u8 (c.m : Int), (.func (.func 23) #[] #[]), .int .u8 (mk : Int), (.func (.func 24) #[] #[])]) (.int .i64 0)).run Try.prog W = .ok (.agg #[.int .u8 (c.p : Int), (.func (.func 23) #[] #[])]) W ∧
    (Instr.index 60 (.agg #[.int .u8 (c.p : Int), (.func (.func 23) #[] #[]), .int .u8 (c.m : Int), (.func (.func 23) #[] #[]), .int .u8 (mk : Int), (.func (.func 24) #[] #[])]) (.int .i64 1)).run Try.prog W = .ok (.agg #[.int .u8 (c.m : Int), (.func (.func 23) #[] #[])]) W ∧
    (Instr.index 60 (.agg #[.int .u8 (c.p : Int), (.func (.func 23) #[] #[]), .int .u8 (c.m : Int), (.func (.func 23) #[] #[]), .int .u8 (mk : Int), (.func (.func 24) #[] #[])]) (.int .i64 2)).run Try.prog W = .ok (.agg #[.int .u8 (mk : Int), (.func (.func 24) #[] #[])]) W := by
  refine ⟨?_, ?_, ?_⟩ <;> kernel_rfl
set_option maxHeartbeats 1000000 in
set_option maxRecDepth 100000 in
theorem waits_any (c : Ic) (mk v g : Nat) (w : World) (h : c.ok) (hm : mk < 256) (hv : v < 8) (hl : LkRow w g c mk) :
    Calls Try.prog 25 #[.int .i64 (v : Int), .pointer (some ⟨g, 0, none⟩)] w fun x w' => x = .returned (.bool (c.p.testBit v && c.m.testBit v && !mk.testBit v)) ∧ Below w.heap.size w w' := by
  have K1 := Lib.hid (fun W => has_any c.p v W h.p hv)
  have K2 := Lib.hid (fun W => has_any c.m v W h.m hv)
  have K3 := Lib.hid (fun W => lacks_any mk v W hm hv)
  obtain ⟨b1, hb1⟩ : ∃ b, c.p.testBit v = b := ⟨_, rfl⟩
  obtain ⟨b2, hb2⟩ : ∃ b, c.m.testBit v = b := ⟨_, rfl⟩
  obtain ⟨b3, hb3⟩ : ∃ b, mk.testBit v = b := ⟨_, rfl⟩
  rw [hb1] at K1 ⊢
  rw [hb2] at K2 ⊢
  rw [hb3] at K3 ⊢
  have c0 := VRow.cell hl 0 _ rfl
  have c1 := VRow.cell hl 1 _ rfl
  have c2 := VRow.cell hl 2 _ rfl
  have c3 := VRow.cell hl 3 _ rfl
  have c4 := VRow.cell hl 4 _ rfl
  have c5 := VRow.cell hl 5 _ rfl
  clear hb1 hb2 hb3 hl hm h
  go_enter Try.func25, Try.ntmps25
  go_wp2_with fail
  go_loopw [7] (fun iv wr => (iv = .int .i64 0 ∨ (iv = .int .i64 1 ∧ b1 = true) ∨ (iv = .int .i64 2 ∧ b1 = true ∧ b2 = true) ∨ (iv = .int .i64 3 ∧ b1 = true ∧ b2 = true ∧ b3 = false)) ∧ Below w.heap.size w wr) (fun iv _ => 3 - (intOf iv).toNat)
  case atStart => exact ⟨.inl rfl, Below.refl _ _⟩
  case round =>
    obtain ⟨hi, hb⟩ := hrel
    have HB := Lib.hid hb
    clear hb
    obtain ⟨hi0, hi1, hi2⟩ := index_look c mk wr
    rcases hi with rfl | ⟨rfl, rfl⟩ | ⟨rfl, rfl, rfl⟩ | ⟨rfl, rfl, rfl, rfl⟩
    · skip
      cases b1
      · skip
        go_wp2_with (first | ((with_reducible show wpList _ _ _ (⟨none, .store 59 (.tmp 5) (.tmp 9), _, _, _, _⟩ :: _) _ _); refine wpList_store_v rfl 59 _ _ rfl wr.heap.size (by exact rfl) [.int .u8 (c.p : Int), (.func (.func 23) #[] #[])] (by exact rfl) (by kernel_rfl) (by intro u hu; simp only [List.mem_cons, List.not_mem_nil, or_false] at hu; rcases hu with rfl | rfl <;> rfl) 59 [.int .u8 0, .nilFunc] (VRow.al wr [.int .u8 0, .nilFunc] 59) rfl ?_; intro w2 HN HO HB2; have d0 := VRow.cell HN.out 0 _ rfl; have d1 := VRow.cell HN.out 1 _ rfl; have HB3 := Lib.hid ((HB.out.alloc HB.out.size _).trans (HB2.out.mono HB.out.size)); clear HN HO HB2) | (go_at_call 23; (with_reducible refine (K1.out _).mono ?_); rintro e w1 ⟨rfl, rfl⟩))
        go_ret
        exact ⟨by first | rfl | (simp; done), HB3.out⟩
      · skip
        go_wp2_with (first | ((with_reducible show wpList _ _ _ (⟨none, .store 59 (.tmp 5) (.tmp 9), _, _, _, _⟩ :: _) _ _); refine wpList_store_v rfl 59 _ _ rfl wr.heap.size (by exact rfl) [.int .u8 (c.p : Int), (.func (.func 23) #[] #[])] (by exact rfl) (by kernel_rfl) (by intro u hu; simp only [List.mem_cons, List.not_mem_nil, or_false] at hu; rcases hu with rfl | rfl <;> rfl) 59 [.int .u8 0, .nilFunc] (VRow.al wr [.int .u8 0, .nilFunc] 59) rfl ?_; intro w2 HN HO HB2; have d0 := VRow.cell HN.out 0 _ rfl; have d1 := VRow.cell HN.out 1 _ rfl; have HB3 := Lib.hid ((HB.out.alloc HB.out.size _).trans (HB2.out.mono HB.out.size)); clear HN HO HB2) | (go_at_call 23; (with_reducible refine (K1.out _).mono ?_); rintro e w1 ⟨rfl, rfl⟩))
        go_roundw
        case rel => exact ⟨by simp, HB3.out⟩
        case measure => decide
    · skip
      cases b2
      · skip
        go_wp2_with (first | ((with_reducible show wpList _ _ _ (⟨none, .store 59 (.tmp 5) (.tmp 9), _, _, _, _⟩ :: _) _ _); refine wpList_store_v rfl 59 _ _ rfl wr.heap.size (by exact rfl) [.int .u8 (c.m : Int), (.func (.func 23) #[] #[])] (by exact rfl) (by kernel_rfl) (by intro u hu; simp only [List.mem_cons, List.not_mem_nil, or_false] at hu; rcases hu with rfl | rfl <;> rfl) 59 [.int .u8 0, .nilFunc] (VRow.al wr [.int .u8 0, .nilFunc] 59) rfl ?_; intro w2 HN HO HB2; have d0 := VRow.cell HN.out 0 _ rfl; have d1 := VRow.cell HN.out 1 _ rfl; have HB3 := Lib.hid ((HB.out.alloc HB.out.size _).trans (HB2.out.mono HB.out.size)); clear HN HO HB2) | (go_at_call 23; (with_reducible refine (K2.out _).mono ?_); rintro e w1 ⟨rfl, rfl⟩))
        go_ret
        exact ⟨by first | rfl | (simp; done), HB3.out⟩
      · skip
        go_wp2_with (first | ((with_reducible show wpList _ _ _ (⟨none, .store 59 (.tmp 5) (.tmp 9), _, _, _, _⟩ :: _) _ _); refine wpList_store_v rfl 59 _ _ rfl wr.heap.size (by exact rfl) [.int .u8 (c.m : Int), (.func (.func 23) #[] #[])] (by exact rfl) (by kernel_rfl) (by intro u hu; simp only [List.mem_cons, List.not_mem_nil, or_false] at hu; rcases hu with rfl | rfl <;> rfl) 59 [.int .u8 0, .nilFunc] (VRow.al wr [.int .u8 0, .nilFunc] 59) rfl ?_; intro w2 HN HO HB2; have d0 := VRow.cell HN.out 0 _ rfl; have d1 := VRow.cell HN.out 1 _ rfl; have HB3 := Lib.hid ((HB.out.alloc HB.out.size _).trans (HB2.out.mono HB.out.size)); clear HN HO HB2) | (go_at_call 23; (with_reducible refine (K2.out _).mono ?_); rintro e w1 ⟨rfl, rfl⟩))
        go_roundw
        case rel => exact ⟨by simp, HB3.out⟩
        case measure => decide
    · skip
      cases b3
      · skip
        go_wp2_with (first | ((with_reducible show wpList _ _ _ (⟨none, .store 59 (.tmp 5) (.tmp 9), _, _, _, _⟩ :: _) _ _); refine wpList_store_v rfl 59 _ _ rfl wr.heap.size (by exact rfl) [.int .u8 (mk : Int), (.func (.func 24) #[] #[])] (by exact rfl) (by kernel_rfl) (by intro u hu; simp only [List.mem_cons, List.not_mem_nil, or_false] at hu; rcases hu with rfl | rfl <;> rfl) 59 [.int .u8 0, .nilFunc] (VRow.al wr [.int .u8 0, .nilFunc] 59) rfl ?_; intro w2 HN HO HB2; have d0 := VRow.cell HN.out 0 _ rfl; have d1 := VRow.cell HN.out 1 _ rfl; have HB3 := Lib.hid ((HB.out.alloc HB.out.size _).trans (HB2.out.mono HB.out.size)); clear HN HO HB2) | (go_at_call 24; (with_reducible refine (K3.out _).mono ?_); rintro e w1 ⟨rfl, rfl⟩))
        go_roundw
        case rel => exact ⟨by simp, HB3.out⟩
        case measure => decide
      · skip
        go_wp2_with (first | ((with_reducible show wpList _ _ _ (⟨none, .store 59 (.tmp 5) (.tmp 9), _, _, _, _⟩ :: _) _ _); refine wpList_store_v rfl 59 _ _ rfl wr.heap.size (by exact rfl) [.int .u8 (mk : Int), (.func (.func 24) #[] #[])] (by exact rfl) (by kernel_rfl) (by intro u hu; simp only [List.mem_cons, List.not_mem_nil, or_false] at hu; rcases hu with rfl | rfl <;> rfl) 59 [.int .u8 0, .nilFunc] (VRow.al wr [.int .u8 0, .nilFunc] 59) rfl ?_; intro w2 HN HO HB2; have d0 := VRow.cell HN.out 0 _ rfl; have d1 := VRow.cell HN.out 1 _ rfl; have HB3 := Lib.hid ((HB.out.alloc HB.out.size _).trans (HB2.out.mono HB.out.size)); clear HN HO HB2) | (go_at_call 24; (with_reducible refine (K3.out _).mono ?_); rintro e w1 ⟨rfl, rfl⟩))
        go_ret
        exact ⟨by first | rfl | (simp; done), HB3.out⟩
    · skip
      go_wp2_with fail
      go_ret
      exact ⟨rfl, HB.out⟩
end Go.Proofs.Ytcdomelfmkbloaa
