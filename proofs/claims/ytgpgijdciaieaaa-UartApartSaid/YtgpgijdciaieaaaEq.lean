/-
  A uart is the same as itself: what == answers of two alike, and !=.
-/
import Derived.Test.YtgpgijdciaieaaaRtick
namespace Go.Proofs.Ytgpgijdciaieaaa
open Go.RowKit
set_option linter.unusedVariables false
section
variable (w : World)
theorem run_eq_q_at (d : Nat) (t : TypeId) (ht : Try.prog.underlying t = Try.prog.underlying 24) (hp : Try.prog.stoodInHeld t = false) (n : Int) (bs : List Nat) (hb : bs.length = 8) :
    (Op.equalIn (d + 3) t (qv n bs) (qv n bs)).run Try.prog w = .ok true w := by
  have hf : Try.prog.fieldsOf t = #[⟨"Len", 3, 0, false, "", "", 0⟩, ⟨"Bytes", 22, 1, false, "", "", 8⟩] := by
    unfold Program.fieldsOf
    rw [ht]
    rfl
  obtain ⟨i0, hi0, -⟩ := info_parts u8info
  have hce : Try.prog.cellsOf 5 = 1 := by kernel_rfl
  have harr : ∀ w : World, (Op.equalIn (d + 2) 22 (.agg (bvals bs).toArray) (.agg (bvals bs).toArray)).run Try.prog w = .ok true w := fun w => by
    rw [run_equalIn_array w (d + 1) _ _ Try.underlying22 hi0, hce, run_items w d bs bs hb hb _ (fun i hi => by simpa using hi), all_same bs bs hb hb]
    simp
  rw [qv, run_equalIn_struct w (d + 2) t _ _ (by rw [hf, ht]; rfl) hp, hf]
  have p1 := run_part_i64 w (.int .i64 n :: bvals bs).toArray (.int .i64 n) rfl
  have p3 := run_part_arr w n bs hb
  simp only [Op.eqFields, ne_eq, Sem.run_bind, Sem.run_ite, p1, p3, run_equalIn_int w (d + 1) 3 .i64 .i64 _ _ Try.underlying3, harr, Result.andThen_ok]
  simp
theorem run_size (P : Program) (t : TypeId) (s : Nat) (hs : (P.info? t).map (·.size) = some s) : (sizeOf t).run P w = .ok s w := by
  cases hq : P.info? t with
  | none => simp [hq] at hs
  | some i =>
    have h1 : i.size = s := by simpa [hq] using hs
    simp [sizeOf, Sem.run_bind, typeInfo, hq, h1]
theorem run_part_rx (t : TypeId) (ht : Try.prog.underlying t = Try.prog.underlying 24) (hs : (Try.prog.info? t).map (·.size) = some 9) (n : Int) (bs : List Nat) (m : Int) (cs : List Nat) (l : Bool) (c k : Nat) (hb : bs.length = 8) (hc : cs.length = 8) : (part t (uc n bs m cs l c k).toArray 0).run Try.prog w = .ok (qv n bs) w := by
  obtain ⟨b0, b1, b2, b3, b4, b5, b6, b7, rfl⟩ := eight hb
  obtain ⟨c0, c1, c2, c3, c4, c5, c6, c7, rfl⟩ := eight hc
  have hu : Try.prog.underlying t = _ := ht.trans Try.underlying24
  simp only [part, isAgg, Sem.run_bind, run_underlying hu, Result.andThen_ok, Sem.run_pure, if_true, run_size _ _ _ _ hs]
  rfl
theorem run_part_tx (t : TypeId) (ht : Try.prog.underlying t = Try.prog.underlying 24) (hs : (Try.prog.info? t).map (·.size) = some 9) (n : Int) (bs : List Nat) (m : Int) (cs : List Nat) (l : Bool) (c k : Nat) (hb : bs.length = 8) (hc : cs.length = 8) : (part t (uc n bs m cs l c k).toArray 9).run Try.prog w = .ok (qv m cs) w := by
  obtain ⟨b0, b1, b2, b3, b4, b5, b6, b7, rfl⟩ := eight hb
  obtain ⟨c0, c1, c2, c3, c4, c5, c6, c7, rfl⟩ := eight hc
  have hu : Try.prog.underlying t = _ := ht.trans Try.underlying24
  simp only [part, isAgg, Sem.run_bind, run_underlying hu, Result.andThen_ok, Sem.run_pure, if_true, run_size _ _ _ _ hs]
  rfl
theorem run_part_bool (cs : Array Value) (i : Nat) (v : Value) (h : cs[i]? = some v) : (part 4 cs i).run Try.prog w = .ok v w := by
  simp [part, isAgg, run_underlying Try.underlying4, h]
/-- Two alike are the same. -/
theorem run_eq_u (t tq : TypeId) (hu : Try.prog.underlying t = some (.struct (Try.prog.fieldsOf t))) (hp : Try.prog.stoodInHeld t = false) (htq : Try.prog.underlying tq = Try.prog.underlying 24) (hpq : Try.prog.stoodInHeld tq = false) (hs : (Try.prog.info? tq).map (·.size) = some 9)
    (hf : Try.prog.fieldsOf t = #[⟨"Rx", tq, 0, false, "", "", 0⟩, ⟨"Tx", tq, 9, false, "", "", 16⟩, ⟨"Lost", 4, 18, false, "", "", 32⟩, ⟨"Ctl", 5, 19, false, "", "", 33⟩, ⟨"Count", 5, 20, false, "", "", 34⟩])
    (n : Int) (bs : List Nat) (m : Int) (cs : List Nat) (l : Bool) (c k : Nat) (hb : bs.length = 8) (hc : cs.length = 8) :
    (Op.equalIn 10000 t (uv n bs m cs l c k) (uv n bs m cs l c k)).run Try.prog w = .ok true w := by
  have e1 := run_part_rx w tq htq hs n bs m cs l c k hb hc
  have e2 := run_part_tx w tq htq hs n bs m cs l c k hb hc
  have e3 := run_part_bool w (uc n bs m cs l c k).toArray 18 (.bool l) (by simpa using uc_tail hb hc 0)
  have e4 := run_part_u8 w (uc n bs m cs l c k).toArray 19 (.int .u8 (c : Int)) (by simpa using uc_tail hb hc 1)
  have e5 := run_part_u8 w (uc n bs m cs l c k).toArray 20 (.int .u8 (k : Int)) (by simpa using uc_tail hb hc 2)
  have q1 := run_eq_q_at w 9996 tq htq hpq n bs hb
  have q2 := run_eq_q_at w 9996 tq htq hpq m cs hc
  have b1 := run_equalIn_bool' w 9998 4 l l Try.underlying4
  have c1 := run_equalIn_int w 9998 5 .u8 .u8 (c : Int) (c : Int) Try.underlying5
  have k1 := run_equalIn_int w 9998 5 .u8 .u8 (k : Int) (k : Int) Try.underlying5
  rw [uv, run_equalIn_struct w 9999 t _ _ hu hp, hf]
  simp only [Op.eqFields, ne_eq, Sem.run_bind, Sem.run_ite, e1, e2, e3, e4, e5, q1, q2, b1, c1, k1, Result.andThen_ok]
  simp
theorem run_eql_u (n : Int) (bs : List Nat) (m : Int) (cs : List Nat) (l : Bool) (c k : Nat) (hb : bs.length = 8) (hc : cs.length = 8) : (binOp .eql 26 (uv n bs m cs l c k) (uv n bs m cs l c k)).run Try.prog w = .ok (.bool true) w := by
  have h := run_eq_u w 26 24 (by rw [Try.underlying26]; kernel_rfl) (by kernel_rfl) rfl (by kernel_rfl) (by kernel_rfl) (by kernel_rfl) n bs m cs l c k hb hc
  unfold uv at h ⊢
  rw [run_eql_struct, h]
  rfl
theorem run_neq_u (n : Int) (bs : List Nat) (m : Int) (cs : List Nat) (l : Bool) (c k : Nat) (hb : bs.length = 8) (hc : cs.length = 8) : (binOp .neq 26 (uv n bs m cs l c k) (uv n bs m cs l c k)).run Try.prog w = .ok (.bool false) w := by
  have h := run_eq_u w 26 24 (by rw [Try.underlying26]; kernel_rfl) (by kernel_rfl) rfl (by kernel_rfl) (by kernel_rfl) (by kernel_rfl) n bs m cs l c k hb hc
  unfold uv at h ⊢
  rw [run_neq_struct, h]
  rfl
theorem run_eql_ru (n : Int) (bs : List Nat) (m : Int) (cs : List Nat) (l : Bool) (c k : Nat) (hb : bs.length = 8) (hc : cs.length = 8) : (binOp .eql 46 (uv n bs m cs l c k) (uv n bs m cs l c k)).run Try.prog w = .ok (.bool true) w := by
  have h := run_eq_u w 46 44 (by rw [Try.underlying46]; kernel_rfl) (by kernel_rfl) (by rw [Try.underlying44, Try.underlying24]) (by kernel_rfl) (by kernel_rfl) (by kernel_rfl) n bs m cs l c k hb hc
  unfold uv at h ⊢
  rw [run_eql_struct, h]
  rfl
theorem guard_u (op : BinOp) (x y : Operand) (W : World) (n m : Int) (bs cs : List Nat) (l : Bool) (c k : Nat) (n2 m2 : Int) (bs2 cs2 : List Nat) (l2 : Bool) (c2 k2 : Nat) : (eqGuard op 26 x y (uv n bs m cs l c k) (uv n2 bs2 m2 cs2 l2 c2 k2)).run Try.prog W = .ok () W := run_eqGuard_agg W _ _ _ _ _ _ Try.eqGuardType26
theorem guard_ru (op : BinOp) (x y : Operand) (W : World) (n m : Int) (bs cs : List Nat) (l : Bool) (c k : Nat) (n2 m2 : Int) (bs2 cs2 : List Nat) (l2 : Bool) (c2 k2 : Nat) : (eqGuard op 46 x y (uv n bs m cs l c k) (uv n2 bs2 m2 cs2 l2 c2 k2)).run Try.prog W = .ok () W := run_eqGuard_agg W _ _ _ _ _ _ Try.eqGuardType46
end
end Go.Proofs.Ytgpgijdciaieaaa
