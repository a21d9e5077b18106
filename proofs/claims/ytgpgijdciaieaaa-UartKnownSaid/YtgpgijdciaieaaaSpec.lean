/-
  What is made of a uart, in plain words; and what is asked of each function, the document's or the program's, as a condition on its number.
-/
import Derived.Test.YtgpgijdciaieaaaU
namespace Go.Proofs.Ytgpgijdciaieaaa
open Go.RowKit
set_option linter.unusedVariables false
/-- The lowest byte of a number. -/
def lowN (v : Int) : Nat := (v % 256).toNat
theorem lowN_cast (v : Int) : ((lowN v : Nat) : Int) = v % 256 := by
  unfold lowN
  omega
theorem lowN_lt (v : Int) : lowN v < 256 := by
  unfold lowN
  omega
/-- The count that counts. -/
def kM (T : List Nat) (k : Nat) : Nat := if 4 ≤ k ∨ T = [] then 0 else k
theorem kM_lt (T : List Nat) (k : Nat) : kM T k < 4 := by
  unfold kM
  split
  · omega
  · omega
theorem kM_nil (k : Nat) : kM [] k = 0 := if_pos (.inr rfl)
theorem kM_kM (T : List Nat) (k : Nat) : kM T (kM T k) = kM T k := by
  have := kM_lt T k
  by_cases h : T = []
  · subst h; rw [kM_nil, kM_nil]
  · rw [kM, if_neg]
    rintro (h1 | h1)
    · omega
    · exact h h1
/-- The uart of these bytes. -/
def uq (R T : List Nat) (l : Bool) (c k : Nat) : Value := uv ((min R.length 8 : Nat) : Int) (pad R) ((min T.length 8 : Nat) : Int) (pad T) l c k
def statU (R T : List Nat) (l : Bool) : Int := (if R = [] then 0 else 1) + (if T.length = 8 then 2 else 0) + (if l = true then 4 else 0)
def peekU (R T : List Nat) (l : Bool) (c : Nat) (reg : Int) : Int := if reg = 3 then ((R.headD 0 : Nat) : Int) else if reg = 4 then statU R T l else if reg = 5 then (c : Int) else 0
def readR (R : List Nat) (reg : Int) : List Nat := if reg = 3 then R.tail else R
def readL (l : Bool) (reg : Int) : Bool := if reg = 4 then false else l
def addL (T : List Nat) (b : Nat) : List Nat := if T.length < 8 then T ++ [b] else T
def writeT (T : List Nat) (reg v : Int) : List Nat := if reg = 3 then addL T (lowN v) else T
def writeC (c : Nat) (reg v : Int) : Nat := if reg = 5 then lowN v else c
def arriveL (R : List Nat) (l : Bool) : Bool := if R.length < 8 then l else true
def asksU (R : List Nat) (c : Nat) : Bool := decide (R.length < 8) && decide (c % 2 = 1)
def sendsU (T : List Nat) (k : Nat) : Bool := !T.isEmpty && decide (k = 3)
def tickT (T : List Nat) (k : Nat) : List Nat := if sendsU T k = true then T.tail else T
def tickK (T : List Nat) (k : Nat) : Nat := if T = [] then 0 else if k = 3 then 0 else k + 1
def tickB (T : List Nat) (k : Nat) : Nat := if sendsU T k = true then T.headD 0 else 0
def tickQ (T : List Nat) (c k : Nat) : Bool := sendsU T k && T.tail.isEmpty && decide (c / 2 % 2 = 1)
/-- What a value may be. -/
structure UIn (n : Int) (bs : List Nat) (m : Int) (cs : List Nat) (c k : Nat) : Prop where
  hb : bs.length = 8
  hc : cs.length = 8
  n0 : -9223372036854775808 ≤ n
  n1 : n ≤ 9223372036854775807
  m0 : -9223372036854775808 ≤ m
  m1 : m ≤ 9223372036854775807
  lb : ∀ x ∈ bs, x < 256
  lc : ∀ x ∈ cs, x < 256
  c8 : c < 256
  k8 : k < 256
def MendC (f : Nat) : Prop := ∀ (n : Int) (bs : List Nat) (m : Int) (cs : List Nat) (l : Bool) (c k : Nat) (w : World), UIn n bs m cs c k → Calls Try.prog f #[uv n bs m cs l c k] w fun x w' => x = .returned (uq (cutL n bs) (cutL m cs) l c (kM (cutL m cs) k)) ∧ Below w.heap.size w w'
def PeekC (f : Nat) : Prop := ∀ (n : Int) (bs : List Nat) (m : Int) (cs : List Nat) (l : Bool) (c k : Nat) (reg : Int) (w : World), UIn n bs m cs c k → -9223372036854775808 ≤ reg → reg ≤ 9223372036854775807 → Calls Try.prog f #[uv n bs m cs l c k, .int .i64 reg] w fun x w' => x = .returned (.int .i32 (peekU (cutL n bs) (cutL m cs) l c reg)) ∧ Below w.heap.size w w'
def ReadC (f : Nat) : Prop := ∀ (n : Int) (bs : List Nat) (m : Int) (cs : List Nat) (l : Bool) (c k : Nat) (reg : Int) (w : World), UIn n bs m cs c k → -9223372036854775808 ≤ reg → reg ≤ 9223372036854775807 → Calls Try.prog f #[uv n bs m cs l c k, .int .i64 reg] w fun x w' => x = .returned (.tuple #[.int .i32 (peekU (cutL n bs) (cutL m cs) l c reg), uq (readR (cutL n bs) reg) (cutL m cs) (readL l reg) c (kM (cutL m cs) k)]) ∧ Below w.heap.size w w'
def WriteC (f : Nat) : Prop := ∀ (n : Int) (bs : List Nat) (m : Int) (cs : List Nat) (l : Bool) (c k : Nat) (reg v : Int) (w : World), UIn n bs m cs c k → -9223372036854775808 ≤ reg → reg ≤ 9223372036854775807 → -2147483648 ≤ v → v ≤ 2147483647 → Calls Try.prog f #[uv n bs m cs l c k, .int .i64 reg, .int .i32 v] w fun x w' => x = .returned (uq (cutL n bs) (writeT (cutL m cs) reg v) l (writeC c reg v) (kM (cutL m cs) k)) ∧ Below w.heap.size w w'
def ArriveC (f : Nat) : Prop := ∀ (n : Int) (bs : List Nat) (m : Int) (cs : List Nat) (l : Bool) (c k b : Nat) (w : World), UIn n bs m cs c k → b < 256 → Calls Try.prog f #[uv n bs m cs l c k, .int .u8 b] w fun x w' => x = .returned (.tuple #[uq (addL (cutL n bs) b) (cutL m cs) (arriveL (cutL n bs) l) c (kM (cutL m cs) k), .bool (asksU (cutL n bs) c)]) ∧ Below w.heap.size w w'
def TickC (f : Nat) : Prop := ∀ (n : Int) (bs : List Nat) (m : Int) (cs : List Nat) (l : Bool) (c k : Nat) (w : World), UIn n bs m cs c k → Calls Try.prog f #[uv n bs m cs l c k] w fun x w' => x = .returned (.tuple #[uq (cutL n bs) (tickT (cutL m cs) (kM (cutL m cs) k)) l c (tickK (cutL m cs) (kM (cutL m cs) k)), .int .u8 (tickB (cutL m cs) (kM (cutL m cs) k)), .bool (sendsU (cutL m cs) (kM (cutL m cs) k)), .bool (tickQ (cutL m cs) c (kM (cutL m cs) k))]) ∧ Below w.heap.size w w'
/-- The program's functions. -/
structure UartOk : Prop where
  mend : MendC 9
  peek : PeekC 16
  read : ReadC 13
  write : WriteC 14
  arrive : ArriveC 12
  tick : TickC 15
end Go.Proofs.Ytgpgijdciaieaaa
