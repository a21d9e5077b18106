/-
  The folder's expression by its contract, by induction on the tree; Fold.
-/
import Derived.Test.YthmphmndpfkbcaaMid
namespace Go.Proofs.Ythmphmndpfkbcaa
open Go.RowKit
theorem Mid.start (w : World) (l zs : List Value) (A1 : Option Nat) (args' : List Ex) (S1 : Nat → Prop) (fp : Nat) (w1 : World) (cs' : List Value) (hz : zs = zeroL) (hf : Folder w fp)
    (hb : Below ((w.alloc (.cells l.toArray 27)).alloc (.cells zs.toArray 27)).heap.size ((w.alloc (.cells l.toArray 27)).alloc (.cells zs.toArray 27)) w1) (hsl : SlIn S1 w1 A1 args')
    (hS : ∀ b, S1 b → ((w.alloc (.cells l.toArray 27)).alloc (.cells zs.toArray 27)).heap.size ≤ b ∧ b < w1.heap.size) : w1.heap[w.heap.size]? = some (.cells l.toArray 27 (0, 0)) ∧ Mid w cs' A1 args' S1 fp (w1.setRow w.heap.size cs'.toArray) := by
  subst hz
  have hs2 : ((w.alloc (.cells l.toArray 27)).alloc (.cells zeroL.toArray 27)).heap.size = w.heap.size + 2 := by simp
  have hs1 : (w.alloc (.cells l.toArray 27)).heap.size = w.heap.size + 1 := by simp
  have h1 : w1.heap[w.heap.size]? = some (.cells l.toArray 27 (0, 0)) := by
    rw [hb.block _ (by omega), Below.heap_alloc _ _ _ (by omega)]
    exact alloc_at w _
  have hbw : Below w.heap.size w ((w.alloc (.cells l.toArray 27)).alloc (.cells zeroL.toArray 27)) := ((Below.refl _ _).alloc (Nat.le_refl _) _).alloc (by omega) _
  have hsz := hb.size
  refine ⟨h1, Mid.put (cs := l) ⟨h1, ?_, hsl, fun b hb => by have := hS b hb; omega, hf.below (hbw.trans (hb.mono (by omega))) (Nat.le_refl _), hbw.trans (hb.mono (by omega)), by omega⟩ hf⟩
  rw [hb.block _ (by omega)]
  have h2 := alloc_at (w.alloc (.cells l.toArray 27)) (.cells zeroL.toArray 27)
  rw [hs1] at h2
  exact h2
theorem ret_fin {x : Ex} {w W : World} {op at_ : Int} {name field : ByteArray} {n ty ref : Int} {A : Option Nat} {c m : Nat} {args : List Ex} {S : Nat → Prop} (hm : m = args.length) (hx : foldT x = .mk op at_ name field n ty ref args) (h : Fin w (exL op at_ name field n ty ref A m c) A args S W) :
    ExprAns x w (.returned (.agg (exL op at_ name field n ty ref A m c).toArray)) W := by
  subst hm
  exact ⟨op, at_, name, field, n, ty, ref, A, c, args, S, rfl, hx, h.sl, h.low, h.below⟩
theorem one_one (v : Value) (h : v.oneCell' = true) : ∀ u ∈ [v], u.oneCell' = true := by
  intro u hu
  obtain rfl : u = v := by simpa using hu
  exact h
theorem foldT_num (at_ : Int) (name field : ByteArray) (n ty ref : Int) (args : List Ex) : foldT (.mk 0 at_ name field n ty ref args) = .mk 0 at_ name field (wrapT ty n) ty ref (args.map foldT) := by
  rw [foldT, topT, if_pos rfl, foldL_eq]
theorem foldT_bd : ∀ x : Ex, (foldT x).op = 0 → -2147483648 ≤ (foldT x).n ∧ (foldT x).n ≤ 2147483647
  | .mk op at_ name field n ty ref args => by
    rw [foldT, topT]
    by_cases h : op = 0
    · rw [if_pos h]
      exact fun _ => wrapT_bd ty n
    · rw [if_neg h]
      cases worksT op ty (foldL args) with
      | none => exact fun h0 => absurd h0 h
      | some v => exact fun _ => wrapT_bd ty v
theorem foldT_stays (op at_ : Int) (name field : ByteArray) (n ty ref : Int) (args : List Ex) (h0 : op ≠ 0) (h : worksT op ty (args.map foldT) = none) : foldT (.mk op at_ name field n ty ref args) = .mk op at_ name field n ty ref (args.map foldT) := by
  rw [foldT, topT, if_neg h0, foldL_eq, h]
theorem foldT_makes (op at_ : Int) (name field : ByteArray) (n ty ref v : Int) (args : List Ex) (h0 : op ≠ 0) (h : worksT op ty (args.map foldT) = some v) : foldT (.mk op at_ name field n ty ref args) = .mk 0 at_ ⟨#[]⟩ ⟨#[]⟩ (wrapT ty v) ty 0 [] := by
  rw [foldT, topT, if_neg h0, foldL_eq, h]
theorem valsOf_1 (op : Int) : valsOf op = 1 ↔ 4 ≤ op ∧ op ≤ 8 := by
  unfold valsOf
  split
  · simp_all
  · split
    · simp_all
    · simp_all
theorem valsOf_2 (op : Int) : valsOf op = 2 ↔ 9 ≤ op ∧ op ≤ 24 := by
  unfold valsOf
  split
  · constructor
    · intro h
      cases h
    · intro h
      omega
  · split
    · simp_all
    · simp_all
theorem isNumT_iff (op : Int) (args : List Ex) : isNumT op args = true ↔ (4 ≤ op ∧ op ≤ 24) ∧ args.length = valsOf op ∧ ∀ x ∈ args, x.op = 0 := by
  unfold isNumT
  simp
theorem worksT_no (op ty : Int) : ∀ args : List Ex, isNumT op args = false → worksT op ty args = none
  | [], _ => rfl
  | [x], h => by
    rw [worksT, if_neg]
    rintro ⟨h1, h2⟩
    have := (isNumT_iff op [x]).2 ⟨by have := (valsOf_1 op).1 h1; omega, by simp [h1], by simp [h2]⟩
    rw [h] at this
    cases this
  | [x, y], h => by
    rw [worksT, if_neg]
    rintro ⟨h1, h2, h3, _⟩
    have := (isNumT_iff op [x, y]).2 ⟨by have := (valsOf_2 op).1 h1; omega, by simp [h1], by simp [h2, h3]⟩
    rw [h] at this
    cases this
  | x :: y :: z :: l, _ => rfl
theorem isNum_len (op at_ : Int) (name field : ByteArray) (n ty ref : Int) (A : Option Nat) (args : List Ex) (m c fp : Nat) (S : Nat → Prop) (w : World) (hm : m = args.length) (hf : Folder w fp) (hsl : SlIn S w A args) (hlow : ∀ b, S b → b < w.heap.size) (r : Bool) (hr : isNumT op args = r) :
    Calls Try.prog 33 #[.pointer (some ⟨fp, 0, none⟩), .agg (exL op at_ name field n ty ref A m c).toArray] w fun e w' => e = .returned (.bool r) ∧ Below w.heap.size w w' := by
  subst hm hr
  exact isNum_any op at_ name field n ty ref A args c fp S w hf hsl hlow
/-- What worked answers: a number, or none. -/
def WorkedAns (ty : Int) (r : Option Int) (e : Ending) : Prop := match r with
  | some u => ∃ v : Int, e = .returned (.tuple #[.int .i32 v, .bool true]) ∧ wrapT ty v = wrapT ty u ∧ -2147483648 ≤ v ∧ v ≤ 2147483647
  | none => e = .returned (.tuple #[.int .i32 0, .bool false])
theorem worked_any (op at_ : Int) (name field : ByteArray) (n ty ref : Int) (A : Option Nat) (args : List Ex) (m c : Nat) (S : Nat → Prop) (w : World) (hm : m = args.length) (hN : isNumT op args = true) (hbd : ∀ x ∈ args, -2147483648 ≤ x.n ∧ x.n ≤ 2147483647) (hsl : SlIn S w A args) (hlow : ∀ b, S b → b < w.heap.size) :
    Calls Try.prog 34 #[.agg (exL op at_ name field n ty ref A m c).toArray] w fun e w' => WorkedAns ty (worksT op ty args) e ∧ Below w.heap.size w w' := by
  subst hm
  obtain ⟨⟨h4, h24⟩, hl, h0⟩ := (isNumT_iff op args).1 hN
  have hA : ∃ b, A = some b := by
    cases hsl with
    | nil =>
      have := valsOf_pos op h4 h24
      simp only [List.length_nil] at hl
      omega
    | row hb hS rows hc h => exact ⟨_, rfl⟩
  obtain ⟨b, rfl⟩ := hA
  by_cases h8 : op ≤ 8
  · have hv := (valsOf_1 op).2 ⟨h4, h8⟩
    obtain ⟨x, rfl⟩ := List.length_eq_one_iff.1 (hl.trans hv)
    have hx := hbd x (by simp)
    have hw : worksT op ty [x] = some (unV op ty x.n) := by rw [worksT, if_pos ⟨hv, h0 x (by simp)⟩]
    rw [hw]
    exact worked_1 op at_ name field n ty ref b c x S w h4 h8 hsl hlow hx.1 hx.2
  · have hv := (valsOf_2 op).2 ⟨by omega, h24⟩
    obtain ⟨x, y, rfl⟩ : ∃ x y, args = [x, y] := by
      match args, hl.trans hv with
      | [x, y], _ => exact ⟨x, y, rfl⟩
    have hx := hbd x (by simp)
    have hy := hbd y (by simp)
    by_cases hz : (op = 10 ∨ op = 11) ∧ y.n = 0
    · have hw : worksT op ty [x, y] = none := by rw [worksT, if_neg (fun h => h.2.2.2 hz)]
      rw [hw]
      exact worked_3 op at_ name field n ty ref b c x y S w hz hsl hlow hx.1 hx.2 hy.1 hy.2
    · have hw : worksT op ty [x, y] = some (binV op x.ty x.n y.n) := by rw [worksT, if_pos ⟨hv, h0 x (by simp), h0 y (by simp), hz⟩]
      rw [hw]
      exact (worked_2 op at_ name field n ty ref b c x y S w (by omega) h24 hz hsl hlow hx.1 hx.2 hy.1 hy.2).mono fun e w' ⟨h, hb⟩ => ⟨⟨_, h, rfl, binV_bd op _ _ _ hx.1 hx.2⟩, hb⟩
set_option maxRecDepth 100000 in
set_option maxHeartbeats 1000000 in
theorem expr_num (at_ : Int) (name field : ByteArray) (n ty ref : Int) (args : List Ex) (IH : ∀ x ∈ args, ExprOK x) (A : Option Nat) (c fp : Nat) (S : Nat → Prop) (w : World) (hf : Folder w fp) (hsl : SlIn S w A args) (hlow : ∀ b, S b → b < w.heap.size) :
    Calls Try.prog 21 #[.pointer (some ⟨fp, 0, none⟩), .agg (exL 0 at_ name field n ty ref A args.length c).toArray] w (ExprAns (.mk 0 at_ name field n ty ref args) w) := by
  have hB2 : Hid (∀ l1 l2 : Array Value, Below w.heap.size w ((w.alloc (.cells l1 27)).alloc (.cells l2 27))) := fun l1 l2 => ((Below.refl _ _).alloc (Nat.le_refl _) _).alloc (by simp) _
  have HSL := Lib.hid hsl
  have HLOW := Lib.hid hlow
  have kw : IntKind.i64.wrap (wrapT ty n) = wrapT ty n := IntWalk.i64_in _ (by have h := wrapT_bd ty n; generalize wrapT ty n = z at *; omega)
  clear hsl hlow
  go_enter Try.func21, Try.ntmps21
  go_wp2_with (first | (go_at_call 32; refine (each_any args IH A c fp S _ (hf.below (hB2.out _ _) (Nat.le_refl _)) (HSL.out.under (hB2.out _ _) HLOW.out) (fun b hb => by have := HLOW.out b hb; simp; omega)).mono ?_; rintro e w1 ⟨A1, c1, S1, rfl, hsl1, hS1, hb1⟩; obtain ⟨hrow, hmid⟩ := Mid.start w _ _ A1 _ S1 fp w1 (exL 0 at_ name field n ty ref A1 args.length c1) rfl hf hb1 hsl1 hS1; have HROW := Lib.hid hrow; have HMID := Lib.hid hmid; clear hrow hmid hsl1 hS1 hb1) | (refine wpList_store_row rfl 25 _ _ rfl w.heap.size 7 rfl [slV A1 args.length c1] rfl (by kernel_rfl) (exL 0 at_ name field n ty ref A args.length c) (exL 0 at_ name field n ty ref A1 args.length c1) 27 HROW.out (by show 7 + 1 ≤ 8; omega) (one_one _ rfl) rfl ?_; generalize w1.setRow w.heap.size (exL 0 at_ name field n ty ref A1 args.length c1).toArray = W at *; have c0 := row_at HMID.out.box 0 _ rfl; have c4 := row_at HMID.out.box 4 _ rfl; have c5 := row_at HMID.out.box 5 _ rfl; clear HROW) | (go_at_call 13; refine (wrap_any _ _ _).mono ?_; rintro e w' ⟨rfl, rfl⟩) | (refine wpList_store_row rfl 2 _ _ rfl w.heap.size 4 rfl [.int .i64 (wrapT ty n)] rfl (by kernel_rfl) (exL 0 at_ name field n ty ref A1 args.length c1) (exL 0 at_ name field (wrapT ty n) ty ref A1 args.length c1) 27 HMID.out.box (by show 4 + 1 ≤ 8; omega) (one_one _ rfl) rfl ?_; have HMID2 := Lib.hid (HMID.out.put (cs' := (exL 0 at_ name field (wrapT ty n) ty ref A1 args.length c1)) hf); generalize W.setRow w.heap.size (exL 0 at_ name field (wrapT ty n) ty ref A1 args.length c1).toArray = W2 at *; clear c0 c4 c5) | (refine wpList_load_at rfl 27 _ rfl w.heap.size 0 rfl _ _ (row_cells HMID2.out.box) Try.underlying27 rfl (by kernel_rfl) ?_) | (refine wpList_store_row rfl 27 _ _ rfl (w.heap.size + 1) 0 rfl (exL 0 at_ name field (wrapT ty n) ty ref A1 args.length c1) rfl (by kernel_rfl) zeroL (exL 0 at_ name field (wrapT ty n) ty ref A1 args.length c1) 27 HMID2.out.res (by show 0 + 8 ≤ 8; omega) (exL_one _ _ _ _ _ _ _ _ _ _) rfl ?_; have HFIN := Lib.hid (HMID2.out.fin (cs' := (exL 0 at_ name field (wrapT ty n) ty ref A1 args.length c1))); generalize W2.setRow (w.heap.size + 1) (exL 0 at_ name field (wrapT ty n) ty ref A1 args.length c1).toArray = WF at *; have q0 := row_at HFIN.out.res 0 _ rfl; have q1 := row_at HFIN.out.res 1 _ rfl; have q2 := row_at HFIN.out.res 2 _ rfl; have q3 := row_at HFIN.out.res 3 _ rfl; have q4 := row_at HFIN.out.res 4 _ rfl; have q5 := row_at HFIN.out.res 5 _ rfl; have q6 := row_at HFIN.out.res 6 _ rfl; have q7 := row_at HFIN.out.res 7 _ rfl))
  exact bodyPost_ret (v := .agg (exL 0 at_ name field (wrapT ty n) ty ref A1 args.length c1).toArray) (by simp [results, Try.results21, go_sem, q0, q1, q2, q3, q4, q5, q6, q7]) rfl (ret_fin (by simp) (foldT_num _ _ _ _ _ _ _) HFIN.out)
set_option maxRecDepth 100000 in
set_option maxHeartbeats 1000000 in
theorem expr_stay (op at_ : Int) (name field : ByteArray) (n ty ref : Int) (args : List Ex) (IH : ∀ x ∈ args, ExprOK x) (A : Option Nat) (c fp : Nat) (S : Nat → Prop) (w : World) (hf : Folder w fp) (hsl : SlIn S w A args) (hlow : ∀ b, S b → b < w.heap.size) (h0 : op ≠ 0) (hN : isNumT op (args.map foldT) = false) :
    Calls Try.prog 21 #[.pointer (some ⟨fp, 0, none⟩), .agg (exL op at_ name field n ty ref A args.length c).toArray] w (ExprAns (.mk op at_ name field n ty ref args) w) := by
  have hB2 : Hid (∀ l1 l2 : Array Value, Below w.heap.size w ((w.alloc (.cells l1 27)).alloc (.cells l2 27))) := fun l1 l2 => ((Below.refl _ _).alloc (Nat.le_refl _) _).alloc (by simp) _
  have HSL := Lib.hid hsl
  have HLOW := Lib.hid hlow
  have h02 : (op == 0) = false := by simpa using h0
  have H0 := Lib.hid h0
  have HN := Lib.hid hN
  clear hN
  clear hsl hlow h0
  go_enter Try.func21, Try.ntmps21
  go_wp2_with (first | (go_at_call 32; refine (each_any args IH A c fp S _ (hf.below (hB2.out _ _) (Nat.le_refl _)) (HSL.out.under (hB2.out _ _) HLOW.out) (fun b hb => by have := HLOW.out b hb; simp; omega)).mono ?_; rintro e w1 ⟨A1, c1, S1, rfl, hsl1, hS1, hb1⟩; obtain ⟨hrow, hmid⟩ := Mid.start w _ _ A1 _ S1 fp w1 (exL op at_ name field n ty ref A1 args.length c1) rfl hf hb1 hsl1 hS1; have HROW := Lib.hid hrow; have HMID := Lib.hid hmid; clear hrow hmid hsl1 hS1 hb1) | (refine wpList_store_row rfl 25 _ _ rfl w.heap.size 7 rfl [slV A1 args.length c1] rfl (by kernel_rfl) (exL op at_ name field n ty ref A args.length c) (exL op at_ name field n ty ref A1 args.length c1) 27 HROW.out (by show 7 + 1 ≤ 8; omega) (one_one _ rfl) rfl ?_; generalize w1.setRow w.heap.size (exL op at_ name field n ty ref A1 args.length c1).toArray = W at *; have c0 := row_at HMID.out.box 0 _ rfl; clear HROW) | (refine wpList_load_at rfl 27 _ rfl w.heap.size 0 rfl _ _ (row_cells HMID.out.box) Try.underlying27 rfl (by kernel_rfl) ?_) | (refine wpList_load_at rfl 27 _ rfl w.heap.size 0 rfl _ _ (row_cells HMID3.out.box) Try.underlying27 rfl (by kernel_rfl) ?_) | (go_at_call 33; refine (isNum_len op at_ name field n ty ref A1 _ _ c1 fp S1 _ (by simp) HMID.out.fold HMID.out.sl (fun b hb => (HMID.out.low b hb).2) _ HN.out).mono ?_; rintro e W3 ⟨rfl, hb3⟩; have HMID3 := Lib.hid (HMID.out.under hb3); clear HMID c0 hb3) | (refine wpList_store_row rfl 27 _ _ rfl (w.heap.size + 1) 0 rfl (exL op at_ name field n ty ref A1 args.length c1) rfl (by kernel_rfl) zeroL (exL op at_ name field n ty ref A1 args.length c1) 27 HMID3.out.res (by show 0 + 8 ≤ 8; omega) (exL_one _ _ _ _ _ _ _ _ _ _) rfl ?_; have HFIN := Lib.hid (HMID3.out.fin (cs' := (exL op at_ name field n ty ref A1 args.length c1))); generalize W3.setRow (w.heap.size + 1) (exL op at_ name field n ty ref A1 args.length c1).toArray = WF at *; have q0 := row_at HFIN.out.res 0 _ rfl; have q1 := row_at HFIN.out.res 1 _ rfl; have q2 := row_at HFIN.out.res 2 _ rfl; have q3 := row_at HFIN.out.res 3 _ rfl; have q4 := row_at HFIN.out.res 4 _ rfl; have q5 := row_at HFIN.out.res 5 _ rfl; have q6 := row_at HFIN.out.res 6 _ rfl; have q7 := row_at HFIN.out.res 7 _ rfl))
  exact bodyPost_ret (v := .agg (exL op at_ name field n ty ref A1 args.length c1).toArray) (by simp [results, Try.results21, go_sem, q0, q1, q2, q3, q4, q5, q6, q7]) rfl (ret_fin (by simp) (foldT_stays _ _ _ _ _ _ _ _ H0.out (worksT_no _ _ _ HN.out)) HFIN.out)
set_option maxRecDepth 100000 in
set_option maxHeartbeats 1000000 in
theorem expr_div (op at_ : Int) (name field : ByteArray) (n ty ref : Int) (args : List Ex) (IH : ∀ x ∈ args, ExprOK x) (A : Option Nat) (c fp : Nat) (S : Nat → Prop) (w : World) (hf : Folder w fp) (hsl : SlIn S w A args) (hlow : ∀ b, S b → b < w.heap.size) (h0 : op ≠ 0) (hN : isNumT op (args.map foldT) = true) (hw : worksT op ty (args.map foldT) = none) :
    Calls Try.prog 21 #[.pointer (some ⟨fp, 0, none⟩), .agg (exL op at_ name field n ty ref A args.length c).toArray] w (ExprAns (.mk op at_ name field n ty ref args) w) := by
  have hB2 : Hid (∀ l1 l2 : Array Value, Below w.heap.size w ((w.alloc (.cells l1 27)).alloc (.cells l2 27))) := fun l1 l2 => ((Below.refl _ _).alloc (Nat.le_refl _) _).alloc (by simp) _
  have HSL := Lib.hid hsl
  have HLOW := Lib.hid hlow
  have h02 : (op == 0) = false := by simpa using h0
  have H0 := Lib.hid h0
  have HN := Lib.hid hN
  have HW := Lib.hid hw
  have HBD : Hid (∀ x ∈ args.map foldT, -2147483648 ≤ x.n ∧ x.n ≤ 2147483647) := fun x hx => by
    obtain ⟨y, _, rfl⟩ := List.mem_map.1 hx
    exact foldT_bd y (((isNumT_iff _ _).1 hN).2.2 _ hx)
  clear hN hw
  clear hsl hlow h0
  go_enter Try.func21, Try.ntmps21
  go_wp2_with (first | (go_at_call 32; refine (each_any args IH A c fp S _ (hf.below (hB2.out _ _) (Nat.le_refl _)) (HSL.out.under (hB2.out _ _) HLOW.out) (fun b hb => by have := HLOW.out b hb; simp; omega)).mono ?_; rintro e w1 ⟨A1, c1, S1, rfl, hsl1, hS1, hb1⟩; obtain ⟨hrow, hmid⟩ := Mid.start w _ _ A1 _ S1 fp w1 (exL op at_ name field n ty ref A1 args.length c1) rfl hf hb1 hsl1 hS1; have HROW := Lib.hid hrow; have HMID := Lib.hid hmid; clear hrow hmid hsl1 hS1 hb1) | (refine wpList_store_row rfl 25 _ _ rfl w.heap.size 7 rfl [slV A1 args.length c1] rfl (by kernel_rfl) (exL op at_ name field n ty ref A args.length c) (exL op at_ name field n ty ref A1 args.length c1) 27 HROW.out (by show 7 + 1 ≤ 8; omega) (one_one _ rfl) rfl ?_; generalize w1.setRow w.heap.size (exL op at_ name field n ty ref A1 args.length c1).toArray = W at *; have c0 := row_at HMID.out.box 0 _ rfl; clear HROW) | (refine wpList_load_at rfl 27 _ rfl w.heap.size 0 rfl _ _ (row_cells HMID.out.box) Try.underlying27 rfl (by kernel_rfl) ?_) | (refine wpList_load_at rfl 27 _ rfl w.heap.size 0 rfl _ _ (row_cells HMID3.out.box) Try.underlying27 rfl (by kernel_rfl) ?_) | (refine wpList_load_at rfl 27 _ rfl w.heap.size 0 rfl _ _ (row_cells HMID4.out.box) Try.underlying27 rfl (by kernel_rfl) ?_) | (go_at_call 33; refine (isNum_len op at_ name field n ty ref A1 _ _ c1 fp S1 _ (by simp) HMID.out.fold HMID.out.sl (fun b hb => (HMID.out.low b hb).2) _ HN.out).mono ?_; rintro e W3 ⟨rfl, hb3⟩; have HMID3 := Lib.hid (HMID.out.under hb3); clear HMID c0 hb3) | (go_at_call 34; refine (worked_any op at_ name field n ty ref A1 _ _ c1 S1 _ (by simp) HN.out HBD.out HMID3.out.sl (fun b hb => (HMID3.out.low b hb).2)).mono ?_; rintro e W4 ⟨hw, hb4⟩; rw [HW.out] at hw; obtain rfl := hw; have HMID4 := Lib.hid (HMID3.out.under hb4); clear HMID3 hb4) | (refine wpList_store_row rfl 27 _ _ rfl (w.heap.size + 1) 0 rfl (exL op at_ name field n ty ref A1 args.length c1) rfl (by kernel_rfl) zeroL (exL op at_ name field n ty ref A1 args.length c1) 27 HMID4.out.res (by show 0 + 8 ≤ 8; omega) (exL_one _ _ _ _ _ _ _ _ _ _) rfl ?_; have HFIN := Lib.hid (HMID4.out.fin (cs' := (exL op at_ name field n ty ref A1 args.length c1))); generalize W4.setRow (w.heap.size + 1) (exL op at_ name field n ty ref A1 args.length c1).toArray = WF at *; have q0 := row_at HFIN.out.res 0 _ rfl; have q1 := row_at HFIN.out.res 1 _ rfl; have q2 := row_at HFIN.out.res 2 _ rfl; have q3 := row_at HFIN.out.res 3 _ rfl; have q4 := row_at HFIN.out.res 4 _ rfl; have q5 := row_at HFIN.out.res 5 _ rfl; have q6 := row_at HFIN.out.res 6 _ rfl; have q7 := row_at HFIN.out.res 7 _ rfl))
  exact bodyPost_ret (v := .agg (exL op at_ name field n ty ref A1 args.length c1).toArray) (by simp [results, Try.results21, go_sem, q0, q1, q2, q3, q4, q5, q6, q7]) rfl (ret_fin (by simp) (foldT_stays _ _ _ _ _ _ _ _ H0.out HW.out) HFIN.out)
set_option maxRecDepth 100000 in
set_option maxHeartbeats 1000000 in
theorem expr_make (op at_ : Int) (name field : ByteArray) (n ty ref : Int) (args : List Ex) (IH : ∀ x ∈ args, ExprOK x) (A : Option Nat) (c fp : Nat) (S : Nat → Prop) (w : World) (hf : Folder w fp) (hsl : SlIn S w A args) (hlow : ∀ b, S b → b < w.heap.size) (h0 : op ≠ 0) (u : Int) (hN : isNumT op (args.map foldT) = true) (hw : worksT op ty (args.map foldT) = some u) :
    Calls Try.prog 21 #[.pointer (some ⟨fp, 0, none⟩), .agg (exL op at_ name field n ty ref A args.length c).toArray] w (ExprAns (.mk op at_ name field n ty ref args) w) := by
  have hB2 : Hid (∀ l1 l2 : Array Value, Below w.heap.size w ((w.alloc (.cells l1 27)).alloc (.cells l2 27))) := fun l1 l2 => ((Below.refl _ _).alloc (Nat.le_refl _) _).alloc (by simp) _
  have HSL := Lib.hid hsl
  have HLOW := Lib.hid hlow
  have h02 : (op == 0) = false := by simpa using h0
  have H0 := Lib.hid h0
  have HN := Lib.hid hN
  have HW := Lib.hid hw
  have HBD : Hid (∀ x ∈ args.map foldT, -2147483648 ≤ x.n ∧ x.n ≤ 2147483647) := fun x hx => by
    obtain ⟨y, _, rfl⟩ := List.mem_map.1 hx
    exact foldT_bd y (((isNumT_iff _ _).1 hN).2.2 _ hx)
  clear hN hw
  clear hsl hlow h0
  go_enter Try.func21, Try.ntmps21
  go_wp2_with (first | (go_at_call 32; refine (each_any args IH A c fp S _ (hf.below (hB2.out _ _) (Nat.le_refl _)) (HSL.out.under (hB2.out _ _) HLOW.out) (fun b hb => by have := HLOW.out b hb; simp; omega)).mono ?_; rintro e w1 ⟨A1, c1, S1, rfl, hsl1, hS1, hb1⟩; obtain ⟨hrow, hmid⟩ := Mid.start w _ _ A1 _ S1 fp w1 (exL op at_ name field n ty ref A1 args.length c1) rfl hf hb1 hsl1 hS1; have HROW := Lib.hid hrow; have HMID := Lib.hid hmid; clear hrow hmid hsl1 hS1 hb1) | (refine wpList_store_row rfl 25 _ _ rfl w.heap.size 7 rfl [slV A1 args.length c1] rfl (by kernel_rfl) (exL op at_ name field n ty ref A args.length c) (exL op at_ name field n ty ref A1 args.length c1) 27 HROW.out (by show 7 + 1 ≤ 8; omega) (one_one _ rfl) rfl ?_; generalize w1.setRow w.heap.size (exL op at_ name field n ty ref A1 args.length c1).toArray = W at *; have c0 := row_at HMID.out.box 0 _ rfl; clear HROW) | (refine wpList_load_at rfl 27 _ rfl w.heap.size 0 rfl _ _ (row_cells HMID.out.box) Try.underlying27 rfl (by kernel_rfl) ?_) | (refine wpList_load_at rfl 27 _ rfl w.heap.size 0 rfl _ _ (row_cells HMID3.out.box) Try.underlying27 rfl (by kernel_rfl) ?_) | (refine wpList_load_at rfl 27 _ rfl w.heap.size 0 rfl _ _ (row_cells HMID4.out.box) Try.underlying27 rfl (by kernel_rfl) ?_) | (go_at_call 33; refine (isNum_len op at_ name field n ty ref A1 _ _ c1 fp S1 _ (by simp) HMID.out.fold HMID.out.sl (fun b hb => (HMID.out.low b hb).2) _ HN.out).mono ?_; rintro e W3 ⟨rfl, hb3⟩; have HMID3 := Lib.hid (HMID.out.under hb3); clear HMID c0 hb3) | (go_at_call 34; refine (worked_any op at_ name field n ty ref A1 _ _ c1 S1 _ (by simp) HN.out HBD.out HMID3.out.sl (fun b hb => (HMID3.out.low b hb).2)).mono ?_; rintro e W4 ⟨hw, hb4⟩; rw [HW.out] at hw; obtain ⟨v, rfl, hv, hv1, hv2⟩ := hw; have HV := Lib.hid hv; clear hv; have HMID4 := Lib.hid (HMID3.out.under hb4); clear HMID3 hb4) | (go_at_call 35; refine (number_any op at_ name field n ty ref v _ _ _ _ hv1 hv2).mono ?_; rintro e W5 ⟨rfl, hb5⟩; have HMID5 := Lib.hid (HMID4.out.under hb5); clear HMID4 hb5) | (refine wpList_store_row rfl 27 _ _ rfl (w.heap.size + 1) 0 rfl (exL 0 at_ ⟨#[]⟩ ⟨#[]⟩ (wrapT ty v) ty 0 none 0 0) rfl (by kernel_rfl) zeroL (exL 0 at_ ⟨#[]⟩ ⟨#[]⟩ (wrapT ty v) ty 0 none 0 0) 27 HMID5.out.res (by show 0 + 8 ≤ 8; omega) (exL_one _ _ _ _ _ _ _ _ _ _) rfl ?_; have HFIN := Lib.hid (HMID5.out.fin (cs' := (exL 0 at_ ⟨#[]⟩ ⟨#[]⟩ (wrapT ty v) ty 0 none 0 0))); generalize W5.setRow (w.heap.size + 1) (exL 0 at_ ⟨#[]⟩ ⟨#[]⟩ (wrapT ty v) ty 0 none 0 0).toArray = WF at *; have q0 := row_at HFIN.out.res 0 _ rfl; have q1 := row_at HFIN.out.res 1 _ rfl; have q2 := row_at HFIN.out.res 2 _ rfl; have q3 := row_at HFIN.out.res 3 _ rfl; have q4 := row_at HFIN.out.res 4 _ rfl; have q5 := row_at HFIN.out.res 5 _ rfl; have q6 := row_at HFIN.out.res 6 _ rfl; have q7 := row_at HFIN.out.res 7 _ rfl))
  exact bodyPost_ret (v := .agg (exL 0 at_ ⟨#[]⟩ ⟨#[]⟩ (wrapT ty v) ty 0 none 0 0).toArray) (by simp [results, Try.results21, go_sem, q0, q1, q2, q3, q4, q5, q6, q7]) rfl (ret_fin rfl (by rw [HV.out]; exact foldT_makes _ _ _ _ _ _ _ _ _ H0.out HW.out) HFIN.out.none)
theorem expr_any : ∀ x, ExprOK x := by
  refine Ex.ind fun op at_ name field n ty ref args IH => ?_
  rintro _ _ _ _ _ _ _ A c _ fp S w h hf hsl hlow
  injection h with e1 e2 e3 e4 e5 e6 e7 e8
  subst e1 e2 e3 e4 e5 e6 e7 e8
  by_cases h0 : op = 0
  · subst h0
    exact expr_num at_ name field n ty ref args IH A c fp S w hf hsl hlow
  · cases hN : isNumT op (args.map foldT) with
    | false => exact expr_stay op at_ name field n ty ref args IH A c fp S w hf hsl hlow h0 hN
    | true =>
      cases hw : worksT op ty (args.map foldT) with
      | none => exact expr_div op at_ name field n ty ref args IH A c fp S w hf hsl hlow h0 hN hw
      | some u => exact expr_make op at_ name field n ty ref args IH A c fp S w hf hsl hlow h0 u hN hw
end Go.Proofs.Ythmphmndpfkbcaa
