/-
  What the rows of the lex laws share: from the listed variables' data to their cells; a world that holds them (the witness). No condition of its own.
-/
import Derived.Test.YtmebcenjghagoaaGreatDoorCards
import Derived.Test.YtmebcenjghagoaaGreatDoorTie
import Derived.Test.YtmebcenjghagoaaGreatDoorNumAt
import Derived.ProofKit
import Derived.OpenShut
import Derived.Deep.DeepHandedRow
import Derived.Lib.LaidTab
import Derived.LaidHandle
import Derived.RowKitTokens
namespace Go.Proofs.YtmebcenjghagoaaGreatDoor
open Go.ChangeShapes Go.WideShapes Go.ChangeAt Go.RowKit

theorem rbOwn : ownKnob Tryz.prog.godebug = none := by kernel_rfl
theorem rbMk : Tryz.prog.globalNamed "plover/lex.marks" = some 2 := by kernel_rfl
theorem rbMkType : (Tryz.prog.globals[2]?).map (·.type) = some 130 := by kernel_rfl
theorem rbCellsA : Tryz.prog.cellsOf 130 = 29 := by kernel_rfl
theorem rbCellsS : Tryz.prog.cellsOf 9 = 1 := by kernel_rfl
theorem rbEr : Tryz.prog.globalNamed "strconv.ErrRange" = some 4 := by kernel_rfl
theorem rbErType : (Tryz.prog.globals[4]?).map (·.type) = some 31 := by kernel_rfl
theorem rbEt : Tryz.prog.globalNamed "errors.errorType" = some 0 := by kernel_rfl
theorem rbRt : (Tryz.prog.cutTypes.find? (·.1 == "internal/reflectlite.rtype")).map (·.2) = some 109 := by kernel_rfl
theorem rbOneRow : ((List.range Tryz.prog.types.size).filter fun t => Tryz.prog.rowNamed t [101, 114, 114, 111, 114]) = [31] := by kernel_rfl

/-- An array of strings that reads as a list holds these strings, cell for cell. -/
theorem cells_of_strs {H : Type} {enc : TypeId × Value → H} {P : Program} {w : World} {base : Nat} {sp : Nat → Bool} {held : Bool} {fuel : Nat} {t e : TypeId} {n : Nat} {cs : List Value} {ls : List (List UInt8)} {p : List MemPlace}
    (ht : P.underlying t = some (.array n e)) (he : P.underlying e = some .string) (hce : P.cellsOf e = 1) (hct : P.cellsOf t = n)
    (h : DataW.trod enc P w base sp held fuel t cs = some (.agg (ls.map fun l => .lit (.string l)), p)) (i : Nat) (l : List UInt8) (hl : ls[i]? = some l) : cs[i]? = some (.string ⟨l.toArray⟩) := by
  cases fuel with
  | zero => simp [DataW.trod] at h
  | succ fuel =>
    simp only [DataW.trod, ht, hce, hct, Nat.mul_one] at h
    split at h
    · obtain ⟨xs, hm, hx⟩ := Option.map_eq_some_iff.1 h
      have hxs : xs.map (·.1) = ls.map fun l => (DataW.lit (.string l) : DataW H) := by
        have := congrArg Prod.fst hx
        simpa using this
      have hxl : xs.length = n := by simpa using Lib.mapM_length hm
      have hzl : ls.length = n := by
        have := congrArg List.length hxs
        simp at this
        omega
      have hi : i < n := by have := (List.getElem?_eq_some_iff.1 hl).1; omega
      obtain ⟨b, hb, hf⟩ := Lib.mapM_at hm i i (by simp [hi])
      obtain ⟨s, hc, rfl, _⟩ := DataW.trod_string he hf
      have h1 : cs[i]? = some (.string s) := by
        have := congrArg (·[0]?) hc
        simpa [List.getElem?_take, List.getElem?_drop] using this
      have h2 : (xs.map (·.1))[i]? = some (DataW.lit (.string s.data.toList) : DataW H) := by simp [hb]
      rw [hxs] at h2
      simp only [List.getElem?_map, Option.map_eq_some_iff, DataW.lit.injEq, Lit.string.injEq] at h2
      obtain ⟨l', hl', he'⟩ := h2
      rw [hl] at hl'
      obtain rfl := Option.some.inj hl'
      rw [h1, he']
    · cases h
theorem iface_of {H : Type} {enc : TypeId × Value → H} {P : Program} {w : World} {base : Nat} {sp : Nat → Bool} {fuel : Nat} {t : TypeId} {ms : Array (String × TypeId)} {cs : List Value} {nm : String} {d : DataW H} {p : List MemPlace}
    (ht : P.underlying t = some (.interface ms)) (h : DataW.trod enc P w base sp false fuel t cs = some (.iface nm d, p)) : ∃ u v, cs = [.iface u v] := by
  cases fuel with
  | zero => simp [DataW.trod] at h
  | succ fuel =>
    unfold DataW.trod at h
    rw [ht] at h
    split at h <;> first | (rename_i h1 h2; exact ⟨_, _, rfl⟩) | (simp_all; done) | (cases h)

/-- The rows' list of variables. -/
def laidList : List (String × DataW Unit) := Rows.lexTellsRow.laid
def laidRest : List (String × DataW Unit) := [("math/bits.deBruijn32tab", Rows.laid_math_bits_deBruijn32tab), ("math/bits.deBruijn64tab", Rows.laid_math_bits_deBruijn64tab), ("internal/strconv.uint64pow10", Rows.laid_internal_strconv_uint64pow10), ("strconv.ErrRange", Rows.laid_strconv_ErrRange), ("strconv.ErrSyntax", Rows.laid_strconv_ErrSyntax), ("plover/lex.marks", Rows.laid_plover_lex_marks)]
theorem laid_parts {W : World} (h : laidMetH Tryz.prog laidList W) : laidMet Tryz.prog laidRest W ∧ handlesMet Tryz.prog [("errors.errorType", Rows.laid_errors_errorType)] W := h
theorem laidVars_mem {P : Program} {w : World} {n : String} {d : DataW Unit} : ∀ {l : List (String × DataW Unit)} {ps : List MemPlace}, DataW.LaidVars P w l ps → (n, d) ∈ l → ∃ g t cs fuel p, P.globalNamed n = some g ∧ (P.globals[g]?).map (·.type) = some t ∧ w.var? P n = some cs ∧ DataW.trod (fun _ => ()) P w 0 (fun _ => true) false fuel t cs.toList = some (d, p)
  | [], _, _, hm => by cases hm
  | (n', d') :: r, ps, ⟨g, t, cs, fuel, p, q, h1, h2, h3, h4, h5, _⟩, hm => by
    rcases List.mem_cons.1 hm with e | hm
    · cases e
      exact ⟨g, t, cs, fuel, p, h1, h2, h3, h4⟩
    · exact laidVars_mem h5 hm
theorem laid_of {W : World} (h : laidMetH Tryz.prog laidList W) : LaidL W := by
  obtain ⟨⟨ps, h1, _⟩, h2⟩ := laid_parts h
  refine ⟨?_, ?_, ?_⟩
  · obtain ⟨g, t, cs, fuel, p, hg, ht, hv, hd⟩ := laidVars_mem h1 (n := "plover/lex.marks") (d := Rows.laid_plover_lex_marks) (by simp [laidRest])
    obtain rfl := Option.some.inj (rbMk.symm.trans hg)
    obtain rfl := Option.some.inj (rbMkType.symm.trans ht)
    intro k m hm
    have hk : (marksL.map (·.data.toList))[k]? = some m.data.toList := by simp [hm]
    have hc := cells_of_strs (ls := marksL.map (·.data.toList)) Tryz.underlying130 Tryz.underlying9 rbCellsS rbCellsA hd k _ hk
    have hvc := World.var?_cell rbMk hv k
    rw [hvc]
    simpa using hc
  · obtain ⟨g, t, cs, fuel, p, hg, ht, hv, hd⟩ := laidVars_mem h1 (n := "strconv.ErrRange") (d := Rows.laid_strconv_ErrRange) (by simp [laidRest])
    obtain rfl := Option.some.inj (rbEr.symm.trans hg)
    obtain rfl := Option.some.inj (rbErType.symm.trans ht)
    obtain ⟨u, v, hcs⟩ := iface_of Tryz.underlying31 hd
    refine ⟨u, v, ?_⟩
    have hvc := World.var?_cell rbEr hv 0
    rw [hvc]
    have : cs.toList[0]? = some (.iface u v) := by rw [hcs]; rfl
    simpa using this
  · obtain ⟨name, u, ty, e1, e2, e3, e4, e5⟩ := h2 _ (List.mem_singleton.2 rfl)
    have en : name = [101, 114, 114, 111, 114] := (Option.some.inj e1).symm
    subst en
    obtain rfl := Option.some.inj (rbRt.symm.trans e2)
    have hm : ty ∈ (List.range Tryz.prog.types.size).filter fun t => Tryz.prog.rowNamed t [101, 114, 114, 111, 114] := List.mem_filter.2 ⟨List.mem_range.2 e3, e4⟩
    rw [rbOneRow] at hm
    obtain rfl := List.mem_singleton.1 hm
    have hh : typeHandle Tryz.prog 31 = .pointer (some ⟨8, 31, none⟩) := by kernel_rfl
    rw [hh] at e5
    simpa using World.var?_cell rbEt e5 0

def putCells (cs : Array Value) : Obj → Obj
  | .cells _ t frozen => .cells cs t frozen
  | o => o
def intCells (k : IntKind) (l : List Int) : Array Value := (l.map (Value.int k)).toArray
/-- A world for the witness: the settled one, the listed variables' cells laid. -/
noncomputable def laidWorld (os : Os) : World :=
  let w0 := World.holding Tryz.prog os ⟨#[], #[], []⟩
  let n := w0.heap.size
  { w0 with heap := ((((((((w0.heap.modify 2 (putCells marksA)).modify 0 (putCells #[.iface 109 (.agg #[.pointer (some ⟨8, 31, none⟩)])])).modify 5 (putCells (intCells .u64 [1, 10, 100, 1000, 10000, 100000, 1000000, 10000000, 100000000, 1000000000, 10000000000, 100000000000, 1000000000000, 10000000000000, 100000000000000, 1000000000000000, 10000000000000000, 100000000000000000, 1000000000000000000, 10000000000000000000]))).modify 6 (putCells (intCells .u8 [0, 1, 28, 2, 29, 14, 24, 3, 30, 22, 20, 15, 25, 17, 4, 8, 31, 27, 13, 23, 21, 19, 16, 7, 26, 12, 18, 6, 11, 5, 10, 9]))).modify 7 (putCells (intCells .u8 [0, 1, 56, 2, 57, 49, 28, 3, 61, 58, 42, 50, 38, 29, 17, 4, 62, 47, 59, 36, 45, 43, 51, 22, 53, 39, 33, 30, 24, 18, 12, 5, 63, 55, 48, 27, 60, 41, 37, 16, 46, 35, 44, 21, 52, 32, 23, 11, 54, 26, 40, 15, 34, 20, 31, 10, 25, 14, 19, 9, 13, 8, 7, 6]))).modify 4 (putCells #[.iface 141 (.pointer (some ⟨n, 0, none⟩))])).modify 3 (putCells #[.iface 141 (.pointer (some ⟨n + 1, 0, none⟩))])).push (.cells #[.string ⟨#[118, 97, 108, 117, 101, 32, 111, 117, 116, 32, 111, 102, 32, 114, 97, 110, 103, 101]⟩] 143 (0, 0))).push (.cells #[.string ⟨#[105, 110, 118, 97, 108, 105, 100, 32, 115, 121, 110, 116, 97, 120]⟩] 143 (0, 0)) }
end Go.Proofs.YtmebcenjghagoaaGreatDoor
