/-
  A map literal with whole numbers as keys: its insertions and a look-up with ok, at a map that lies in the last block. No program in sight.
-/
import Derived.Test.YthmphmndpfkbcaaProg
import Derived.WalkKit
import Derived.WalkSpells
import Derived.WalkLawsBesides
import Derived.BigQuiet
import Derived.Deep.QuietTactic
import Derived.Lib.Hide
import Derived.Maps.Own
import Derived.WideMake
namespace Go.Proofs.Ythmphmndpfkbcaa
open Go.RowKit

section
variable {P : Program} {t k e : TypeId}
theorem alloc_at (w : World) (o : Obj) : (w.alloc o).heap[w.heap.size]? = some o := by
  show (w.heap.push o)[w.heap.size]? = some o
  simp
theorem alloc_set (w : World) (o o' : Obj) : ({ w.alloc o with heap := (w.alloc o).heap.setIfInBounds w.heap.size o' } : World) = w.alloc o' := by
  have h : (w.heap.push o).setIfInBounds w.heap.size o' = w.heap.push o' := by
    apply Array.ext_getElem?
    intro i
    rw [Array.getElem?_setIfInBounds, Array.getElem?_push, Array.getElem?_push]
    by_cases hi : w.heap.size = i
    · subst hi
      simp
    · rw [if_neg hi, if_neg (fun h => hi h.symm), if_neg (fun h => hi h.symm)]
  show ({ w with heap := (w.heap.push o).setIfInBounds w.heap.size o' } : World) = { w with heap := w.heap.push o' }
  rw [h]
theorem run_ins (ht : P.underlying t = some (.map k e)) (hk : P.underlying k = some (.int .i64)) (w : World) (es es' : Array MapEntry) (c c' : Nat) (key : Int) (v : Value)
    (hf : Instr.findNow (.int .i64) (.int .i64 key) es.toList 0 = some none) (he : es' = es.push { key := .int .i64 key, val := v, born := c }) (hc : c' = c + 1) :
    (Instr.mapUpdate t (.map (some w.heap.size)) (.int .i64 key) v).run P (w.alloc (.map es c)) = .ok () (w.alloc (.map es' c')) := by
  have hb := alloc_at w (.map es c)
  have hck : (Instr.checkKey false 10000 k (.int .i64 key)).run P (w.alloc (.map es c)) = .ok () (w.alloc (.map es c)) := MapKept.run_checkKey (k := .int .i64 key) hk (by simp [MapKept.IsKey]) false 9999
  subst he hc
  refine Eq.trans ?_ (congrArg _ (alloc_set w (.map es c) _))
  simp [Instr.mapUpdate, run_underlying ht, MapKept.run_getObj_map hb, hck, MapKept.run_findKey hk hf, MapKept.run_setObj_map _ hb, Result.andThen]
theorem run_look (ht : P.underlying t = some (.map k e)) (hk : P.underlying k = some (.int .i64)) (w : World) (r : Nat) (es : Array MapEntry) (c : Nat) (hb : w.heap[r]? = some (.map es c)) (key : Int) (i : Nat) (v : Value)
    (hf : Instr.findNow (.int .i64) (.int .i64 key) es.toList 0 = some (some (i, v))) :
    (Instr.lookup t (.map (some r)) (.int .i64 key) true).run P w = .ok (.tuple #[v, .bool true]) w := by
  have hck : (Instr.checkKey es.isEmpty 10000 k (.int .i64 key)).run P w = .ok () w := MapKept.run_checkKey (k := .int .i64 key) hk (by simp [MapKept.IsKey]) _ 9999
  simp [Instr.lookup, run_underlying ht, MapKept.run_getObj_map hb, hck, MapKept.run_findKey hk hf]
theorem run_look_none (ht : P.underlying t = some (.map k e)) (hk : P.underlying k = some (.int .i64)) (w : World) (r : Nat) (es : Array MapEntry) (c : Nat) (hb : w.heap[r]? = some (.map es c)) (key : Int) (z : Value) (hz : (zeroValue e).run P w = .ok z w)
    (hf : Instr.findNow (.int .i64) (.int .i64 key) es.toList 0 = some none) :
    (Instr.lookup t (.map (some r)) (.int .i64 key) true).run P w = .ok (.tuple #[z, .bool false]) w := by
  have hck : (Instr.checkKey es.isEmpty 10000 k (.int .i64 key)).run P w = .ok () w := MapKept.run_checkKey (k := .int .i64 key) hk (by simp [MapKept.IsKey]) _ 9999
  simp [Instr.lookup, run_underlying ht, MapKept.run_getObj_map hb, hck, MapKept.run_findKey hk hf, hz]
end
end Go.Proofs.Ythmphmndpfkbcaa
