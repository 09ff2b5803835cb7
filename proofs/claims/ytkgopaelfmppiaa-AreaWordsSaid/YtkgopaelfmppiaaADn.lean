/- What Read answers, and Write where nothing is written. -/
import Derived.Test.YtkgopaelfmppiaaADm
import Derived.Lib.ConvBytes
import Derived.Lib.SmallJoins
namespace Go.Proofs.Ytkgopaelfmppiaa
open Go.RowKit
set_option linter.unusedSimpArgs false
set_option linter.unusedVariables false
/-- The bytes of a text, made a slice. -/
theorem to_bytes (w : World) (l : List Int) (hr : ∀ x ∈ l, 0 ≤ x ∧ x ≤ 255) (hl : l.length ≤ 64) :
    ∃ c w', (convert 9 40 (.string (strOfNums l))).run Try.prog w = .ok (.slice (some ⟨w.heap.size, 0, none⟩) l.length c) w' ∧ Byt w' w'.heap.size (some ⟨w.heap.size, 0, none⟩) l.length c l ∧ Below w.heap.size w w' := by
  have hz : (strOfNums l).size = l.length := by simp [strOfNums, ByteArray.size]
  have hrun := Lib.run_convert_string_bytes (P := Try.prog) w 9 40 5 (strOfNums l) Try.underlying9 Try.underlying40 Try.underlying5
  rw [hz] at hrun
  refine ⟨_, _, hrun, ⟨rfl, grownCap_ge _ _ _ _, grownCap_le_maxLen _ _ _ _ (by simp only [maxLen]; omega), hr, fun hn => ⟨_, 0, rfl, by rw [Lib.bytesWorld_size]; omega, fun j hj => ?_⟩⟩, Joins.below_bytesWorld _ _ _ _ (Nat.le_refl _)⟩
  rw [Nat.zero_add, Lib.bytesWorld_cell _ _ _ _ (by omega)]
  have hb := hr _ (List.getElem_mem hj)
  rw [strOfNums_data, List.getD_eq_getElem?_getD, List.getD_eq_getElem?_getD, List.getElem?_map, List.getElem?_eq_getElem hj]
  simp only [Option.map_some, Option.getD_some]
  have e : (((UInt8.ofNat (l[j]).toNat).toNat : Nat) : Int) = l[j] := by rw [UInt8.toNat_ofNat']; omega
  rw [e]
def rdE (x : Ent) (q : Int) : Int := if q = 0 then readsI x.a else q
def ReadP (w : World) (E : Ent) (q : Int) (e : Ending) (w' : World) : Prop := ∃ A n c L, e = .returned (.tuple #[.slice A n c, .int .i64 (rdE E q)]) ∧ Byt w' w'.heap.size A n c L ∧ L = (if rdE E q = 0 then E.b else []) ∧ Below w.heap.size w w'
theorem readp_bad {w w' : World} {E : Ent} {q r : Int} (hr : rdE E q = r) (h0 : ¬ r = 0) (hb : Below w.heap.size w w') : ReadP w E q (.returned (.tuple #[.slice none 0 0, .int .i64 r])) w' := by
  refine ⟨none, 0, 0, [], by rw [hr], Byt.nil_ _ _, by rw [hr, if_neg h0], hb⟩
def wrE (x : Ent) (q : Int) (l : List Int) : Int := if q = 0 then (if writesI x.a = 0 then fitsA x.k x.a x.lo x.hi l else writesI x.a) else q
end Go.Proofs.Ytkgopaelfmppiaa