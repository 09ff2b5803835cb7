/- The order of texts; what cmp.Compare and Place's closure answer where keys are texts. -/
import Derived.WalkLawsBesides
import Derived.Lib.Strings
import Derived.Test.YtbabohioeeandaaTSf
namespace Go.Proofs.Ytbabohioeeandaa
open Go.RowKit
/-- A text stands ahead of another one, byte by byte. -/
def sl (a b : ByteArray) : Bool := Op.bytesLess a.toList b.toList
theorem toList_inj {a b : ByteArray} (h : a.toList = b.toList) : a = b := by
  rw [Lib.toList_data, Lib.toList_data] at h
  cases a with
  | mk yd => cases b with
    | mk xd => exact congrArg ByteArray.mk (Array.toList_inj.1 h)
theorem less_lt : ∀ x y : List UInt8, (Op.bytesLess x y = true) ↔ x < y
  | x, [] => by cases x <;> simp [Op.bytesLess]
  | [], y :: ys => by simp [Op.bytesLess]
  | x :: xs, y :: ys => by
    have := less_lt xs ys
    simp only [Op.bytesLess, List.cons_lt_cons_iff, Bool.or_eq_true, Bool.and_eq_true, decide_eq_true_eq, beq_iff_eq, this]
theorem sl_iff {a b : ByteArray} : sl a b = true ↔ a.toList < b.toList := less_lt _ _
theorem sl_irrefl (a : ByteArray) : sl a a = false := by
  cases h : sl a a with
  | false => rfl
  | true => exact absurd (sl_iff.1 h) (List.lt_irrefl _)
theorem sl_trans {a b c : ByteArray} (h : sl a b = true) (k : sl b c = true) : sl a c = true := sl_iff.2 (List.lt_trans (sl_iff.1 h) (sl_iff.1 k))
theorem sl_tri {a b : ByteArray} (h : sl a b = false) (k : sl b a = false) : a = b := by
  have h1 : ¬ a.toList < b.toList := fun e => by rw [sl_iff.2 e] at h; cases h
  have h2 : ¬ b.toList < a.toList := fun e => by rw [sl_iff.2 e] at k; cases k
  exact toList_inj (List.le_antisymm (List.not_lt.1 h2) (List.not_lt.1 h1))
theorem sl_asymm {a b : ByteArray} (h : sl a b = true) : sl b a = false := by
  cases k : sl b a with
  | false => rfl
  | true => have := sl_trans h k; rw [sl_irrefl] at this; cases this
/-- What cmp.Compare answers of two texts. -/
def cmpS (a b : ByteArray) : Int := if sl a b then -1 else if sl b a then 1 else 0
theorem cmpS_neg {a b : ByteArray} : cmpS a b < 0 ↔ sl a b = true := by unfold cmpS; split <;> (try split) <;> simp_all
theorem cmpS_zero {a b : ByteArray} : cmpS a b = 0 ↔ a = b := by
  unfold cmpS
  split
  · rename_i h; simp; intro e; subst e; rw [sl_irrefl] at h; cases h
  · rename_i h
    split
    · rename_i k; simp; intro e; subst e; rw [sl_irrefl] at k; cases k
    · rename_i k; simp; exact sl_tri (by simpa using h) (by simpa using k)
theorem nan_string (w : World) (a : ByteArray) :
    Calls Try.prog 88 #[.string a] w fun e w' => e = .returned (.bool false) ∧ w' = w := by
  go_enter Try.func88, Try.ntmps88
  go_wp2_with fail
  go_ret
  exact ⟨by simp, rfl⟩
theorem cmp_string (w : World) (a b : ByteArray) :
    Calls Try.prog 75 #[.string a, .string b] w fun e w' => e = .returned (.int .i64 (cmpS a b)) ∧ w' = w := by
  have HN := Lib.hid (fun w a => nan_string w a)
  cases hl : Op.bytesLess a.toList b.toList with
  | true =>
    have e : cmpS a b = -1 := by unfold cmpS sl; rw [hl]; rfl
    rw [e]; clear e
    go_enter Try.func75, Try.ntmps75
    go_wp2_with fail
    refine (HN.out _ _).mono ?_
    rintro e w1 ⟨rfl, rfl⟩
    go_wp2_with fail
    refine (HN.out _ _).mono ?_
    rintro e w1 ⟨rfl, rfl⟩
    go_wp2_with fail
    go_ret
    exact ⟨rfl, rfl⟩
  | false =>
    by_cases he : a = b
    · subst he
      have e : cmpS a a = 0 := cmpS_zero.2 rfl
      rw [e]; clear e
      go_enter Try.func75, Try.ntmps75
      go_wp2_with fail
      refine (HN.out _ _).mono ?_
      rintro e w1 ⟨rfl, rfl⟩
      go_wp2_with fail
      refine (HN.out _ _).mono ?_
      rintro e w1 ⟨rfl, rfl⟩
      go_wp2_with fail
      go_ret
      exact ⟨rfl, rfl⟩
    · have hb : sl b a = true := by
        cases k : sl b a with
        | true => rfl
        | false => exact absurd (sl_tri hl k) he
      have e : cmpS a b = 1 := by unfold cmpS; rw [show sl a b = false from hl, hb]; rfl
      have hne : (a.toList == b.toList) = false := by rw [beq_eq_false_iff_ne]; exact fun h => he (toList_inj h)
      rw [e]; clear e
      go_enter Try.func75, Try.ntmps75
      go_wp2_with fail
      refine (HN.out _ _).mono ?_
      rintro e w1 ⟨rfl, rfl⟩
      go_wp2_with fail
      refine (HN.out _ _).mono ?_
      rintro e w1 ⟨rfl, rfl⟩
      go_wp2_with fail
      go_ret
      exact ⟨rfl, rfl⟩
theorem place1C (w : World) (k : ByteArray) (v : Int) (q : ByteArray) :
    Calls Try.prog 84 #[.agg #[.string k, .int .i64 v], .string q] w fun e w' => e = .returned (.int .i64 (cmpS k q)) ∧ Below w.heap.size w w' := by
  have hb : Below w.heap.size w (w.alloc (.cells #[.string k, .int .i64 v] 115)) := (Below.refl _ _).alloc (Nat.le_refl _) _
  have hx : (w.alloc (.cells #[.string k, .int .i64 v] 115)).heap[w.heap.size]? = some (.cells #[.string k, .int .i64 v] 115 (0, 0)) := heap_alloc_new w _
  have c0 : (w.alloc (.cells #[.string k, .int .i64 v] 115)).cell? ⟨w.heap.size, 0, none⟩ = some (.string k) := by rw [cell_of_row _ _ _ _ _ _ hx]; rfl
  have hc := fun w => cmp_string w k q
  have HB := Lib.hid hb
  have HC := Lib.hid hc
  clear hb hx hc
  go_enter Try.func84, Try.ntmps84
  go_wp2_with fail
  generalize w.alloc (.cells #[.string k, .int .i64 v] 115) = w0 at *
  refine (HC.out _).mono ?_
  rintro e w1 ⟨rfl, rfl⟩
  go_wp2_with fail
  go_ret
  exact ⟨rfl, HB.out⟩
end Go.Proofs.Ytbabohioeeandaa