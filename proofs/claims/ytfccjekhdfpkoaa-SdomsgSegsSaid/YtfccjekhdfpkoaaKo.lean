/- Messages and lines as wholes; get and put. -/
import Derived.Test.YtfccjekhdfpkoaaKn
import Derived.Test.YtfccjekhdfpkoaaKm1
import Derived.Test.YtfccjekhdfpkoaaKm2
import Derived.Test.YtfccjekhdfpkoaaKm3
import Derived.Test.YtfccjekhdfpkoaaKm4
import Derived.Test.YtfccjekhdfpkoaaKm5
import Derived.Test.YtfccjekhdfpkoaaKm6
import Derived.Test.YtfccjekhdfpkoaaKm8
namespace Go.Proofs.Ytfccjekhdfpkoaa
open Go.RowKit
set_option linter.unusedSimpArgs false
set_option linter.unusedVariables false
set_option maxHeartbeats 4000000

def mAr (m : Ms) : Array Value := #[.int .i64 m.c, .int .i64 m.ki, .int .i64 m.ks, .bool m.tg, .bool m.la, .bool m.fa, .bool m.su, .int .i64 m.sz, .int .i64 m.n, .int .u8 m.d0, .int .u8 m.d1, .int .u8 m.d2, .int .u8 m.d3, .int .u8 m.d4, .int .u8 m.d5, .int .u8 m.d6, .int .i64 m.co, .int .i64 m.sq, .int .i64 m.bl, .int .i64 m.sp, .int .i64 m.cr]
theorem mAr_size (m : Ms) : (mAr m).size = 21 := rfl
theorem mAr_one (m : Ms) : (mAr m).all (·.oneCell') = true := one_msg m.c m.ki m.ks m.tg m.la m.fa m.su m.sz m.n m.d0 m.d1 m.d2 m.d3 m.d4 m.d5 m.d6 m.co m.sq m.bl m.sp m.cr
def eqM (a b : Ms) : Bool := decide (a.c = b.c ∧ a.ki = b.ki ∧ a.ks = b.ks ∧ a.tg = b.tg ∧ a.la = b.la ∧ a.fa = b.fa ∧ a.su = b.su ∧ a.sz = b.sz ∧ a.n = b.n ∧ a.d0 = b.d0 ∧ a.d1 = b.d1 ∧ a.d2 = b.d2 ∧ a.d3 = b.d3 ∧ a.d4 = b.d4 ∧ a.d5 = b.d5 ∧ a.d6 = b.d6 ∧ a.co = b.co ∧ a.sq = b.sq ∧ a.bl = b.bl ∧ a.sp = b.sp ∧ a.cr = b.cr)
theorem eqM_iff {a b : Ms} : eqM a b = true ↔ a = b := by
  unfold eqM
  rw [decide_eq_true_eq]
  constructor
  · intro h
    cases a; cases b
    simp only at h
    simp only [Ms.mk.injEq]
    exact h
  · rintro rfl
    simp
theorem run_eqM (a b : Ms) (w : World) : (Op.equalIn 10000 28 (.agg (mAr a)) (.agg (mAr b))).run Try.prog w = .ok (eqM a b) w := run_eq_msg w a.c a.ki a.ks a.tg a.la a.fa a.su a.sz a.n a.d0 a.d1 a.d2 a.d3 a.d4 a.d5 a.d6 a.co a.sq a.bl a.sp a.cr b.c b.ki b.ks b.tg b.la b.fa b.su b.sz b.n b.d0 b.d1 b.d2 b.d3 b.d4 b.d5 b.d6 b.co b.sq b.bl b.sp b.cr
def eqL (a b : List Int) : Bool := decide (a.getD 0 0 = b.getD 0 0 ∧ a.getD 1 0 = b.getD 1 0 ∧ a.getD 2 0 = b.getD 2 0 ∧ a.getD 3 0 = b.getD 3 0 ∧ a.getD 4 0 = b.getD 4 0 ∧ a.getD 5 0 = b.getD 5 0 ∧ a.getD 6 0 = b.getD 6 0 ∧ a.getD 7 0 = b.getD 7 0)
theorem run_eqL (a b : List Int) (w : World) : (Op.equalIn 10000 30 (.agg (lnA a)) (.agg (lnA b))).run Try.prog w = .ok (eqL a b) w := run_eq_line w (a.getD 0 0) (a.getD 1 0) (a.getD 2 0) (a.getD 3 0) (a.getD 4 0) (a.getD 5 0) (a.getD 6 0) (a.getD 7 0) (b.getD 0 0) (b.getD 1 0) (b.getD 2 0) (b.getD 3 0) (b.getD 4 0) (b.getD 5 0) (b.getD 6 0) (b.getD 7 0)
/-- All bytes of a line are bytes. -/
def Byte8 (l : List Int) : Prop := ∀ i, 0 ≤ l.getD i 0 ∧ l.getD i 0 ≤ 255
theorem byte8_of {l : List Int} (h : ∀ x ∈ l, 0 ≤ x ∧ x ≤ 255) : Byte8 l := fun i => by
  by_cases hi : i < l.length
  · have := h l[i] (List.getElem_mem hi)
    simpa [List.getD, List.getElem?_eq_getElem hi] using this
  · simp [List.getD, List.getElem?_eq_none (show l.length ≤ i by omega)]
/-- The message that a line of a Cmd tells. -/
def getM (c : Int) (l : List Int) : Ms :=
  if c = 1 then (if l.getD 0 0 / 2 % 2 = 1 then ⟨1, ((l.getD 1 0) + 256 * (l.getD 2 0)), ((l.getD 3 0)), false, false, (true), false, 0, (4 - (l.getD 0 0) / 4 % 4), (([(l.getD 4 0), (l.getD 5 0), (l.getD 6 0), (l.getD 7 0)].take (4 - (l.getD 0 0) / 4 % 4).toNat).getD 0 0), (([(l.getD 4 0), (l.getD 5 0), (l.getD 6 0), (l.getD 7 0)].take (4 - (l.getD 0 0) / 4 % 4).toNat).getD 1 0), (([(l.getD 4 0), (l.getD 5 0), (l.getD 6 0), (l.getD 7 0)].take (4 - (l.getD 0 0) / 4 % 4).toNat).getD 2 0), (([(l.getD 4 0), (l.getD 5 0), (l.getD 6 0), (l.getD 7 0)].take (4 - (l.getD 0 0) / 4 % 4).toNat).getD 3 0), (([(l.getD 4 0), (l.getD 5 0), (l.getD 6 0), (l.getD 7 0)].take (4 - (l.getD 0 0) / 4 % 4).toNat).getD 4 0), (([(l.getD 4 0), (l.getD 5 0), (l.getD 6 0), (l.getD 7 0)].take (4 - (l.getD 0 0) / 4 % 4).toNat).getD 5 0), (([(l.getD 4 0), (l.getD 5 0), (l.getD 6 0), (l.getD 7 0)].take (4 - (l.getD 0 0) / 4 % 4).toNat).getD 6 0), 0, 0, 0, 0, 0⟩ else ⟨1, ((l.getD 1 0) + 256 * (l.getD 2 0)), ((l.getD 3 0)), false, false, (false), false, (gsN (decide ((l.getD 0 0) % 2 = 1)) 0 [(l.getD 4 0), (l.getD 5 0), (l.getD 6 0), (l.getD 7 0)]), 0, 0, 0, 0, 0, 0, 0, 0, 0, 0, 0, 0, 0⟩) else
  if c = 10 then (if l.getD 0 0 / 2 % 2 = 1 then ⟨10, ((l.getD 1 0) + 256 * (l.getD 2 0)), ((l.getD 3 0)), false, false, (true), false, 0, (4 - (l.getD 0 0) / 4 % 4), (([(l.getD 4 0), (l.getD 5 0), (l.getD 6 0), (l.getD 7 0)].take (4 - (l.getD 0 0) / 4 % 4).toNat).getD 0 0), (([(l.getD 4 0), (l.getD 5 0), (l.getD 6 0), (l.getD 7 0)].take (4 - (l.getD 0 0) / 4 % 4).toNat).getD 1 0), (([(l.getD 4 0), (l.getD 5 0), (l.getD 6 0), (l.getD 7 0)].take (4 - (l.getD 0 0) / 4 % 4).toNat).getD 2 0), (([(l.getD 4 0), (l.getD 5 0), (l.getD 6 0), (l.getD 7 0)].take (4 - (l.getD 0 0) / 4 % 4).toNat).getD 3 0), (([(l.getD 4 0), (l.getD 5 0), (l.getD 6 0), (l.getD 7 0)].take (4 - (l.getD 0 0) / 4 % 4).toNat).getD 4 0), (([(l.getD 4 0), (l.getD 5 0), (l.getD 6 0), (l.getD 7 0)].take (4 - (l.getD 0 0) / 4 % 4).toNat).getD 5 0), (([(l.getD 4 0), (l.getD 5 0), (l.getD 6 0), (l.getD 7 0)].take (4 - (l.getD 0 0) / 4 % 4).toNat).getD 6 0), 0, 0, 0, 0, 0⟩ else ⟨10, ((l.getD 1 0) + 256 * (l.getD 2 0)), ((l.getD 3 0)), false, false, (false), false, (gsN (decide ((l.getD 0 0) % 2 = 1)) 0 [(l.getD 4 0), (l.getD 5 0), (l.getD 6 0), (l.getD 7 0)]), 0, 0, 0, 0, 0, 0, 0, 0, 0, 0, 0, 0, 0⟩) else
  if c = 0 then ⟨0, 0, 0, false, false, false, false, 0, 0, 0, 0, 0, 0, 0, 0, 0, 0, 0, 0, 0, 0⟩ else
  if c = 7 then ⟨7, 0, 0, false, false, false, false, 0, 0, 0, 0, 0, 0, 0, 0, 0, 0, 0, 0, 0, 0⟩ else
  if c = 17 then ⟨17, 0, 0, false, false, false, false, 0, 0, 0, 0, 0, 0, 0, 0, 0, 0, 0, 0, 0, 0⟩ else
  if c = 4 then ⟨4, 0, 0, (decide ((l.getD 0 0) / 16 % 2 = 1)), false, false, false, 0, 0, 0, 0, 0, 0, 0, 0, 0, 0, 0, 0, 0, 0⟩ else
  if c = 9 then ⟨9, 0, 0, (decide ((l.getD 0 0) / 16 % 2 = 1)), false, false, false, 0, 0, 0, 0, 0, 0, 0, 0, 0, 0, 0, 0, 0, 0⟩ else
  if c = 15 then ⟨15, 0, 0, false, false, false, false, 0, 0, 0, 0, 0, 0, 0, 0, 0, 0, ((l.getD 1 0)), ((l.getD 2 0)), 0, 0⟩ else
  if c = 16 then ⟨16, 0, 0, false, false, false, false, 0, 0, 0, 0, 0, 0, 0, 0, 0, 0, 0, 0, ((l.getD 0 0) / 4 % 8), ((l.getD 1 0) + 256 * (l.getD 2 0))⟩ else
  if c = 3 then ⟨3, ((l.getD 1 0) + 256 * (l.getD 2 0)), ((l.getD 3 0)), false, false, false, false, 0, 0, 0, 0, 0, 0, 0, 0, 0, 0, 0, 0, 0, 0⟩ else
  if c = 8 then ⟨8, ((l.getD 1 0) + 256 * (l.getD 2 0)), ((l.getD 3 0)), false, false, false, false, 0, 0, 0, 0, 0, 0, 0, 0, 0, 0, 0, 0, 0, 0⟩ else
  if c = 5 then ⟨5, ((l.getD 1 0) + 256 * (l.getD 2 0)), ((l.getD 3 0)), false, false, false, (decide ((l.getD 0 0) / 4 % 2 = 1)), (gsN (decide ((l.getD 0 0) / 2 % 2 = 1)) 0 [(l.getD 4 0), (l.getD 5 0), (l.getD 6 0), (l.getD 7 0)]), 0, 0, 0, 0, 0, 0, 0, 0, 0, 0, 0, 0, 0⟩ else
  if c = 13 then ⟨13, ((l.getD 1 0) + 256 * (l.getD 2 0)), ((l.getD 3 0)), false, false, false, (decide ((l.getD 0 0) / 4 % 2 = 1)), (gsN (decide ((l.getD 0 0) / 2 % 2 = 1)) 0 [(l.getD 4 0), (l.getD 5 0), (l.getD 6 0), (l.getD 7 0)]), 0, 0, 0, 0, 0, 0, 0, 0, 0, 0, 0, 0, 0⟩ else
  if c = 14 then ⟨14, ((l.getD 1 0) + 256 * (l.getD 2 0)), ((l.getD 3 0)), false, false, false, false, 0, 0, 0, 0, 0, 0, 0, 0, 0, ((l.getD 4 0) + 256 * (l.getD 5 0) + 65536 * (l.getD 6 0) + 16777216 * (l.getD 7 0)), 0, 0, 0, 0⟩ else
  if c = 2 then ⟨2, 0, 0, (decide ((l.getD 0 0) / 16 % 2 = 1)), (decide ((l.getD 0 0) % 2 = 1)), false, false, 0, (7 - (l.getD 0 0) / 2 % 8), (([(l.getD 1 0), (l.getD 2 0), (l.getD 3 0), (l.getD 4 0), (l.getD 5 0), (l.getD 6 0), (l.getD 7 0)].take (7 - (l.getD 0 0) / 2 % 8).toNat).getD 0 0), (([(l.getD 1 0), (l.getD 2 0), (l.getD 3 0), (l.getD 4 0), (l.getD 5 0), (l.getD 6 0), (l.getD 7 0)].take (7 - (l.getD 0 0) / 2 % 8).toNat).getD 1 0), (([(l.getD 1 0), (l.getD 2 0), (l.getD 3 0), (l.getD 4 0), (l.getD 5 0), (l.getD 6 0), (l.getD 7 0)].take (7 - (l.getD 0 0) / 2 % 8).toNat).getD 2 0), (([(l.getD 1 0), (l.getD 2 0), (l.getD 3 0), (l.getD 4 0), (l.getD 5 0), (l.getD 6 0), (l.getD 7 0)].take (7 - (l.getD 0 0) / 2 % 8).toNat).getD 3 0), (([(l.getD 1 0), (l.getD 2 0), (l.getD 3 0), (l.getD 4 0), (l.getD 5 0), (l.getD 6 0), (l.getD 7 0)].take (7 - (l.getD 0 0) / 2 % 8).toNat).getD 4 0), (([(l.getD 1 0), (l.getD 2 0), (l.getD 3 0), (l.getD 4 0), (l.getD 5 0), (l.getD 6 0), (l.getD 7 0)].take (7 - (l.getD 0 0) / 2 % 8).toNat).getD 5 0), (([(l.getD 1 0), (l.getD 2 0), (l.getD 3 0), (l.getD 4 0), (l.getD 5 0), (l.getD 6 0), (l.getD 7 0)].take (7 - (l.getD 0 0) / 2 % 8).toNat).getD 6 0), 0, 0, 0, 0, 0⟩ else
  if c = 11 then ⟨11, 0, 0, (decide ((l.getD 0 0) / 16 % 2 = 1)), (decide ((l.getD 0 0) % 2 = 1)), false, false, 0, (7 - (l.getD 0 0) / 2 % 8), (([(l.getD 1 0), (l.getD 2 0), (l.getD 3 0), (l.getD 4 0), (l.getD 5 0), (l.getD 6 0), (l.getD 7 0)].take (7 - (l.getD 0 0) / 2 % 8).toNat).getD 0 0), (([(l.getD 1 0), (l.getD 2 0), (l.getD 3 0), (l.getD 4 0), (l.getD 5 0), (l.getD 6 0), (l.getD 7 0)].take (7 - (l.getD 0 0) / 2 % 8).toNat).getD 1 0), (([(l.getD 1 0), (l.getD 2 0), (l.getD 3 0), (l.getD 4 0), (l.getD 5 0), (l.getD 6 0), (l.getD 7 0)].take (7 - (l.getD 0 0) / 2 % 8).toNat).getD 2 0), (([(l.getD 1 0), (l.getD 2 0), (l.getD 3 0), (l.getD 4 0), (l.getD 5 0), (l.getD 6 0), (l.getD 7 0)].take (7 - (l.getD 0 0) / 2 % 8).toNat).getD 3 0), (([(l.getD 1 0), (l.getD 2 0), (l.getD 3 0), (l.getD 4 0), (l.getD 5 0), (l.getD 6 0), (l.getD 7 0)].take (7 - (l.getD 0 0) / 2 % 8).toNat).getD 4 0), (([(l.getD 1 0), (l.getD 2 0), (l.getD 3 0), (l.getD 4 0), (l.getD 5 0), (l.getD 6 0), (l.getD 7 0)].take (7 - (l.getD 0 0) / 2 % 8).toNat).getD 5 0), (([(l.getD 1 0), (l.getD 2 0), (l.getD 3 0), (l.getD 4 0), (l.getD 5 0), (l.getD 6 0), (l.getD 7 0)].take (7 - (l.getD 0 0) / 2 % 8).toNat).getD 6 0), 0, 0, 0, 0, 0⟩ else
  if c = 6 then ⟨6, ((l.getD 1 0) + 256 * (l.getD 2 0)), ((l.getD 3 0)), false, false, false, (decide ((l.getD 0 0) / 4 % 2 = 1)), 0, 0, 0, 0, 0, 0, 0, 0, 0, 0, 0, ((l.getD 4 0)), 0, 0⟩ else
  if c = 12 then ⟨12, ((l.getD 1 0) + 256 * (l.getD 2 0)), ((l.getD 3 0)), false, false, false, (decide ((l.getD 0 0) / 4 % 2 = 1)), 0, 0, 0, 0, 0, 0, 0, 0, 0, 0, 0, ((l.getD 4 0)), 0, 0⟩ else
  ⟨0, 0, 0, false, false, false, false, 0, 0, 0, 0, 0, 0, 0, 0, 0, 0, 0, 0, 0, 0⟩
theorem mget_any (c : Int) (l : List Int) (hc : 0 ≤ c ∧ c ≤ 17) (hl : Byte8 l) (w : World) : Calls Try.prog 17 #[.agg (lnA l), .int .i64 c] w fun e w' => e = .returned (.agg (mAr (getM c l))) ∧ Below w.heap.size w w' := by
  have hr : (∀ x ∈ [l.getD 1 0, l.getD 2 0, l.getD 3 0, l.getD 4 0, l.getD 5 0, l.getD 6 0, l.getD 7 0], 0 ≤ x ∧ x ≤ 255) ∧ 0 ≤ l.getD 0 0 ∧ l.getD 0 0 ≤ 255 := by
    refine ⟨fun x hx => ?_, hl 0⟩
    simp only [List.mem_cons, List.not_mem_nil, or_false] at hx
    rcases hx with rfl | rfl | rfl | rfl | rfl | rfl | rfl
    all_goals exact hl _
  have : c = 0 ∨ c = 1 ∨ c = 2 ∨ c = 3 ∨ c = 4 ∨ c = 5 ∨ c = 6 ∨ c = 7 ∨ c = 8 ∨ c = 9 ∨ c = 10 ∨ c = 11 ∨ c = 12 ∨ c = 13 ∨ c = 14 ∨ c = 15 ∨ c = 16 ∨ c = 17 := by omega
  rcases this with rfl | rfl | rfl | rfl | rfl | rfl | rfl | rfl | rfl | rfl | rfl | rfl | rfl | rfl | rfl | rfl | rfl | rfl
  · exact get_0 (l.getD 0 0) (l.getD 1 0) (l.getD 2 0) (l.getD 3 0) (l.getD 4 0) (l.getD 5 0) (l.getD 6 0) (l.getD 7 0) hr w
  · by_cases hf : l.getD 0 0 / 2 % 2 = 1
    · have e : getM 1 l = ⟨1, ((l.getD 1 0) + 256 * (l.getD 2 0)), ((l.getD 3 0)), false, false, (true), false, 0, (4 - (l.getD 0 0) / 4 % 4), (([(l.getD 4 0), (l.getD 5 0), (l.getD 6 0), (l.getD 7 0)].take (4 - (l.getD 0 0) / 4 % 4).toNat).getD 0 0), (([(l.getD 4 0), (l.getD 5 0), (l.getD 6 0), (l.getD 7 0)].take (4 - (l.getD 0 0) / 4 % 4).toNat).getD 1 0), (([(l.getD 4 0), (l.getD 5 0), (l.getD 6 0), (l.getD 7 0)].take (4 - (l.getD 0 0) / 4 % 4).toNat).getD 2 0), (([(l.getD 4 0), (l.getD 5 0), (l.getD 6 0), (l.getD 7 0)].take (4 - (l.getD 0 0) / 4 % 4).toNat).getD 3 0), (([(l.getD 4 0), (l.getD 5 0), (l.getD 6 0), (l.getD 7 0)].take (4 - (l.getD 0 0) / 4 % 4).toNat).getD 4 0), (([(l.getD 4 0), (l.getD 5 0), (l.getD 6 0), (l.getD 7 0)].take (4 - (l.getD 0 0) / 4 % 4).toNat).getD 5 0), (([(l.getD 4 0), (l.getD 5 0), (l.getD 6 0), (l.getD 7 0)].take (4 - (l.getD 0 0) / 4 % 4).toNat).getD 6 0), 0, 0, 0, 0, 0⟩ := by unfold getM; rw [if_pos rfl, if_pos hf]
      rw [e]
      exact get_1_yes (l.getD 0 0) (l.getD 1 0) (l.getD 2 0) (l.getD 3 0) (l.getD 4 0) (l.getD 5 0) (l.getD 6 0) (l.getD 7 0) hr hf w
    · have e : getM 1 l = ⟨1, ((l.getD 1 0) + 256 * (l.getD 2 0)), ((l.getD 3 0)), false, false, (false), false, (gsN (decide ((l.getD 0 0) % 2 = 1)) 0 [(l.getD 4 0), (l.getD 5 0), (l.getD 6 0), (l.getD 7 0)]), 0, 0, 0, 0, 0, 0, 0, 0, 0, 0, 0, 0, 0⟩ := by unfold getM; rw [if_pos rfl, if_neg hf]
      rw [e]
      exact get_1_no (l.getD 0 0) (l.getD 1 0) (l.getD 2 0) (l.getD 3 0) (l.getD 4 0) (l.getD 5 0) (l.getD 6 0) (l.getD 7 0) hr hf w
  · exact get_2 (l.getD 0 0) (l.getD 1 0) (l.getD 2 0) (l.getD 3 0) (l.getD 4 0) (l.getD 5 0) (l.getD 6 0) (l.getD 7 0) hr w
  · exact get_3 (l.getD 0 0) (l.getD 1 0) (l.getD 2 0) (l.getD 3 0) (l.getD 4 0) (l.getD 5 0) (l.getD 6 0) (l.getD 7 0) hr w
  · exact get_4 (l.getD 0 0) (l.getD 1 0) (l.getD 2 0) (l.getD 3 0) (l.getD 4 0) (l.getD 5 0) (l.getD 6 0) (l.getD 7 0) hr w
  · exact get_5 (l.getD 0 0) (l.getD 1 0) (l.getD 2 0) (l.getD 3 0) (l.getD 4 0) (l.getD 5 0) (l.getD 6 0) (l.getD 7 0) hr w
  · exact get_6 (l.getD 0 0) (l.getD 1 0) (l.getD 2 0) (l.getD 3 0) (l.getD 4 0) (l.getD 5 0) (l.getD 6 0) (l.getD 7 0) hr w
  · exact get_7 (l.getD 0 0) (l.getD 1 0) (l.getD 2 0) (l.getD 3 0) (l.getD 4 0) (l.getD 5 0) (l.getD 6 0) (l.getD 7 0) hr w
  · exact get_8 (l.getD 0 0) (l.getD 1 0) (l.getD 2 0) (l.getD 3 0) (l.getD 4 0) (l.getD 5 0) (l.getD 6 0) (l.getD 7 0) hr w
  · exact get_9 (l.getD 0 0) (l.getD 1 0) (l.getD 2 0) (l.getD 3 0) (l.getD 4 0) (l.getD 5 0) (l.getD 6 0) (l.getD 7 0) hr w
  · by_cases hf : l.getD 0 0 / 2 % 2 = 1
    · have e : getM 10 l = ⟨10, ((l.getD 1 0) + 256 * (l.getD 2 0)), ((l.getD 3 0)), false, false, (true), false, 0, (4 - (l.getD 0 0) / 4 % 4), (([(l.getD 4 0), (l.getD 5 0), (l.getD 6 0), (l.getD 7 0)].take (4 - (l.getD 0 0) / 4 % 4).toNat).getD 0 0), (([(l.getD 4 0), (l.getD 5 0), (l.getD 6 0), (l.getD 7 0)].take (4 - (l.getD 0 0) / 4 % 4).toNat).getD 1 0), (([(l.getD 4 0), (l.getD 5 0), (l.getD 6 0), (l.getD 7 0)].take (4 - (l.getD 0 0) / 4 % 4).toNat).getD 2 0), (([(l.getD 4 0), (l.getD 5 0), (l.getD 6 0), (l.getD 7 0)].take (4 - (l.getD 0 0) / 4 % 4).toNat).getD 3 0), (([(l.getD 4 0), (l.getD 5 0), (l.getD 6 0), (l.getD 7 0)].take (4 - (l.getD 0 0) / 4 % 4).toNat).getD 4 0), (([(l.getD 4 0), (l.getD 5 0), (l.getD 6 0), (l.getD 7 0)].take (4 - (l.getD 0 0) / 4 % 4).toNat).getD 5 0), (([(l.getD 4 0), (l.getD 5 0), (l.getD 6 0), (l.getD 7 0)].take (4 - (l.getD 0 0) / 4 % 4).toNat).getD 6 0), 0, 0, 0, 0, 0⟩ := by unfold getM; rw [if_neg (by decide), if_pos rfl, if_pos hf]
      rw [e]
      exact get_10_yes (l.getD 0 0) (l.getD 1 0) (l.getD 2 0) (l.getD 3 0) (l.getD 4 0) (l.getD 5 0) (l.getD 6 0) (l.getD 7 0) hr hf w
    · have e : getM 10 l = ⟨10, ((l.getD 1 0) + 256 * (l.getD 2 0)), ((l.getD 3 0)), false, false, (false), false, (gsN (decide ((l.getD 0 0) % 2 = 1)) 0 [(l.getD 4 0), (l.getD 5 0), (l.getD 6 0), (l.getD 7 0)]), 0, 0, 0, 0, 0, 0, 0, 0, 0, 0, 0, 0, 0⟩ := by unfold getM; rw [if_neg (by decide), if_pos rfl, if_neg hf]
      rw [e]
      exact get_10_no (l.getD 0 0) (l.getD 1 0) (l.getD 2 0) (l.getD 3 0) (l.getD 4 0) (l.getD 5 0) (l.getD 6 0) (l.getD 7 0) hr hf w
  · exact get_11 (l.getD 0 0) (l.getD 1 0) (l.getD 2 0) (l.getD 3 0) (l.getD 4 0) (l.getD 5 0) (l.getD 6 0) (l.getD 7 0) hr w
  · exact get_12 (l.getD 0 0) (l.getD 1 0) (l.getD 2 0) (l.getD 3 0) (l.getD 4 0) (l.getD 5 0) (l.getD 6 0) (l.getD 7 0) hr w
  · exact get_13 (l.getD 0 0) (l.getD 1 0) (l.getD 2 0) (l.getD 3 0) (l.getD 4 0) (l.getD 5 0) (l.getD 6 0) (l.getD 7 0) hr w
  · exact get_14 (l.getD 0 0) (l.getD 1 0) (l.getD 2 0) (l.getD 3 0) (l.getD 4 0) (l.getD 5 0) (l.getD 6 0) (l.getD 7 0) hr w
  · exact get_15 (l.getD 0 0) (l.getD 1 0) (l.getD 2 0) (l.getD 3 0) (l.getD 4 0) (l.getD 5 0) (l.getD 6 0) (l.getD 7 0) hr w
  · exact get_16 (l.getD 0 0) (l.getD 1 0) (l.getD 2 0) (l.getD 3 0) (l.getD 4 0) (l.getD 5 0) (l.getD 6 0) (l.getD 7 0) hr w
  · exact get_17 (l.getD 0 0) (l.getD 1 0) (l.getD 2 0) (l.getD 3 0) (l.getD 4 0) (l.getD 5 0) (l.getD 6 0) (l.getD 7 0) hr w
end Go.Proofs.Ytfccjekhdfpkoaa
