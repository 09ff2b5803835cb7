/- Both Texts and both Parses, of anything. -/
import Derived.Test.YtabakfhknkhdkaaFrameAB
namespace Go.Proofs.Ytabakfhknkhdkaa
open Go.RowKit

theorem text_any (id n : Int) (r : Bool) (d : Nat → Int) (w : World) (hv : Val id r n d) :
    Calls Try.prog 20 #[.agg #[.int .i64 id, .bool r, .int .i64 n, .int .u8 (d 0), .int .u8 (d 1), .int .u8 (d 2), .int .u8 (d 3), .int .u8 (d 4), .int .u8 (d 5), .int .u8 (d 6), .int .u8 (d 7)]] w fun e w' => e = .returned (.tuple #[.string (strOfNums (txL id r n d)), .int .i64 0]) ∧ Below w.heap.size w w' := by
  cases r with
  | true => exact text_rtr id n d w hv.1
  | false =>
    obtain ⟨k, rfl⟩ : ∃ k : Nat, n = k := ⟨n.toNat, by have := chk_len hv.1; omega⟩
    exact text_dat id k d w hv.1 hv.2
theorem dtext_any (id n : Int) (r : Bool) (d : Nat → Int) (w : World) (hv : Val id r n d) :
    Calls Try.prog 22 #[.agg #[.int .i64 id, .bool r, .int .i64 n, .int .u8 (d 0), .int .u8 (d 1), .int .u8 (d 2), .int .u8 (d 3), .int .u8 (d 4), .int .u8 (d 5), .int .u8 (d 6), .int .u8 (d 7)]] w fun e w' => e = .returned (.string (strOfNums (txL id r n d))) ∧ Below w.heap.size w w' := by
  cases r with
  | true => exact dtext_rtr id n d w hv
  | false =>
    obtain ⟨k, rfl⟩ : ∃ k : Nat, n = k := ⟨n.toNat, by have := chk_len hv.1; omega⟩
    exact dtext_dat id k d w hv
/-- What one Parse answers to a frame's text. -/
theorem post_yes {id n : Int} {r : Bool} {d : Nat → Int} {l : List Int} {w w' : World} {e : Ending} (hv : Val id r n d) (hl : l = txL id r n d) (h : ParsePost l w e w') : e = .returned (.tuple #[.agg #[.int .i64 id, .bool r, .int .i64 n, .int .u8 (d 0), .int .u8 (d 1), .int .u8 (d 2), .int .u8 (d 3), .int .u8 (d 4), .int .u8 (d 5), .int .u8 (d 6), .int .u8 (d 7)], .int .i64 0]) ∧ Below w.heap.size w w' := by
  rcases h with ⟨id', r', n', d', hv', hl', he, hb⟩ | ⟨hno, _⟩
  · obtain ⟨rfl, rfl, rfl, hd⟩ := tx_inj hv hv' (hl.symm.trans hl')
    exact ⟨by rw [he, ← agg_congr hd], hb⟩
  · exact absurd hl (hno id r n d hv)
theorem post_no {l : List Int} {w w' : World} {e : Ending} (hno : ∀ (id : Int) (r : Bool) (n : Int) (d : Nat → Int), Val id r n d → l ≠ txL id r n d) (h : ParsePost l w e w') : e = .returned (.tuple #[.agg #[.int .i64 0, .bool false, .int .i64 0, .int .u8 0, .int .u8 0, .int .u8 0, .int .u8 0, .int .u8 0, .int .u8 0, .int .u8 0, .int .u8 0], .int .i64 4]) ∧ Below w.heap.size w w' := by
  rcases h with ⟨id', r', n', d', hv', hl', _⟩ | ⟨_, he, hb⟩
  · exact absurd hl' (hno id' r' n' d' hv')
  · exact ⟨he, hb⟩
theorem text_size {id n : Int} {r : Bool} {d : Nat → Int} (hv : Val id r n d) : (strOfNums (txL id r n d)).size ≤ 140737488351232 := by
  rw [strOfNums_size, tx_len hv]
  have := chk_len hv.1
  split <;> omega
theorem back_any (id n : Int) (r : Bool) (d : Nat → Int) (w : World) (hv : Val id r n d) :
    Calls Try.prog 21 #[.string (strOfNums (txL id r n d))] w fun e w' => e = .returned (.tuple #[.agg #[.int .i64 id, .bool r, .int .i64 n, .int .u8 (d 0), .int .u8 (d 1), .int .u8 (d 2), .int .u8 (d 3), .int .u8 (d 4), .int .u8 (d 5), .int .u8 (d 6), .int .u8 (d 7)], .int .i64 0]) ∧ Below w.heap.size w w' :=
  (parse_any _ w (text_size hv)).mono fun _ _ h => post_yes hv (sB_str (tx_range id r n d)) h
end Go.Proofs.Ytabakfhknkhdkaa
