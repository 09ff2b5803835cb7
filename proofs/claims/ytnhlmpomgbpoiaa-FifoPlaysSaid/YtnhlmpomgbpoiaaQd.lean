/- What package fifo must do whatever is asked (the laws' own 'live'): it does. -/
import Derived.Test.YtnhlmpomgbpoiaaQc
namespace Go.Proofs.Ytnhlmpomgbpoiaa
open Go.RowKit

/-- A row that was made just now. -/
theorem Src.lit (w : World) (t : TypeId) (l : List Value) (h1 : ∀ u ∈ l, u.oneCell' = true) (k : Nat) (hk : k ≤ l.length) : Src (w.alloc (.cells l.toArray t)) (some ⟨w.heap.size, 0, none⟩) k (l.take k) :=
  ⟨by simp; omega, fun u hu => h1 u (List.mem_of_mem_take hu), fun _ => ⟨_, rfl, fun j u hu => by
    rw [add_plain', cell_of_row _ _ _ _ t (0, 0) (heap_alloc_new w _)]
    have hj : j < k := by
      rcases Nat.lt_or_ge j k with h2 | h2
      · exact h2
      · rw [List.getElem?_eq_none (by simp; omega)] at hu; cases hu
    rw [List.getElem?_take, if_pos hj] at hu
    simpa using hu⟩⟩

set_option maxHeartbeats 1000000 in
theorem live7_any (w : World) : Calls Try.prog 19 #[] w fun e w' => e = .returned (.bool true) ∧ Below w.heap.size w w' := by
  go_enter Try.func19, Try.ntmps19
  go_wp2_with fail
  refine (new_any 2 w (by omega)).mono ?_
  rintro e w1 ⟨rfl, hq1, hw1⟩
  have hb1 : Below w.heap.size w w1 := by rw [hw1]; exact (Below.refl _ _).alloc (Nat.le_refl _) _
  have hs1 : w.heap.size + 1 ≤ w1.heap.size := by rw [hw1]; simp
  rw [show clampL 2 = 2 by decide] at hq1
  clear hw1
  go_wp2_with fail
  have hb2 := hb1.alloc hb1.size (.cells #[.int .i64 1, .int .i64 2, .int .i64 3] 3)
  have hq2 : Que (w1.alloc (.cells #[.int .i64 1, .int .i64 2, .int .i64 3] 3)) (w.heap.size + 1) w.heap.size 2 [] 0 none 0 0 := hq1.below ((Below.refl _ _).alloc (Nat.le_refl _) _)
  refine (put_any _ _ _ _ _ 3 3 _ _ _ _ _ _ hq2 (by simp; omega) (fun k hk => Src.lit w1 3 [.int .i64 1, .int .i64 2, .int .i64 3] (by simp [Value.oneCell']) k hk) (Nat.le_refl _) (by simp [maxLen]) (by omega)).mono ?_
  rintro e w2 ⟨k, A2, c2, rfl, hk, hq3, ht3, ha3⟩
  obtain rfl : k = 2 := by omega
  have hb3 : Below w.heap.size w w2 := hb2.trans (ht3.below (by simp; omega) (Nat.le_refl _) (fun b e => by simp [blk] at e))
  have hB3 : ∀ b, blk A2 = some b → w.heap.size ≤ b := fun b e => by have := (hq3.row.lt e).1; omega
  have hx3 : [] ++ List.take 2 [Value.int .i64 1, .int .i64 2, .int .i64 3] = [.int .i64 1, .int .i64 2] := rfl
  rw [hx3, Nat.zero_add] at hq3
  clear hq1 hq2 ht3 ha3 hk hx3 hb2
  go_wp2_with fail
  refine (take_some _ _ _ _ _ _ _ _ _ _ hq3).mono ?_
  rintro e w3 ⟨rfl, A4, c4, hq4, ht4, ha4⟩
  have hb4 : Below w.heap.size w w3 := hb3.trans (ht4.below hb3.size (Nat.le_refl _) hB3)
  have hB4 : ∀ b, blk A4 = some b → w.heap.size ≤ b := fun b e => hB3 b (ha4 ▸ e)
  have hbs4 : w.heap.size + 1 ≤ w3.heap.size := by have := hq4.lt; omega
  clear hq3 ht4 ha4 hB3
  go_wp2_with fail
  refine (lost_any _ _ _ _ _ _ _ _ _ hq4).mono ?_
  rintro e w4 ⟨rfl, rfl⟩
  go_wp2_with fail
  have hq5 : Que (w3.alloc (.cells #[.int .i64 4] 3)) (w.heap.size + 1) w.heap.size 2 [.int .i64 2] (0 + (((3 : Nat) : Int) - ((2 : Nat) : Int))) A4 1 c4 := hq4.below ((Below.refl _ _).alloc (Nat.le_refl _) _)
  have hb5 := hb4.alloc hb4.size (.cells #[.int .i64 4] 3)
  refine (put_any _ _ _ _ _ 1 1 _ _ _ _ _ _ hq5 (by simp; omega) (fun k hk => Src.lit w3 3 [.int .i64 4] (by simp [Value.oneCell']) k hk) (Nat.le_refl _) (by simp [maxLen]) (by omega)).mono ?_
  rintro e w6 ⟨k, A6, c6, rfl, hk, hq6, ht6, ha6⟩
  obtain rfl : k = 1 := by omega
  have hb6 : Below w.heap.size w w6 := hb5.trans (ht6.below (by simp; omega) (Nat.le_refl _) hB4)
  clear hq4 hq5 ht6 ha6 hk
  go_wp2_with fail
  refine (len_any _ _ _ _ _ _ _ _ _ hq6).mono ?_
  rintro e w7 ⟨rfl, rfl⟩
  go_wp2_with fail
  refine (room_any _ _ _ _ _ _ _ _ _ hq6).mono ?_
  rintro e w7 ⟨rfl, q, rfl⟩
  go_wp2_with fail
  go_ret
  exact ⟨rfl, below_drewN hb6 q⟩
end Go.Proofs.Ytnhlmpomgbpoiaa
