/- What place answers. -/
import Derived.Test.YtgnfohncgfgecaaMa
namespace Go.Proofs.Ytgnfohncgfgecaa
open Go.RowKit

/-- How many letters stand ahead of one of rank q that comes now. -/
def plc (q : Int) : List Ltr → Nat
  | [] => 0
  | x :: ls => if q < x.rank then 0 else plc q ls + 1
theorem plc_le (q : Int) : ∀ ls, plc q ls ≤ ls.length
  | [] => Nat.le_refl _
  | x :: ls => by unfold plc; have := plc_le q ls; split <;> simp <;> omega
theorem plc_at (q : Int) : ∀ (ls : List Ltr) (k : Nat) (x : Ltr), (∀ j y, j < k → ls[j]? = some y → y.rank ≤ q) → ls[k]? = some x → q < x.rank → plc q ls = k
  | [], k, x, _, h, _ => by simp at h
  | y :: ls, 0, x, _, h, hq => by
    simp only [List.getElem?_cons_zero, Option.some.injEq] at h
    subst h
    unfold plc; rw [if_pos hq]
  | y :: ls, k + 1, x, h1, h, hq => by
    unfold plc
    rw [if_neg (by have := h1 0 y (by omega) rfl; omega), plc_at q ls k x (fun j z hj hz => h1 (j + 1) z (by omega) (by simpa using hz)) (by simpa using h) hq]
theorem plc_all (q : Int) : ∀ (ls : List Ltr), (∀ j y, j < ls.length → ls[j]? = some y → y.rank ≤ q) → plc q ls = ls.length
  | [], _ => rfl
  | y :: ls, h1 => by
    unfold plc
    rw [if_neg (by have := h1 0 y (by simp) rfl; omega), plc_all q ls (fun j z hj hz => h1 (j + 1) z (by simpa using hj) (by simpa using hz))]
    simp

set_option maxRecDepth 100000 in
set_option maxHeartbeats 1000000 in
theorem place1_any (x : Ltr) (fb : Nat) (id n : Int) (r : Bool) (d : Nat → Int) (w : World) (hf : FrAt w fb id r n d) :
    Calls Try.prog 41 #[.agg #[.int .i64 x.id, .bool x.r, .int .i64 x.n, .int .u8 (x.d 0), .int .u8 (x.d 1), .int .u8 (x.d 2), .int .u8 (x.d 3), .int .u8 (x.d 4), .int .u8 (x.d 5), .int .u8 (x.d 6), .int .u8 (x.d 7), .bool x.s], .pointer (some ⟨fb, 0, none⟩)] w fun e w' => e = .returned (.bool (decide (rk id r n d < x.rank))) ∧ Below w.heap.size w w' := by
  have hfb := hf.lt
  have hb : Below w.heap.size w (w.alloc (.cells #[.int .i64 x.id, .bool x.r, .int .i64 x.n, .int .u8 (x.d 0), .int .u8 (x.d 1), .int .u8 (x.d 2), .int .u8 (x.d 3), .int .u8 (x.d 4), .int .u8 (x.d 5), .int .u8 (x.d 6), .int .u8 (x.d 7), .bool x.s] 66)) := (Below.refl _ _).alloc (Nat.le_refl _) _
  have hf2 := hf.below hb hfb
  have hx : (w.alloc (.cells #[.int .i64 x.id, .bool x.r, .int .i64 x.n, .int .u8 (x.d 0), .int .u8 (x.d 1), .int .u8 (x.d 2), .int .u8 (x.d 3), .int .u8 (x.d 4), .int .u8 (x.d 5), .int .u8 (x.d 6), .int .u8 (x.d 7), .bool x.s] 66)).heap[w.heap.size]? = some (.cells #[.int .i64 x.id, .bool x.r, .int .i64 x.n, .int .u8 (x.d 0), .int .u8 (x.d 1), .int .u8 (x.d 2), .int .u8 (x.d 3), .int .u8 (x.d 4), .int .u8 (x.d 5), .int .u8 (x.d 6), .int .u8 (x.d 7), .bool x.s] 66 (0, 0)) := heap_alloc_new w _
  obtain ⟨d0, d1, d2, d3, d4, d5, d6, d7, d8, d9, d10⟩ := hf2.cells
  have c0 : (w.alloc (.cells #[.int .i64 x.id, .bool x.r, .int .i64 x.n, .int .u8 (x.d 0), .int .u8 (x.d 1), .int .u8 (x.d 2), .int .u8 (x.d 3), .int .u8 (x.d 4), .int .u8 (x.d 5), .int .u8 (x.d 6), .int .u8 (x.d 7), .bool x.s] 66)).cell? ⟨w.heap.size, 0, none⟩ = some (.int .i64 x.id) := by rw [cell_of_row _ _ _ _ _ _ hx]; rfl
  have c1 : (w.alloc (.cells #[.int .i64 x.id, .bool x.r, .int .i64 x.n, .int .u8 (x.d 0), .int .u8 (x.d 1), .int .u8 (x.d 2), .int .u8 (x.d 3), .int .u8 (x.d 4), .int .u8 (x.d 5), .int .u8 (x.d 6), .int .u8 (x.d 7), .bool x.s] 66)).cell? ⟨w.heap.size, 1, none⟩ = some (.bool x.r) := by rw [cell_of_row _ _ _ _ _ _ hx]; rfl
  have c2 : (w.alloc (.cells #[.int .i64 x.id, .bool x.r, .int .i64 x.n, .int .u8 (x.d 0), .int .u8 (x.d 1), .int .u8 (x.d 2), .int .u8 (x.d 3), .int .u8 (x.d 4), .int .u8 (x.d 5), .int .u8 (x.d 6), .int .u8 (x.d 7), .bool x.s] 66)).cell? ⟨w.heap.size, 2, none⟩ = some (.int .i64 x.n) := by rw [cell_of_row _ _ _ _ _ _ hx]; rfl
  have c3 : (w.alloc (.cells #[.int .i64 x.id, .bool x.r, .int .i64 x.n, .int .u8 (x.d 0), .int .u8 (x.d 1), .int .u8 (x.d 2), .int .u8 (x.d 3), .int .u8 (x.d 4), .int .u8 (x.d 5), .int .u8 (x.d 6), .int .u8 (x.d 7), .bool x.s] 66)).cell? ⟨w.heap.size, 3, none⟩ = some (.int .u8 (x.d 0)) := by rw [cell_of_row _ _ _ _ _ _ hx]; rfl
  have c4 : (w.alloc (.cells #[.int .i64 x.id, .bool x.r, .int .i64 x.n, .int .u8 (x.d 0), .int .u8 (x.d 1), .int .u8 (x.d 2), .int .u8 (x.d 3), .int .u8 (x.d 4), .int .u8 (x.d 5), .int .u8 (x.d 6), .int .u8 (x.d 7), .bool x.s] 66)).cell? ⟨w.heap.size, 4, none⟩ = some (.int .u8 (x.d 1)) := by rw [cell_of_row _ _ _ _ _ _ hx]; rfl
  have c5 : (w.alloc (.cells #[.int .i64 x.id, .bool x.r, .int .i64 x.n, .int .u8 (x.d 0), .int .u8 (x.d 1), .int .u8 (x.d 2), .int .u8 (x.d 3), .int .u8 (x.d 4), .int .u8 (x.d 5), .int .u8 (x.d 6), .int .u8 (x.d 7), .bool x.s] 66)).cell? ⟨w.heap.size, 5, none⟩ = some (.int .u8 (x.d 2)) := by rw [cell_of_row _ _ _ _ _ _ hx]; rfl
  have c6 : (w.alloc (.cells #[.int .i64 x.id, .bool x.r, .int .i64 x.n, .int .u8 (x.d 0), .int .u8 (x.d 1), .int .u8 (x.d 2), .int .u8 (x.d 3), .int .u8 (x.d 4), .int .u8 (x.d 5), .int .u8 (x.d 6), .int .u8 (x.d 7), .bool x.s] 66)).cell? ⟨w.heap.size, 6, none⟩ = some (.int .u8 (x.d 3)) := by rw [cell_of_row _ _ _ _ _ _ hx]; rfl
  have c7 : (w.alloc (.cells #[.int .i64 x.id, .bool x.r, .int .i64 x.n, .int .u8 (x.d 0), .int .u8 (x.d 1), .int .u8 (x.d 2), .int .u8 (x.d 3), .int .u8 (x.d 4), .int .u8 (x.d 5), .int .u8 (x.d 6), .int .u8 (x.d 7), .bool x.s] 66)).cell? ⟨w.heap.size, 7, none⟩ = some (.int .u8 (x.d 4)) := by rw [cell_of_row _ _ _ _ _ _ hx]; rfl
  have c8 : (w.alloc (.cells #[.int .i64 x.id, .bool x.r, .int .i64 x.n, .int .u8 (x.d 0), .int .u8 (x.d 1), .int .u8 (x.d 2), .int .u8 (x.d 3), .int .u8 (x.d 4), .int .u8 (x.d 5), .int .u8 (x.d 6), .int .u8 (x.d 7), .bool x.s] 66)).cell? ⟨w.heap.size, 8, none⟩ = some (.int .u8 (x.d 5)) := by rw [cell_of_row _ _ _ _ _ _ hx]; rfl
  have c9 : (w.alloc (.cells #[.int .i64 x.id, .bool x.r, .int .i64 x.n, .int .u8 (x.d 0), .int .u8 (x.d 1), .int .u8 (x.d 2), .int .u8 (x.d 3), .int .u8 (x.d 4), .int .u8 (x.d 5), .int .u8 (x.d 6), .int .u8 (x.d 7), .bool x.s] 66)).cell? ⟨w.heap.size, 9, none⟩ = some (.int .u8 (x.d 6)) := by rw [cell_of_row _ _ _ _ _ _ hx]; rfl
  have c10 : (w.alloc (.cells #[.int .i64 x.id, .bool x.r, .int .i64 x.n, .int .u8 (x.d 0), .int .u8 (x.d 1), .int .u8 (x.d 2), .int .u8 (x.d 3), .int .u8 (x.d 4), .int .u8 (x.d 5), .int .u8 (x.d 6), .int .u8 (x.d 7), .bool x.s] 66)).cell? ⟨w.heap.size, 10, none⟩ = some (.int .u8 (x.d 7)) := by rw [cell_of_row _ _ _ _ _ _ hx]; rfl
  have hless := fun w => less_any id n x.id x.n r x.r d x.d w
  have HB := Lib.hid hb
  have HL := Lib.hid hless
  clear hf2 hx hb hf hless
  unfold Ltr.rank
  go_enter Try.func41, Try.ntmps41
  go_wp2_with fail
  generalize w.alloc (.cells #[.int .i64 x.id, .bool x.r, .int .i64 x.n, .int .u8 (x.d 0), .int .u8 (x.d 1), .int .u8 (x.d 2), .int .u8 (x.d 3), .int .u8 (x.d 4), .int .u8 (x.d 5), .int .u8 (x.d 6), .int .u8 (x.d 7), .bool x.s] 66) = w0 at *
  refine (HL.out _).mono ?_
  rintro e w1 ⟨rfl, hb1⟩
  have hbb := HB.out.trans (hb1.mono HB.out.size)
  clear c0 d0 c1 d1 c2 d2 c3 d3 c4 d4 c5 d5 c6 d6 c7 d7 c8 d8 c9 d9 c10 d10
  go_wp2_with fail
  go_ret
  exact ⟨rfl, hbb⟩
/-- What IndexFunc answers. -/
def idx (q : Int) (ls : List Ltr) : Int := if plc q ls < ls.length then (plc q ls : Nat) else -1
set_option maxRecDepth 100000 in
set_option maxHeartbeats 2000000 in
theorem index_any (w : World) (base n : Nat) (v : Value) (ls : List Ltr) (fb : Nat) (id k : Int) (r : Bool) (d : Nat → Int) (hf : FrAt w fb id r k d) (hown : w.ownsRow base 66 12 v n (flat ls)) (hn : n ≤ 100000) :
    Calls Try.prog 40 #[v, .func (Fn.func 41) #[] #[.pointer (some ⟨fb, 0, none⟩)]] w fun e w' => e = .returned (.int .i64 (idx (rk id r k d) ls)) ∧ Below w.heap.size w w' := by
  have hl := hown.1
  rw [flat_len] at hl
  have hln : ls.length = n := by omega
  rcases Nat.eq_zero_or_pos n with h0 | h0
  · subst h0
    obtain rfl := List.eq_nil_of_length_eq_zero hln
    have e : idx (rk id r k d) [] = -1 := rfl
    rw [e]
    rcases hown.2 with ⟨rfl, _⟩ | ⟨g, cap, cur, rfl, _⟩
    all_goals
      clear hown hf hl hln e
      go_enter Try.func40, Try.ntmps40
      go_wp2_with fail
      go_loopw [8] (fun i wr => i = .int .i64 0 ∧ wr = w) (fun _ _ => 0)
      case atStart => exact ⟨rfl, rfl⟩
      case round =>
        obtain ⟨rfl, rfl⟩ := hrel
        go_wp2_with fail
        go_ret
        exact ⟨rfl, Below.refl _ _⟩
  · obtain ⟨g, cap, cur, rfl, hbg, _, hnc, hm, _⟩ := own_some hown h0
    simp only [maxLen] at hm
    have hid := fun (j : Nat) x (h1 : ∀ i y, i < j → ls[i]? = some y → y.rank ≤ rk id r k d) (hx : ls[j]? = some x) (hq : rk id r k d < x.rank) => show idx (rk id r k d) ls = (j : Nat) by
      unfold idx; rw [plc_at _ ls j x h1 hx hq, if_pos (List.getElem?_eq_some_iff.1 hx).1]
    have hia := fun (h1 : ∀ i y, i < ls.length → ls[i]? = some y → y.rank ≤ rk id r k d) => show idx (rk id r k d) ls = -1 by
      unfold idx; rw [plc_all _ ls h1, if_neg (Nat.lt_irrefl _)]
    generalize hR : idx (rk id r k d) ls = R at *
    have HID := Lib.hid hid
    have HIA := Lib.hid hia
    have HO := Lib.hid hown
    have HF := Lib.hid hf
    have HLN := Lib.hid hln
    clear hid hia hown hf hl hln hR
    go_enter Try.func40, Try.ntmps40
    go_wp2_with fail
    go_loopw [8] (fun i wr => ∃ j : Nat, j ≤ n ∧ i = .int .i64 j ∧ Hid (∀ i y, i < j → ls[i]? = some y → y.rank ≤ rk id r k d) ∧ Hid (Below w.heap.size w wr)) (fun i _ => n - (intOf i).toNat)
    case atStart => exact ⟨0, Nat.zero_le _, rfl, Lib.hid (fun i y h => absurd h (Nat.not_lt_zero _)), Lib.hid (Below.refl _ _)⟩
    case round =>
      obtain ⟨j, hj, rfl, hno, hb⟩ := hrel
      by_cases hlt : j < n
      · obtain ⟨x, hx⟩ : ∃ x, ls[j]? = some x := ⟨_, List.getElem?_eq_getElem (by rw [HLN.out]; exact hlt)⟩
        have hown2 := HO.out.kept (grown_below none hb.out) (.inr (by simp [Value.ownBlock]))
        have HF2 := Lib.hid (HF.out.below hb.out HF.out.lt)
        obtain ⟨c0, c1, c2, c3, c4, c5, c6, c7, c8, c9, c10, c11⟩ := ltr_cells hown2 hx
        have hcall := place1_any x fb id k r d
        have hno2 : x.rank ≤ rk id r k d → ∀ i y, i < j + 1 → ls[i]? = some y → y.rank ≤ rk id r k d := fun hq i y hi hy => by
          by_cases e : i = j
          · subst e; rw [hx] at hy; cases hy; exact hq
          · exact hno.out i y (by omega) hy
        have hyes := fun hq => HID.out j x hno.out hx hq
        generalize hq : decide (rk id r k d < x.rank) = q at hcall
        have HC := Lib.hid hcall
        have HN2 := Lib.hid hno2
        have HY := Lib.hid hyes
        have HQ := Lib.hid hq
        have hjI : (j : Int) < (n : Int) := by omega
        clear hx hown2 hcall hno2 hyes hq
        cases q with
        | true =>
          have HE := Lib.hid (HY.out (of_decide_eq_true HQ.out))
          clear HY HQ HN2 HIA
          go_wp2_with fail
          refine (HC.out _ HF2.out).mono ?_
          rintro e w2 ⟨rfl, hb2⟩
          have HBB := Lib.hid (hb.out.trans (hb2.mono hb.out.size))
          clear hb2 c0 c1 c2 c3 c4 c5 c6 c7 c8 c9 c10 c11
          go_wp2_with fail
          go_ret
          exact ⟨ret_int HE.out.symm, HBB.out⟩
        | false =>
          have HN3 := Lib.hid (HN2.out (by have := of_decide_eq_false HQ.out; omega))
          clear HY HQ HN2 HIA
          go_wp2_with fail
          refine (HC.out _ HF2.out).mono ?_
          rintro e w2 ⟨rfl, hb2⟩
          have HBB := Lib.hid (hb.out.trans (hb2.mono hb.out.size))
          clear hb2 c0 c1 c2 c3 c4 c5 c6 c7 c8 c9 c10 c11
          go_wp2_with fail
          exact ⟨⟨j + 1, by omega, by go_num, HN3, HBB⟩, by simp [intOf]; omega⟩
      · obtain rfl : j = n := by omega
        have HE := Lib.hid (HIA.out (by rw [HLN.out]; exact hno.out))
        go_wp2_with fail
        go_ret
        exact ⟨ret_int HE.out.symm, hb.out⟩
end Go.Proofs.Ytgnfohncgfgecaa
