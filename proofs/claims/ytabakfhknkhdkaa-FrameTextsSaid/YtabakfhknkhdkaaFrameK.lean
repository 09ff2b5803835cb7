/- What the document's Bytes answers. -/
import Derived.Test.YtabakfhknkhdkaaFrameJ
namespace Go.Proofs.Ytabakfhknkhdkaa
open Go.RowKit

theorem own_below {w w' : World} {base e s n : Nat} {v : Value} {xs : List Value} (h : w.ownsRow base e s v n xs) (hb : Below w.heap.size w w') : w'.ownsRow base e s v n xs :=
  ⟨h.1, by
    rcases h.2 with h0 | ⟨g, cap, cur, e1, h1, hg, h2⟩
    · exact .inl h0
    · exact .inr ⟨g, cap, cur, e1, h1, (hb.block g (Array.getElem?_eq_some_iff.1 hg).1).trans hg, h2⟩⟩
theorem dbytes_any (id n : Int) (r : Bool) (d : Nat → Int) (w : World) (hd : ∀ j, j < 8 → 0 ≤ d j ∧ d j ≤ 255) :
    Calls Try.prog 13 #[.agg #[.int .i64 id, .bool r, .int .i64 n, .int .u8 (d 0), .int .u8 (d 1), .int .u8 (d 2), .int .u8 (d 3), .int .u8 (d 4), .int .u8 (d 5), .int .u8 (d 6), .int .u8 (d 7)]] w fun e w' => ∃ A c, e = .returned (.slice A (bOf id r n d).length c) ∧ Byt w' w'.heap.size A (bOf id r n d).length c (bOf id r n d) ∧ Below w.heap.size w w' := by
  have hf : FrAt ((w.alloc (.cells #[.int .i64 id, .bool r, .int .i64 n, .int .u8 (d 0), .int .u8 (d 1), .int .u8 (d 2), .int .u8 (d 3), .int .u8 (d 4), .int .u8 (d 5), .int .u8 (d 6), .int .u8 (d 7)] 24)).alloc (.cells #[] 5)) w.heap.size id r n d := heap_alloc2_old w _ _
  have hb : Below w.heap.size w ((w.alloc (.cells #[.int .i64 id, .bool r, .int .i64 n, .int .u8 (d 0), .int .u8 (d 1), .int .u8 (d 2), .int .u8 (d 3), .int .u8 (d 4), .int .u8 (d 5), .int .u8 (d 6), .int .u8 (d 7)] 24)).alloc (.cells #[] 5)) := ((Below.refl _ _).alloc (Nat.le_refl _) _).alloc (by simp) _
  have hs : w.heap.size + 1 < ((w.alloc (.cells #[.int .i64 id, .bool r, .int .i64 n, .int .u8 (d 0), .int .u8 (d 1), .int .u8 (d 2), .int .u8 (d 3), .int .u8 (d 4), .int .u8 (d 5), .int .u8 (d 6), .int .u8 (d 7)] 24)).alloc (.cells #[] 5)).heap.size := by simp
  have ho : ((w.alloc (.cells #[.int .i64 id, .bool r, .int .i64 n, .int .u8 (d 0), .int .u8 (d 1), .int .u8 (d 2), .int .u8 (d 3), .int .u8 (d 4), .int .u8 (d 5), .int .u8 (d 6), .int .u8 (d 7)] 24)).alloc (.cells #[] 5)).ownsRow (w.heap.size + 1) 5 1 (.slice (some ⟨w.heap.size + 1, 0, none⟩) 0 0) 0 (([] : List Int).map (Value.int .u8)) := by
    have := World.ownsRow_lit (w.alloc (.cells #[.int .i64 id, .bool r, .int .i64 n, .int .u8 (d 0), .int .u8 (d 1), .int .u8 (d 2), .int .u8 (d 3), .int .u8 (d 4), .int .u8 (d 5), .int .u8 (d 6), .int .u8 (d 7)] 24)) #[] 0 (e := 5) (size := 1) (base := w.heap.size + 1) (by simp) (by simp [maxLen]) rfl
    simpa using this
  have hca := fun w => dcheck_any id n r d w
  have HB := Lib.hid hb
  have HF := Lib.hid hf
  have HS := Lib.hid hs
  have HO := Lib.hid ho
  clear hb hf hs ho
  by_cases hc : r = false ∧ chk id r n d = 0
  · obtain ⟨rfl, hc⟩ := hc
    obtain ⟨k, rfl⟩ : ∃ k : Nat, n = k := ⟨n.toNat, by have := chk_len hc; omega⟩
    have hk : k ≤ 8 := by have := chk_len hc; omega
    rw [bOf_some hc, bL_len]
    simp only [hc] at hca
    have HCA := Lib.hid hca
    clear hca hc
    go_enter Try.func13, Try.ntmps13
    go_wp2_with (go_at_call 11; refine (HCA.out _).mono ?_; rintro e w1 ⟨rfl, hb1⟩; have hf1 := FrAt.below HF.out hb1 (Nat.lt_of_succ_lt HS.out); have hbw := HB.out.trans (hb1.mono HB.out.size); have ho1 := own_below HO.out hb1; have HF1 := Lib.hid hf1; obtain ⟨c0, c1, c2, c3, c4, c5, c6, c7, c8, c9, c10⟩ := hf1.cells; clear c0 c2 c3 c4 c5 c6 c7 c8 c9 c10 hf1; have hs1 := Nat.lt_of_lt_of_le HS.out hb1.size; clear hb1)
    clear c1
    go_loopw [3, 4] (fun v i wr => ∃ j : Nat, j ≤ k ∧ i = .int .i64 j ∧ wr.ownsRow (w.heap.size + 1) 5 1 v j ((bL j d).map (Value.int .u8)) ∧ Hid (FrAt wr w.heap.size id false k d) ∧ Below w.heap.size w wr ∧ w.heap.size + 1 < wr.heap.size) (fun _ i _ => k - (intOf i).toNat)
    case atStart => exact ⟨0, Nat.zero_le _, rfl, ho1, HF1, hbw, hs1⟩
    case round =>
      obtain ⟨j, hj, rfl, hown, HFr, hbel, hsz⟩ := hrel
      have hcs := HFr.out.cells
      obtain ⟨c0, c1, c2, c3, c4, c5, c6, c7, c8, c9, c10⟩ := hcs
      clear c0 c1 c3 c4 c5 c6 c7 c8 c9 c10
      by_cases hlt : j < k
      · have hcj := HFr.out.byte (i := j) (by omega)
        have hsucc := bL_succ j d
        have HSU := Lib.hid hsucc
        have HD := Lib.hid hd
        clear hsucc hd
        go_wp2_with (at_builtin; refine wpList_byte rfl (.tmp 20) (.tmp 25) rfl Try.underlying25 byte_info rfl hown rfl (by omega) (by omega) ?_; intro v' w' hown' hb')
        go_roundw
        case rel => exact ⟨j + 1, by omega, by go_num, by rw [HSU.out]; exact hown', Lib.hid (HFr.out.below hb' (by omega)), hbel.trans (hb'.mono (by omega)), Nat.lt_of_lt_of_le hsz hb'.size⟩
        case measure => simp [intOf]; omega
      · obtain rfl : j = k := by omega
        obtain ⟨A', c', rfl, hB', _⟩ := Byt.of_own hown (bL_range j d hk hd)
        go_wp2_with fail
        all_goals exact bodyPost_ret (results_tmp rfl _ _ _) rfl ⟨_, _, rfl, hB', hbel⟩
  · rw [bOf_nil hc]
    have HC := Lib.hid hc
    cases r with
    | true =>
      generalize chk id true n d = q at hca
      have HCA := Lib.hid hca
      clear hca hc HC
      go_enter Try.func13, Try.ntmps13
      go_wp2_with (go_at_call 11; refine (HCA.out _).mono ?_; rintro e w1 ⟨rfl, hb1⟩; have hf1 := FrAt.below HF.out hb1 (Nat.lt_of_succ_lt HS.out); have hbw := HB.out.trans (hb1.mono HB.out.size); obtain ⟨c0, c1, c2, c3, c4, c5, c6, c7, c8, c9, c10⟩ := hf1.cells; clear c0 c2 c3 c4 c5 c6 c7 c8 c9 c10 hf1)
      all_goals exact bodyPost_ret (results_tmp rfl _ _ _) rfl ⟨_, _, rfl, ⟨rfl, Nat.le_refl _, by simp [maxLen], by simp, fun h => absurd h (by simp)⟩, hbw⟩
    | false =>
      have hq : ¬ chk id false n d = 0 := fun h => hc ⟨rfl, h⟩
      generalize chk id false n d = q at hca hq
      have HCA := Lib.hid hca
      clear hca hc HC
      go_enter Try.func13, Try.ntmps13
      go_wp2_with (go_at_call 11; refine (HCA.out _).mono ?_; rintro e w1 ⟨rfl, hb1⟩; have hf1 := FrAt.below HF.out hb1 (Nat.lt_of_succ_lt HS.out); have hbw := HB.out.trans (hb1.mono HB.out.size); obtain ⟨c0, c1, c2, c3, c4, c5, c6, c7, c8, c9, c10⟩ := hf1.cells; clear c0 c2 c3 c4 c5 c6 c7 c8 c9 c10 hf1)
      all_goals exact bodyPost_ret (results_tmp rfl _ _ _) rfl ⟨_, _, rfl, ⟨rfl, Nat.le_refl _, by simp [maxLen], by simp, fun h => absurd h (by simp)⟩, hbw⟩
end Go.Proofs.Ytabakfhknkhdkaa
