/- What Text answers. -/
import Derived.Test.YtabakfhknkhdkaaFrameM
namespace Go.Proofs.Ytabakfhknkhdkaa
open Go.RowKit

theorem str_app (l m : List Int) : strOfNums (l ++ m) = strOfNums l ++ strOfNums m := by
  have h := ByteArray.mk_append_mk (l.map fun n => UInt8.ofNat n.toNat) (m.map fun n => UInt8.ofNat n.toNat)
  unfold strOfNums
  rw [List.map_append]
  exact h.symm
def headL (id : Int) : List Int := hexL 3 id ++ [35]
def tailL (l : List Int) : List Int := (l.map (hexL 2)).flatten
theorem tailL_snoc (l : List Int) (x : Int) : tailL (l ++ [x]) = tailL l ++ hexL 2 x := by simp [tailL]
theorem tailL_len (l : List Int) : (tailL l).length = 2 * l.length := by
  induction l with
  | nil => rfl
  | cons x l ih =>
    have e : tailL (x :: l) = hexL 2 x ++ tailL l := by simp [tailL]
    rw [e, List.length_append, hexL_len, ih, List.length_cons]; omega
/-- The text of a frame that may be. -/
def txL (id : Int) (r : Bool) (n : Int) (d : Nat → Int) : List Int := headL id ++ (if r = true then 82 :: hexL 1 n else tailL (bL n.toNat d))
theorem text_no (id n : Int) (r : Bool) (d : Nat → Int) (w : World) (hc : ¬ chk id r n d = 0) :
    Calls Try.prog 20 #[.agg #[.int .i64 id, .bool r, .int .i64 n, .int .u8 (d 0), .int .u8 (d 1), .int .u8 (d 2), .int .u8 (d 3), .int .u8 (d 4), .int .u8 (d 5), .int .u8 (d 6), .int .u8 (d 7)]] w fun e w' => e = .returned (.tuple #[.string ⟨#[]⟩, .int .i64 (chk id r n d)]) ∧ Below w.heap.size w w' := by
  have hf := frame_new w id n r d
  have hb : Below w.heap.size w (w.alloc (.cells #[.int .i64 id, .bool r, .int .i64 (n), .int .u8 (d 0), .int .u8 (d 1), .int .u8 (d 2), .int .u8 (d 3), .int .u8 (d 4), .int .u8 (d 5), .int .u8 (d 6), .int .u8 (d 7)] 24)) := (Below.refl _ _).alloc (Nat.le_refl _) _
  have hs : w.heap.size < (w.alloc (.cells #[.int .i64 id, .bool r, .int .i64 (n), .int .u8 (d 0), .int .u8 (d 1), .int .u8 (d 2), .int .u8 (d 3), .int .u8 (d 4), .int .u8 (d 5), .int .u8 (d 6), .int .u8 (d 7)] 24)).heap.size := by simp
  have HB := Lib.hid hb
  have HF := Lib.hid hf
  have HS := Lib.hid hs
  have hca := fun w => check_any id n r d w
  generalize chk id r n d = q at hca hc
  have HCA := Lib.hid hca
  clear hb hf hs hca
  go_enter Try.func20, Try.ntmps20
  go_wp2_with (go_at_call 10; refine (HCA.out _).mono ?_; rintro e w1 ⟨rfl, hb1⟩; have hf1 := FrAt.below HF.out hb1 HS.out; have hbw1 := HB.out.trans (hb1.mono HB.out.size); have HF1 := Lib.hid hf1; obtain ⟨c0, c1, c2, c3, c4, c5, c6, c7, c8, c9, c10⟩ := hf1.cells; clear c3 c4 c5 c6 c7 c8 c9 c10; clear hf1 hb1)
  all_goals exact bodyPost_ret (results_tmp2 rfl _ _ _) rfl ⟨rfl, hbw1⟩
theorem text_rtr (id n : Int) (d : Nat → Int) (w : World) (hc : chk id true n d = 0) :
    Calls Try.prog 20 #[.agg #[.int .i64 id, .bool true, .int .i64 n, .int .u8 (d 0), .int .u8 (d 1), .int .u8 (d 2), .int .u8 (d 3), .int .u8 (d 4), .int .u8 (d 5), .int .u8 (d 6), .int .u8 (d 7)]] w fun e w' => e = .returned (.tuple #[.string (strOfNums (txL id true n d)), .int .i64 0]) ∧ Below w.heap.size w w' := by
  have hf := frame_new w id n true d
  have hb : Below w.heap.size w (w.alloc (.cells #[.int .i64 id, .bool true, .int .i64 (n), .int .u8 (d 0), .int .u8 (d 1), .int .u8 (d 2), .int .u8 (d 3), .int .u8 (d 4), .int .u8 (d 5), .int .u8 (d 6), .int .u8 (d 7)] 24)) := (Below.refl _ _).alloc (Nat.le_refl _) _
  have hs : w.heap.size < (w.alloc (.cells #[.int .i64 id, .bool true, .int .i64 (n), .int .u8 (d 0), .int .u8 (d 1), .int .u8 (d 2), .int .u8 (d 3), .int .u8 (d 4), .int .u8 (d 5), .int .u8 (d 6), .int .u8 (d 7)] 24)).heap.size := by simp
  have HB := Lib.hid hb
  have HF := Lib.hid hf
  have HS := Lib.hid hs
  have hid := chk_id hc
  have hln := chk_len hc
  have hca := fun w => check_any id n true d w
  simp only [hc] at hca
  have hh3 : ∀ w : World, Calls Try.prog 27 #[.int .i64 id, .int .i64 3] w fun e w' => e = .returned (.string (strOfNums (hexL 3 id))) ∧ Below w.heap.size w w' := fun w => hex_any 3 id w (by omega) (by omega) (by omega)
  have hh1 : ∀ w : World, Calls Try.prog 27 #[.int .i64 n, .int .i64 1] w fun e w' => e = .returned (.string (strOfNums (hexL 1 n))) ∧ Below w.heap.size w w' := fun w => hex_any 1 n w (by omega) (by omega) (by omega)
  have et : strOfNums (txL id true n d) = strOfNums (hexL 3 id) ++ ⟨#[35]⟩ ++ ⟨#[82]⟩ ++ strOfNums (hexL 1 n) := by
    unfold txL headL
    rw [if_pos rfl, show (82 : Int) :: hexL 1 n = [82] ++ hexL 1 n from rfl, ← List.append_assoc, str_app, str_app, str_app]
    rfl
  rw [et]
  have z3 : (strOfNums (hexL 3 id)).size = 3 := by rw [strOfNums_size, hexL_len]
  have z1 : (strOfNums (hexL 1 n)).size = 1 := by rw [strOfNums_size, hexL_len]
  generalize strOfNums (hexL 3 id) = S3 at hh3 z3
  generalize strOfNums (hexL 1 n) = S1 at hh1 z1
  have HCA := Lib.hid hca
  have HH3 := Lib.hid hh3
  have HH1 := Lib.hid hh1
  clear hb hf hs hca hh3 hh1 et hc
  go_enter Try.func20, Try.ntmps20
  go_wp2_with (first | (go_at_call 10; refine (HCA.out _).mono ?_; rintro e w1 ⟨rfl, hb1⟩; have hf1 := FrAt.below HF.out hb1 HS.out; have hbw1 := HB.out.trans (hb1.mono HB.out.size); have HF1 := Lib.hid hf1; obtain ⟨c0, c1, c2, c3, c4, c5, c6, c7, c8, c9, c10⟩ := hf1.cells; clear c3 c4 c5 c6 c7 c8 c9 c10; clear hf1 hb1) | (go_at_call 27; (with_reducible refine (HH3.out w1).mono ?_); rintro e w2 ⟨rfl, hb2⟩; have hf2 := FrAt.below HF1.out hb2 HF1.out.lt; have hbw2 := hbw1.trans (hb2.mono hbw1.size); have HF2 := Lib.hid hf2; clear c0 c1 c2; obtain ⟨c0, c1, c2, c3, c4, c5, c6, c7, c8, c9, c10⟩ := hf2.cells; clear c3 c4 c5 c6 c7 c8 c9 c10; clear hf2 hb2) | (go_at_call 27; (with_reducible refine (HH1.out w2).mono ?_); rintro e w3 ⟨rfl, hb3⟩; have hbw3 := hbw2.trans (hb3.mono hbw2.size); clear hb3))
  all_goals first | (exfalso; omega) | exact bodyPost_ret (results_tmp2 rfl _ _ _) rfl ⟨rfl, hbw3⟩
theorem text_dat (id : Int) (k : Nat) (d : Nat → Int) (w : World) (hc : chk id false k d = 0) (hd : ∀ j, j < 8 → 0 ≤ d j ∧ d j ≤ 255) :
    Calls Try.prog 20 #[.agg #[.int .i64 id, .bool false, .int .i64 (k : Int), .int .u8 (d 0), .int .u8 (d 1), .int .u8 (d 2), .int .u8 (d 3), .int .u8 (d 4), .int .u8 (d 5), .int .u8 (d 6), .int .u8 (d 7)]] w fun e w' => e = .returned (.tuple #[.string (strOfNums (txL id false k d)), .int .i64 0]) ∧ Below w.heap.size w w' := by
  have hf := frame_new w id k false d
  have hb : Below w.heap.size w (w.alloc (.cells #[.int .i64 id, .bool false, .int .i64 (k : Int), .int .u8 (d 0), .int .u8 (d 1), .int .u8 (d 2), .int .u8 (d 3), .int .u8 (d 4), .int .u8 (d 5), .int .u8 (d 6), .int .u8 (d 7)] 24)) := (Below.refl _ _).alloc (Nat.le_refl _) _
  have hs : w.heap.size < (w.alloc (.cells #[.int .i64 id, .bool false, .int .i64 (k : Int), .int .u8 (d 0), .int .u8 (d 1), .int .u8 (d 2), .int .u8 (d 3), .int .u8 (d 4), .int .u8 (d 5), .int .u8 (d 6), .int .u8 (d 7)] 24)).heap.size := by simp
  have HB := Lib.hid hb
  have HF := Lib.hid hf
  have HS := Lib.hid hs
  have hid := chk_id hc
  have hln := chk_len hc
  have hk8 : k ≤ 8 := by omega
  have hca := fun w => check_any id k false d w
  simp only [hc] at hca
  have hh3 : ∀ w : World, Calls Try.prog 27 #[.int .i64 id, .int .i64 3] w fun e w' => e = .returned (.string (strOfNums (hexL 3 id))) ∧ Below w.heap.size w w' := fun w => hex_any 3 id w (by omega) (by omega) (by omega)
  have hby := fun w => bytes_ok id k d w hc hd
  have et : strOfNums (txL id false k d) = strOfNums (hexL 3 id) ++ ⟨#[35]⟩ ++ strOfNums (tailL (bL k d)) := by
    unfold txL headL
    rw [if_neg (by simp), Int.toNat_natCast, str_app, str_app]
    rfl
  rw [et]
  have z3 : (strOfNums (hexL 3 id)).size = 3 := by rw [strOfNums_size, hexL_len]
  generalize strOfNums (hexL 3 id) = S3 at hh3 z3
  have HCA := Lib.hid hca
  have HH3 := Lib.hid hh3
  have HBY := Lib.hid hby
  clear hb hf hs hca hh3 hby et hc
  go_enter Try.func20, Try.ntmps20
  go_wp2_with (first | (go_at_call 10; refine (HCA.out _).mono ?_; rintro e w1 ⟨rfl, hb1⟩; have hf1 := FrAt.below HF.out hb1 HS.out; have hbw1 := HB.out.trans (hb1.mono HB.out.size); have HF1 := Lib.hid hf1; obtain ⟨c0, c1, c2, c3, c4, c5, c6, c7, c8, c9, c10⟩ := hf1.cells; clear c3 c4 c5 c6 c7 c8 c9 c10; clear hf1 hb1) | (go_at_call 27; (with_reducible refine (HH3.out w1).mono ?_); rintro e w2 ⟨rfl, hb2⟩; have hf2 := FrAt.below HF1.out hb2 HF1.out.lt; have hbw2 := hbw1.trans (hb2.mono hbw1.size); have HF2 := Lib.hid hf2; clear c0 c1 c2; obtain ⟨c0, c1, c2, c3, c4, c5, c6, c7, c8, c9, c10⟩ := hf2.cells; clear c3 c4 c5 c6 c7 c8 c9 c10; clear hf2 hb2) | (refine wpList_load_row rfl _ (.tmp 1) rfl w.heap.size rfl _ _ _ _ HF2.out Try.underlying24 rfl info_frame ?_) | (go_at_call 12; (with_reducible refine (HBY.out w2).mono ?_); rintro e w3 ⟨g3, rfl, hB3, hb3⟩; have hbw3 := hbw2.trans (hb3.mono hbw2.size); have HB3 := Lib.hid hB3; clear hb3 hB3))
  clear c0 c1 c2
  go_loopw [29, 8, 6] (fun i u v wr => ∃ j : Nat, j ≤ k ∧ i = .int .i64 j ∧ v = .string (strOfNums (tailL (bL j d))) ∧ Hid (Byt wr wr.heap.size (some ⟨g3, 0, none⟩) k k (bL k d)) ∧ Below w.heap.size w wr) (fun i _ _ _ => k - (intOf i).toNat)
  case atStart => exact ⟨0, Nat.zero_le _, rfl, rfl, HB3, hbw3⟩
  case round =>
    obtain ⟨j, hj, rfl, rfl, HBr, hbel⟩ := hrel
    by_cases hlt : j < k
    · obtain ⟨b, off, hbo, hb, hcl⟩ := HBr.out.cells (by omega)
      cases hbo
      have hcj := hcl j hlt
      rw [bL_get k d j hlt, Nat.zero_add] at hcj
      have hdj := hd j (by omega)
      have hh2 : ∀ w : World, Calls Try.prog 27 #[.int .i64 (d j), .int .i64 2] w fun e w' => e = .returned (.string (strOfNums (hexL 2 (d j)))) ∧ Below w.heap.size w w' := fun w => hex_any 2 (d j) w (by omega) (by omega) (by omega)
      have et : strOfNums (tailL (bL (j + 1) d)) = strOfNums (tailL (bL j d)) ++ strOfNums (hexL 2 (d j)) := by rw [bL_succ, tailL_snoc, str_app]
      have zt : (strOfNums (tailL (bL j d))).size ≤ 16 := by rw [strOfNums_size, tailL_len, bL_len]; omega
      have z2 : (strOfNums (hexL 2 (d j))).size = 2 := by rw [strOfNums_size, hexL_len]
      generalize strOfNums (hexL 2 (d j)) = S2 at hh2 et z2
      generalize strOfNums (tailL (bL j d)) = ST at et zt
      have HH2 := Lib.hid hh2
      have HET := Lib.hid et
      have HD := Lib.hid hd
      obtain ⟨hd0, hd1⟩ := hdj
      clear hcl hh2 et hb hd
      go_wp2_with (go_at_call 27; refine (HH2.out _).mono ?_; rintro e w4 ⟨rfl, hb4⟩; have hbw4 := hbel.trans (hb4.mono hbel.size); have hB4 := HBr.out.step hb4)
      go_roundw
      case rel => exact ⟨j + 1, by omega, by go_num, by rw [HET.out], Lib.hid hB4, hbw4⟩
      case measure => simp [intOf]; omega
    · obtain rfl : j = k := by omega
      have zt : (strOfNums (tailL (bL j d))).size ≤ 16 := by rw [strOfNums_size, tailL_len, bL_len]; omega
      go_wp2_with fail
      all_goals first | (exfalso; omega) | exact bodyPost_ret (results_tmp2 rfl _ _ _) rfl ⟨rfl, hbel⟩
end Go.Proofs.Ytabakfhknkhdkaa
