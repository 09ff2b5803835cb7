/- What parseTail answers. -/
import Derived.Test.YtabakfhknkhdkaaFrameV
namespace Go.Proofs.Ytabakfhknkhdkaa
open Go.RowKit

/-- What stands behind the # in a frame's text. -/
def bodyL (r : Bool) (n : Int) (d : Nat → Int) : List Int := if r = true then 82 :: hexL 1 n else tailL (bL n.toNat d)
theorem tx_body (id : Int) (r : Bool) (n : Int) (d : Nat → Int) : txL id r n d = headL id ++ bodyL r n d := rfl
/-- A frame that may be. -/
def Val (id : Int) (r : Bool) (n : Int) (d : Nat → Int) : Prop := chk id r n d = 0 ∧ ∀ j, j < 8 → 0 ≤ d j ∧ d j ≤ 255
theorem getD_mem {l : List Int} {j : Nat} (h : j < l.length) : l.getD j 0 ∈ l := by
  rw [List.getD_eq_getElem?_getD, List.getElem?_eq_getElem h]; simp
theorem tailL_inj {m m' : List Int} (hm : ∀ x ∈ m, 0 ≤ x ∧ x ≤ 255) (hm' : ∀ x ∈ m', 0 ≤ x ∧ x ≤ 255) (h : tailL m = tailL m') : m = m' := by
  have hl := congrArg List.length h
  rw [tailL_len, tailL_len] at hl
  refine List.ext_getElem (by omega) fun j h1 h2 => ?_
  have p1 := tail_pair m j h1
  have p2 := tail_pair m' j h2
  rw [h, p2] at p1
  have r1 := hm _ (getD_mem h1)
  have r2 := hm' _ (getD_mem h2)
  have n1 := num_hex2 r1.1 (by omega)
  have n2 := num_hex2 r2.1 (by omega)
  rw [← p1, n2] at n1
  have e := Option.some.inj n1
  rw [List.getD_eq_getElem?_getD, List.getElem?_eq_getElem h2, List.getD_eq_getElem?_getD, List.getElem?_eq_getElem h1] at e
  exact e.symm
theorem tail_no_R (m : List Int) (hm : ∀ x ∈ m, 0 ≤ x ∧ x ≤ 255) (l : List Int) : tailL m ≠ 82 :: l := by
  intro e
  cases m with
  | nil => simp [tailL] at e
  | cons x m =>
    have hx := hm x (by simp)
    rw [tailL_cons, hex2] at e
    have e2 := congrArg (fun l => l.getD 0 0) e
    simp at e2
    have := sg_range (x := x / 16 % 16) (by omega) (by omega)
    omega
theorem hasp_iff (s : ByteArray) : hasP s 82 = true ↔ sB s = 82 :: (sB s).drop 1 := by
  have hl := sB_len s
  unfold hasP
  by_cases h1 : 1 ≤ s.size
  · rw [if_pos h1]
    have e1 : sB (s.extract 0 1) = (sB s).take 1 := by rw [sB_ext, List.drop_zero]
    have e2 : sB s = (sB s).take 1 ++ (sB s).drop 1 := (List.take_append_drop 1 _).symm
    rw [beq_iff_eq, ByteArray.toList_eq]
    constructor
    · intro h
      have : sB (s.extract 0 1) = [82] := by unfold sB; rw [h]; rfl
      rw [e1] at this
      rw [this] at e2
      exact e2
    · intro h
      have h3 : sB (s.extract 0 1) = [82] := by rw [e1, h]; rfl
      unfold sB at h3
      generalize (s.extract 0 1).data.toList = q at h3
      rcases q with _ | ⟨x, _ | ⟨y, q⟩⟩
      · simp at h3
      · have h4 : (x.toNat : Int) = 82 := by simpa using h3
        have : x = 82 := by
          apply UInt8.toNat_inj.1
          have : x.toNat = 82 := by omega
          rw [this]; rfl
        rw [this]
      · simp at h3
  · rw [if_neg h1]
    constructor
    · intro h; cases h
    · intro h
      have := congrArg List.length h
      rw [List.length_cons] at this
      omega
theorem chk_congr {id n : Int} {r : Bool} {d d' : Nat → Int} (h : ∀ j, j < 8 → d j = d' j) : chk id r n d = chk id r n d' := by
  unfold chk eqD cut
  rw [h 0 (by omega), h 1 (by omega), h 2 (by omega), h 3 (by omega), h 4 (by omega), h 5 (by omega), h 6 (by omega), h 7 (by omega)]
theorem chk_rtr {id n : Int} {d : Nat → Int} (h : chk id true n d = 0) : chk id true n (fun _ => 0) = 0 := by
  obtain ⟨h1, h2⟩ := chk_id h
  obtain ⟨h3, h4⟩ := chk_len h
  unfold chk
  rw [if_neg (by omega), if_neg (by omega), if_pos]
  refine (eqD_iff _ _).2 fun j _ => ?_
  unfold cut
  split <;> rfl
theorem bL_dOf (m : List Int) : bL m.length (dOf m) = m := by
  refine List.ext_getElem (by rw [bL_len]) fun j h1 h2 => ?_
  have := bL_get m.length (dOf m) j h2
  rw [List.getD_eq_getElem?_getD, List.getElem?_eq_getElem h1] at this
  unfold dOf at this
  rw [List.getD_eq_getElem?_getD, List.getElem?_eq_getElem h2] at this
  exact this
theorem dOf_range {m : List Int} (hm : ∀ x ∈ m, 0 ≤ x ∧ x ≤ 255) (j : Nat) : 0 ≤ dOf m j ∧ dOf m j ≤ 255 := by
  unfold dOf
  rcases Nat.lt_or_ge j m.length with h | h
  · exact hm _ (getD_mem h)
  · rw [List.getD_eq_getElem?_getD, List.getElem?_eq_none h]; simp
/-- A frame with bytes, told by them. -/
theorem val_bytes {id n : Int} {d : Nat → Int} {m : List Int} (h : Val id false n d) (e : bL n.toNat d = m) : n = m.length ∧ ∀ j, j < 8 → d j = dOf m j := by
  obtain ⟨h3, h4⟩ := chk_len h.1
  have hl := congrArg List.length e
  rw [bL_len] at hl
  refine ⟨by omega, fun j hj => ?_⟩
  have hc := chk_cut h.1 j hj
  unfold cut kOf at hc
  simp only [Bool.false_eq_true, if_false] at hc
  subst e
  by_cases hjn : j < n.toNat
  · unfold dOf; rw [bL_get _ _ _ hjn]
  · rw [if_neg (by omega)] at hc
    unfold dOf
    rw [hc, List.getD_eq_getElem?_getD, List.getElem?_eq_none (by rw [bL_len]; omega)]; rfl
def TailPost (id : Int) (l : List Int) (w : World) (e : Ending) (w' : World) : Prop :=
  (∃ (r : Bool) (n : Int) (d : Nat → Int), Val id r n d ∧ l = bodyL r n d ∧ e = .returned (.tuple #[.agg #[.int .i64 id, .bool r, .int .i64 n, .int .u8 (d 0), .int .u8 (d 1), .int .u8 (d 2), .int .u8 (d 3), .int .u8 (d 4), .int .u8 (d 5), .int .u8 (d 6), .int .u8 (d 7)], .int .i64 0]) ∧ Below w.heap.size w w') ∨
  ((∀ (r : Bool) (n : Int) (d : Nat → Int), Val id r n d → l ≠ bodyL r n d) ∧ ∃ k : Int, k ≠ 0 ∧ e = .returned (.tuple #[.agg #[.int .i64 0, .bool false, .int .i64 0, .int .u8 0, .int .u8 0, .int .u8 0, .int .u8 0, .int .u8 0, .int .u8 0, .int .u8 0, .int .u8 0], .int .i64 k]) ∧ Below w.heap.size w w')
theorem ptail_any (id : Int) (s : ByteArray) (w : World) (hs : s.size ≤ 140737488351232) :
    Calls Try.prog 30 #[.int .i64 id, .string s] w (TailPost id (sB s) w) := by
  have hcp := fun w => cutp_any s 82 w (by omega)
  have hln := sB_len s
  by_cases hp : hasP s 82 = true
  · have hR := (hasp_iff s).1 hp
    have hsx : sB (s.extract 1 s.size) = (sB s).drop 1 := by rw [sB_ext, List.take_of_length_le (by omega)]
    simp only [hp, if_true] at hcp
    have hsz : (s.extract 1 s.size).size ≤ 9223372036854775807 := by simp; omega
    have hrg := sB_range (s.extract 1 s.size)
    have hnu := fun w => number_any (s.extract 1 s.size) 1 w (by omega) hsz
    rcases hq : numO (sB (s.extract 1 s.size)) 1 with _ | n
    · have hno : ∀ (r : Bool) (n : Int) (d : Nat → Int), Val id r n d → sB s ≠ bodyL r n d := fun r n d hv e => by
        have hl8 := chk_len hv.1
        cases r with
        | true =>
          have e2 : sB s = 82 :: hexL 1 n := e
          rw [hR] at e2
          have e3 := List.tail_eq_of_cons_eq e2
          rw [hsx, e3, num_hex1 hl8.1 (by omega)] at hq
          cases hq
        | false =>
          have e2 : sB s = tailL (bL n.toNat d) := e
          rw [hR] at e2
          exact tail_no_R _ (bL_range _ _ (by omega) hv.2) _ e2.symm
      simp only [hq] at hnu
      generalize s.extract 1 s.size = t at hcp hnu
      have HCP := Lib.hid hcp
      have HNU := Lib.hid hnu
      have HNO := Lib.hid hno
      clear hcp hnu hq hrg hsx hR hp hno hsz hln
      have hz : FrAt (w.alloc (.cells #[.int .i64 0, .bool false, .int .i64 0, .int .u8 0, .int .u8 0, .int .u8 0, .int .u8 0, .int .u8 0, .int .u8 0, .int .u8 0, .int .u8 0] 24)) w.heap.size 0 false 0 (fun _ => 0) := heap_alloc_new w _
      have hb : Below w.heap.size w (w.alloc (.cells #[.int .i64 0, .bool false, .int .i64 0, .int .u8 0, .int .u8 0, .int .u8 0, .int .u8 0, .int .u8 0, .int .u8 0, .int .u8 0, .int .u8 0] 24)) := (Below.refl _ _).alloc (Nat.le_refl _) _
      have hs1 : w.heap.size < (w.alloc (.cells #[.int .i64 0, .bool false, .int .i64 0, .int .u8 0, .int .u8 0, .int .u8 0, .int .u8 0, .int .u8 0, .int .u8 0, .int .u8 0, .int .u8 0] 24)).heap.size := by simp
      have HB := Lib.hid hb
      have HZ := Lib.hid hz
      have HS := Lib.hid hs1
      clear hb hz hs1
      go_enter Try.func30, Try.ntmps30
      go_wp2_with (first
        | (go_at_call 35; refine (HCP.out _).mono ?_; rintro e w1 ⟨rfl, rfl⟩)
        | (go_at_call 29; refine (HNU.out _).mono ?_; rintro e w2 ⟨rfl, rfl⟩)
        | (refine wpList_store_row rfl _ (.tmp 4) (.tmp 25) rfl w.heap.size _ rfl rfl _ _ HZ.out info_frame rfl (one_frame 0 0 false (fun _ => 0)) ?_; have hf4 := HZ.out.row 0 0 false (fun _ => 0); have hbw4 := below_setRow HB.out (Nat.le_refl w.heap.size) #[.int .i64 0, .bool false, .int .i64 0, .int .u8 0, .int .u8 0, .int .u8 0, .int .u8 0, .int .u8 0, .int .u8 0, .int .u8 0, .int .u8 0]))
      all_goals exact bodyPost_ret (results_cell_tmp_row rfl _ _ w.heap.size _ _ _ _ rfl hf4 Try.underlying24 rfl info_frame) rfl (.inr ⟨HNO.out, 4, by omega, rfl, hbw4⟩)
    · obtain ⟨he, hn0, hn1⟩ := hex_num1 hrg hq
      rw [hsx] at he
      by_cases hc : chk id true n (fun _ => 0) = 0
      · refine (ptail_ask id n s w (by omega) hp hq hc).mono fun e w' ⟨h1, h2⟩ => .inl ⟨true, n, fun _ => 0, ⟨hc, fun _ _ => by simp⟩, ?_, h1, h2⟩
        rw [hR, he]; rfl
      · have hno : ∀ (r : Bool) (n : Int) (d : Nat → Int), Val id r n d → sB s ≠ bodyL r n d := fun r n' d hv e => by
          have hl8 := chk_len hv.1
          cases r with
          | true =>
            have e2 : sB s = 82 :: hexL 1 n' := e
            rw [hR] at e2
            have e3 := List.tail_eq_of_cons_eq e2
            rw [hsx, e3, num_hex1 hl8.1 (by omega)] at hq
            cases hq
            exact hc (chk_rtr hv.1)
          | false =>
            have e2 : sB s = tailL (bL n'.toNat d) := e
            rw [hR] at e2
            exact tail_no_R _ (bL_range _ _ (by omega) hv.2) _ e2.symm
        have hak := fun w => ask_no id n w hc
        simp only [hq, nOf, Option.getD_some, Option.isSome_some] at hnu
        generalize s.extract 1 s.size = t at hcp hnu
        generalize chk id true n (fun _ => 0) = q at hak hc
        have HCP := Lib.hid hcp
        have HNU := Lib.hid hnu
        have HNO := Lib.hid hno
        have HAK := Lib.hid hak
        clear hcp hnu hq hrg hsx hR hp hno hak hsz hln he hn0 hn1
        have hz : FrAt (w.alloc (.cells #[.int .i64 0, .bool false, .int .i64 0, .int .u8 0, .int .u8 0, .int .u8 0, .int .u8 0, .int .u8 0, .int .u8 0, .int .u8 0, .int .u8 0] 24)) w.heap.size 0 false 0 (fun _ => 0) := heap_alloc_new w _
        have hb : Below w.heap.size w (w.alloc (.cells #[.int .i64 0, .bool false, .int .i64 0, .int .u8 0, .int .u8 0, .int .u8 0, .int .u8 0, .int .u8 0, .int .u8 0, .int .u8 0, .int .u8 0] 24)) := (Below.refl _ _).alloc (Nat.le_refl _) _
        have hs1 : w.heap.size < (w.alloc (.cells #[.int .i64 0, .bool false, .int .i64 0, .int .u8 0, .int .u8 0, .int .u8 0, .int .u8 0, .int .u8 0, .int .u8 0, .int .u8 0, .int .u8 0] 24)).heap.size := by simp
        have HB := Lib.hid hb
        have HZ := Lib.hid hz
        have HS := Lib.hid hs1
        clear hb hz hs1
        go_enter Try.func30, Try.ntmps30
        go_wp2_with (first
          | (go_at_call 35; refine (HCP.out _).mono ?_; rintro e w1 ⟨rfl, rfl⟩)
          | (go_at_call 29; refine (HNU.out _).mono ?_; rintro e w2 ⟨rfl, rfl⟩)
          | (go_at_call 14; refine (HAK.out _).mono ?_; rintro e w3 ⟨rfl, hb3⟩; have hz3 := FrAt.below HZ.out hb3 HS.out; have hbw := HB.out.trans (hb3.mono HB.out.size); clear hb3)
          | (refine wpList_store_row rfl _ (.tmp 4) (.tmp 29) rfl w.heap.size _ rfl rfl _ _ hz3 info_frame rfl (one_frame 0 0 false (fun _ => 0)) ?_; have hf4 := hz3.row 0 0 false (fun _ => 0); have hbw4 := below_setRow hbw (Nat.le_refl w.heap.size) #[.int .i64 0, .bool false, .int .i64 0, .int .u8 0, .int .u8 0, .int .u8 0, .int .u8 0, .int .u8 0, .int .u8 0, .int .u8 0, .int .u8 0]))
        all_goals exact bodyPost_ret (results_cell_tmp_row rfl _ _ w.heap.size _ _ _ _ rfl hf4 Try.underlying24 rfl info_frame) rfl (.inr ⟨HNO.out, q, hc, rfl, hbw4⟩)
  · have hpf : hasP s 82 = false := by simpa using hp
    simp only [hpf, Bool.false_eq_true, if_false] at hcp
    have hnR : ∀ l, sB s ≠ 82 :: l := fun l e => hp ((hasp_iff s).2 (by rw [e]; rfl))
    have hpb := fun w => pbytes_any s w hs
    by_cases hex : ∃ m : List Int, (∀ x ∈ m, 0 ≤ x ∧ x ≤ 255) ∧ sB s = tailL m
    · obtain ⟨m, hm, he⟩ := hex
      have hpb1 : ∀ w : World, Calls Try.prog 36 #[.string s] w fun e w' => ∃ A c, e = .returned (.tuple #[.slice A m.length c, .bool true]) ∧ Byt w' w'.heap.size A m.length c m ∧ Below w.heap.size w w' := fun w => (hpb w).mono fun e w' h => by
        rcases h with ⟨m', A, c, he', hm', h1, h2, h3⟩ | ⟨hno, _⟩
        · have : m' = m := tailL_inj hm' hm (he'.symm.trans he)
          subst this
          exact ⟨A, c, h1, h2, h3⟩
        · exact absurd he (hno m hm)
      have HPB := Lib.hid hpb1
      have HCP := Lib.hid hcp
      by_cases hc : chk id false (m.length : Int) (dOf m) = 0
      · have hnw := fun (w : World) (A : Option Addr) (c : Nat) (h : Byt w w.heap.size A m.length c m) => new_ok id A m.length c m w h hc
        have hok : ∃ (r : Bool) (n : Int) (d : Nat → Int), Val id r n d ∧ sB s = bodyL r n d ∧ r = false ∧ n = (m.length : Int) ∧ d = dOf m := ⟨false, _, _, ⟨hc, fun j _ => dOf_range hm j⟩, by rw [he]; show _ = tailL (bL (m.length : Int).toNat (dOf m)); rw [Int.toNat_natCast, bL_dOf], rfl, rfl, rfl⟩
        obtain ⟨_, _, _, hv, hbo, rfl, rfl, rfl⟩ := hok
        have HNW := Lib.hid hnw
        have HV := Lib.hid hv
        have HBO := Lib.hid hbo
        clear hpb hpb1 hcp hnR hc hnw hv hbo he hm hp hpf hln
        have hz : FrAt (w.alloc (.cells #[.int .i64 0, .bool false, .int .i64 0, .int .u8 0, .int .u8 0, .int .u8 0, .int .u8 0, .int .u8 0, .int .u8 0, .int .u8 0, .int .u8 0] 24)) w.heap.size 0 false 0 (fun _ => 0) := heap_alloc_new w _
        have hb : Below w.heap.size w (w.alloc (.cells #[.int .i64 0, .bool false, .int .i64 0, .int .u8 0, .int .u8 0, .int .u8 0, .int .u8 0, .int .u8 0, .int .u8 0, .int .u8 0, .int .u8 0] 24)) := (Below.refl _ _).alloc (Nat.le_refl _) _
        have hs1 : w.heap.size < (w.alloc (.cells #[.int .i64 0, .bool false, .int .i64 0, .int .u8 0, .int .u8 0, .int .u8 0, .int .u8 0, .int .u8 0, .int .u8 0, .int .u8 0, .int .u8 0] 24)).heap.size := by simp
        have HB := Lib.hid hb
        have HZ := Lib.hid hz
        have HS := Lib.hid hs1
        clear hb hz hs1
        go_enter Try.func30, Try.ntmps30
        go_wp2_with (first
          | (go_at_call 35; refine (HCP.out _).mono ?_; rintro e w1 ⟨rfl, rfl⟩)
          | (go_at_call 36; refine (HPB.out _).mono ?_; rintro e w2 ⟨A, c, rfl, hB, hb2⟩; have hz2 := FrAt.below HZ.out hb2 HS.out; have hbw2 := HB.out.trans (hb2.mono HB.out.size); clear hb2)
          | (go_at_call 8; refine (HNW.out _ _ _ hB).mono ?_; rintro e w3 ⟨rfl, hb3⟩; have hz3 := FrAt.below hz2 hb3 hz2.lt; have hbw := hbw2.trans (hb3.mono hbw2.size); clear hb3)
          | (refine wpList_store_row rfl _ (.tmp 4) (.tmp 42) rfl w.heap.size _ rfl rfl _ _ hz3 info_frame rfl (one_frame id m.length false (dOf m)) ?_; have hf4 := hz3.row id m.length false (dOf m); have hbw4 := below_setRow hbw (Nat.le_refl w.heap.size) #[.int .i64 id, .bool false, .int .i64 (m.length : Int), .int .u8 (dOf m 0), .int .u8 (dOf m 1), .int .u8 (dOf m 2), .int .u8 (dOf m 3), .int .u8 (dOf m 4), .int .u8 (dOf m 5), .int .u8 (dOf m 6), .int .u8 (dOf m 7)]))
        all_goals exact bodyPost_ret (results_cell_tmp_row rfl _ _ w.heap.size _ _ _ _ rfl hf4 Try.underlying24 rfl info_frame) rfl (.inl ⟨false, _, _, HV.out, HBO.out, rfl, hbw4⟩)
      · have hno : ∀ (r : Bool) (n : Int) (d : Nat → Int), Val id r n d → sB s ≠ bodyL r n d := fun r n d hv e => by
          cases r with
          | true => exact hnR _ e
          | false =>
            have hl8 := chk_len hv.1
            have e2 : sB s = tailL (bL n.toNat d) := e
            obtain ⟨rfl, hd⟩ := val_bytes hv (tailL_inj (bL_range _ _ (by omega) hv.2) hm (e2.symm.trans he))
            exact hc (by rw [← chk_congr hd]; exact hv.1)
        have hnw := fun (w : World) (A : Option Addr) (c : Nat) (h : Byt w w.heap.size A m.length c m) => new_no id A m.length c m w h hc
        generalize chk id false (m.length : Int) (dOf m) = q at hnw hc
        have HNW := Lib.hid hnw
        have HNO := Lib.hid hno
        clear hpb hpb1 hcp hnR hnw hno he hm hp hpf hln
        have hz : FrAt (w.alloc (.cells #[.int .i64 0, .bool false, .int .i64 0, .int .u8 0, .int .u8 0, .int .u8 0, .int .u8 0, .int .u8 0, .int .u8 0, .int .u8 0, .int .u8 0] 24)) w.heap.size 0 false 0 (fun _ => 0) := heap_alloc_new w _
        have hb : Below w.heap.size w (w.alloc (.cells #[.int .i64 0, .bool false, .int .i64 0, .int .u8 0, .int .u8 0, .int .u8 0, .int .u8 0, .int .u8 0, .int .u8 0, .int .u8 0, .int .u8 0] 24)) := (Below.refl _ _).alloc (Nat.le_refl _) _
        have hs1 : w.heap.size < (w.alloc (.cells #[.int .i64 0, .bool false, .int .i64 0, .int .u8 0, .int .u8 0, .int .u8 0, .int .u8 0, .int .u8 0, .int .u8 0, .int .u8 0, .int .u8 0] 24)).heap.size := by simp
        have HB := Lib.hid hb
        have HZ := Lib.hid hz
        have HS := Lib.hid hs1
        clear hb hz hs1
        go_enter Try.func30, Try.ntmps30
        go_wp2_with (first
          | (go_at_call 35; refine (HCP.out _).mono ?_; rintro e w1 ⟨rfl, rfl⟩)
          | (go_at_call 36; refine (HPB.out _).mono ?_; rintro e w2 ⟨A, c, rfl, hB, hb2⟩; have hz2 := FrAt.below HZ.out hb2 HS.out; have hbw2 := HB.out.trans (hb2.mono HB.out.size); clear hb2)
          | (go_at_call 8; refine (HNW.out _ _ _ hB).mono ?_; rintro e w3 ⟨rfl, hb3⟩; have hz3 := FrAt.below hz2 hb3 hz2.lt; have hbw := hbw2.trans (hb3.mono hbw2.size); clear hb3)
          | (refine wpList_store_row rfl _ (.tmp 4) (.tmp 42) rfl w.heap.size _ rfl rfl _ _ hz3 info_frame rfl (one_frame 0 0 false (fun _ => 0)) ?_; have hf4 := hz3.row 0 0 false (fun _ => 0); have hbw4 := below_setRow hbw (Nat.le_refl w.heap.size) #[.int .i64 0, .bool false, .int .i64 0, .int .u8 0, .int .u8 0, .int .u8 0, .int .u8 0, .int .u8 0, .int .u8 0, .int .u8 0, .int .u8 0]))
        all_goals exact bodyPost_ret (results_cell_tmp_row rfl _ _ w.heap.size _ _ _ _ rfl hf4 Try.underlying24 rfl info_frame) rfl (.inr ⟨HNO.out, q, hc, rfl, hbw4⟩)
    · have hno : ∀ (r : Bool) (n : Int) (d : Nat → Int), Val id r n d → sB s ≠ bodyL r n d := fun r n d hv e => by
        cases r with
        | true => exact hnR _ e
        | false =>
          have hl8 := chk_len hv.1
          exact hex ⟨_, bL_range _ _ (by omega) hv.2, e⟩
      have hpb2 : ∀ w : World, Calls Try.prog 36 #[.string s] w fun e w' => e = .returned (.tuple #[.slice none 0 0, .bool false]) ∧ Below w.heap.size w w' := fun w => (hpb w).mono fun e w' h => by
        rcases h with ⟨m', A, c, he', hm', _⟩ | ⟨_, h1, h2⟩
        · exact absurd ⟨m', hm', he'⟩ hex
        · exact ⟨h1, h2⟩
      have HPB := Lib.hid hpb2
      have HCP := Lib.hid hcp
      have HNO := Lib.hid hno
      clear hpb hpb2 hcp hnR hno hp hpf hln hex
      have hz : FrAt (w.alloc (.cells #[.int .i64 0, .bool false, .int .i64 0, .int .u8 0, .int .u8 0, .int .u8 0, .int .u8 0, .int .u8 0, .int .u8 0, .int .u8 0, .int .u8 0] 24)) w.heap.size 0 false 0 (fun _ => 0) := heap_alloc_new w _
      have hb : Below w.heap.size w (w.alloc (.cells #[.int .i64 0, .bool false, .int .i64 0, .int .u8 0, .int .u8 0, .int .u8 0, .int .u8 0, .int .u8 0, .int .u8 0, .int .u8 0, .int .u8 0] 24)) := (Below.refl _ _).alloc (Nat.le_refl _) _
      have hs1 : w.heap.size < (w.alloc (.cells #[.int .i64 0, .bool false, .int .i64 0, .int .u8 0, .int .u8 0, .int .u8 0, .int .u8 0, .int .u8 0, .int .u8 0, .int .u8 0, .int .u8 0] 24)).heap.size := by simp
      have HB := Lib.hid hb
      have HZ := Lib.hid hz
      have HS := Lib.hid hs1
      clear hb hz hs1
      go_enter Try.func30, Try.ntmps30
      go_wp2_with (first
        | (go_at_call 35; refine (HCP.out _).mono ?_; rintro e w1 ⟨rfl, rfl⟩)
        | (go_at_call 36; refine (HPB.out _).mono ?_; rintro e w2 ⟨rfl, hb2⟩; have hz2 := FrAt.below HZ.out hb2 HS.out; have hbw2 := HB.out.trans (hb2.mono HB.out.size); clear hb2)
        | (refine wpList_store_row rfl _ (.tmp 4) (.tmp 38) rfl w.heap.size _ rfl rfl _ _ hz2 info_frame rfl (one_frame 0 0 false (fun _ => 0)) ?_; have hf4 := hz2.row 0 0 false (fun _ => 0); have hbw4 := below_setRow hbw2 (Nat.le_refl w.heap.size) #[.int .i64 0, .bool false, .int .i64 0, .int .u8 0, .int .u8 0, .int .u8 0, .int .u8 0, .int .u8 0, .int .u8 0, .int .u8 0, .int .u8 0]))
      all_goals exact bodyPost_ret (results_cell_tmp_row rfl _ _ w.heap.size _ _ _ _ rfl hf4 Try.underlying24 rfl info_frame) rfl (.inr ⟨HNO.out, 4, by omega, rfl, hbw4⟩)
end Go.Proofs.Ytabakfhknkhdkaa
