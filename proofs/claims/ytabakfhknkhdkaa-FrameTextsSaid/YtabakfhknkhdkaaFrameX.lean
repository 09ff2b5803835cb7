/- What Parse answers. -/
import Derived.Test.YtabakfhknkhdkaaFrameW
import Derived.Lib.IndexLaws
namespace Go.Proofs.Ytabakfhknkhdkaa
open Go.RowKit

theorem agg_congr {id n : Int} {r : Bool} {d d' : Nat → Int} (h : ∀ j, j < 8 → d j = d' j) : (#[.int .i64 id, .bool r, .int .i64 n, .int .u8 (d 0), .int .u8 (d 1), .int .u8 (d 2), .int .u8 (d 3), .int .u8 (d 4), .int .u8 (d 5), .int .u8 (d 6), .int .u8 (d 7)] : Array Value) = #[.int .i64 id, .bool r, .int .i64 n, .int .u8 (d' 0), .int .u8 (d' 1), .int .u8 (d' 2), .int .u8 (d' 3), .int .u8 (d' 4), .int .u8 (d' 5), .int .u8 (d' 6), .int .u8 (d' 7)] := by
  rw [h 0 (by omega), h 1 (by omega), h 2 (by omega), h 3 (by omega), h 4 (by omega), h 5 (by omega), h 6 (by omega), h 7 (by omega)]
theorem body_inj {id id' n n' : Int} {r r' : Bool} {d d' : Nat → Int} (h : Val id r n d) (h' : Val id' r' n' d') (e : bodyL r n d = bodyL r' n' d') : r = r' ∧ n = n' ∧ ∀ j, j < 8 → d j = d' j := by
  have hl := chk_len h.1
  have hl' := chk_len h'.1
  cases r with
  | true =>
    cases r' with
    | true =>
      have e2 : (82 : Int) :: hexL 1 n = 82 :: hexL 1 n' := e
      have e3 := List.tail_eq_of_cons_eq e2
      have n1 := num_hex1 hl.1 (by omega)
      rw [e3, num_hex1 hl'.1 (by omega)] at n1
      refine ⟨rfl, (Option.some.inj n1).symm, fun j hj => ?_⟩
      have c1 := chk_cut h.1 j hj
      have c2 := chk_cut h'.1 j hj
      unfold cut kOf at c1 c2
      rw [if_neg (by simp)] at c1 c2
      rw [c1, c2]
    | false =>
      have e2 : (82 : Int) :: hexL 1 n = tailL (bL n'.toNat d') := e
      exact absurd e2.symm (tail_no_R _ (bL_range _ _ (by omega) h'.2) _)
  | false =>
    cases r' with
    | true =>
      have e2 : tailL (bL n.toNat d) = (82 : Int) :: hexL 1 n' := e
      exact absurd e2 (tail_no_R _ (bL_range _ _ (by omega) h.2) _)
    | false =>
      have e2 : tailL (bL n.toNat d) = tailL (bL n'.toNat d') := e
      have e3 := tailL_inj (bL_range _ _ (by omega) h.2) (bL_range _ _ (by omega) h'.2) e2
      obtain ⟨a1, a2⟩ := val_bytes h e3
      obtain ⟨b1, b2⟩ := val_bytes h' rfl
      exact ⟨rfl, by rw [a1]; exact b1.symm, fun j hj => (a2 j hj).trans (b2 j hj).symm⟩
theorem head_len (id : Int) : (headL id).length = 4 := by simp [headL, hexL_len]
theorem tx_inj {id id' n n' : Int} {r r' : Bool} {d d' : Nat → Int} (h : Val id r n d) (h' : Val id' r' n' d') (e : txL id r n d = txL id' r' n' d') : id = id' ∧ r = r' ∧ n = n' ∧ ∀ j, j < 8 → d j = d' j := by
  have hi := chk_id h.1
  have hi' := chk_id h'.1
  obtain ⟨e1, e2⟩ := List.append_inj e (by rw [head_len, head_len])
  obtain ⟨e3, _⟩ := List.append_inj e1 (by rw [hexL_len, hexL_len])
  have n1 := num_hex3 hi.1 (by omega)
  rw [e3, num_hex3 hi'.1 (by omega)] at n1
  exact ⟨(Option.some.inj n1).symm, body_inj h h' e2⟩
/-- Where the # of a frame's text stands. -/
theorem tx_at {id n : Int} {r : Bool} {d : Nat → Int} (h : Val id r n d) : (txL id r n d)[3]? = some 35 ∧ ∀ k, k < 3 → (txL id r n d)[k]? ≠ some 35 := by
  have hi := chk_id h.1
  have e : txL id r n d = [sg (id / 256 % 16), sg (id / 16 % 16), sg (id % 16), 35] ++ bodyL r n d := by
    rw [tx_body]; unfold headL; rw [hex3]; rfl
  rw [e]
  refine ⟨by simp, fun k hk => ?_⟩
  have s1 := sg_range (x := id / 256 % 16) (by omega) (by omega)
  have s2 := sg_range (x := id / 16 % 16) (by omega) (by omega)
  have s3 := sg_range (x := id % 16) (by omega) (by omega)
  match k, hk with
  | 0, _ => simp; omega
  | 1, _ => simp; omega
  | 2, _ => simp; omega
theorem sB_at (s : ByteArray) (k : Nat) : (sB s)[k]? = some 35 ↔ s.data.toList[k]? = some 35 := by
  unfold sB
  rw [List.getElem?_map]
  rcases s.data.toList[k]? with _ | u
  · simp
  · simp only [Option.map_some, Option.some.injEq]
    constructor
    · intro h
      apply UInt8.toNat_inj.1
      have : u.toNat = 35 := by omega
      rw [this]; rfl
    · rintro rfl; rfl
def ParsePost (l : List Int) (w : World) (e : Ending) (w' : World) : Prop :=
  (∃ (id : Int) (r : Bool) (n : Int) (d : Nat → Int), Val id r n d ∧ l = txL id r n d ∧ e = .returned (.tuple #[.agg #[.int .i64 id, .bool r, .int .i64 n, .int .u8 (d 0), .int .u8 (d 1), .int .u8 (d 2), .int .u8 (d 3), .int .u8 (d 4), .int .u8 (d 5), .int .u8 (d 6), .int .u8 (d 7)], .int .i64 0]) ∧ Below w.heap.size w w') ∨
  ((∀ (id : Int) (r : Bool) (n : Int) (d : Nat → Int), Val id r n d → l ≠ txL id r n d) ∧ e = .returned (.tuple #[.agg #[.int .i64 0, .bool false, .int .i64 0, .int .u8 0, .int .u8 0, .int .u8 0, .int .u8 0, .int .u8 0, .int .u8 0, .int .u8 0, .int .u8 0], .int .i64 4]) ∧ Below w.heap.size w w')
set_option maxHeartbeats 1000000 in
theorem parse_any (s : ByteArray) (w : World) (hs : s.size ≤ 140737488351232) :
    Calls Try.prog 21 #[.string s] w (ParsePost (sB s) w) := by
  have hln := sB_len s
  by_cases hi : Lib.indexByte s.data.toList 35 = -1
  · have hno : ∀ (id : Int) (r : Bool) (n : Int) (d : Nat → Int), Val id r n d → sB s ≠ txL id r n d := fun id r n d hv e => by
      have h3 := (tx_at hv).1
      rw [← e, sB_at] at h3
      exact Lib.indexByte_none hi 3 h3
    have hcu := fun w => cut_no s 35 w hi
    have hnu := fun w => number_any s 3 w (by omega) (by omega)
    have HCU := Lib.hid hcu
    have HNU := Lib.hid hnu
    have HNO := Lib.hid hno
    clear hcu hnu hno hi hln
    have hz : FrAt (w.alloc (.cells #[.int .i64 0, .bool false, .int .i64 0, .int .u8 0, .int .u8 0, .int .u8 0, .int .u8 0, .int .u8 0, .int .u8 0, .int .u8 0, .int .u8 0] 24)) w.heap.size 0 false 0 (fun _ => 0) := heap_alloc_new w _
    have hb : Below w.heap.size w (w.alloc (.cells #[.int .i64 0, .bool false, .int .i64 0, .int .u8 0, .int .u8 0, .int .u8 0, .int .u8 0, .int .u8 0, .int .u8 0, .int .u8 0, .int .u8 0] 24)) := (Below.refl _ _).alloc (Nat.le_refl _) _
    have hs1 : w.heap.size < (w.alloc (.cells #[.int .i64 0, .bool false, .int .i64 0, .int .u8 0, .int .u8 0, .int .u8 0, .int .u8 0, .int .u8 0, .int .u8 0, .int .u8 0, .int .u8 0] 24)).heap.size := by simp
    have HB := Lib.hid hb
    have HZ := Lib.hid hz
    have HS := Lib.hid hs1
    clear hb hz hs1
    go_enter Try.func21, Try.ntmps21
    go_wp2_with (first
      | (go_at_call 28; refine (HCU.out _).mono ?_; rintro e w1 ⟨rfl, hb1⟩; have hz1 := FrAt.below HZ.out hb1 HS.out; have hbw1 := HB.out.trans (hb1.mono HB.out.size); have hs1 := hz1.lt; have HZ1 := Lib.hid hz1; clear hb1 hz1)
      | (go_at_call 29; refine (HNU.out _).mono ?_; rintro e w2 ⟨rfl, rfl⟩)
      | (refine wpList_store_row rfl _ (.tmp 2) (.tmp 28) rfl w.heap.size _ rfl rfl _ _ HZ1.out info_frame rfl (one_frame 0 0 false (fun _ => 0)) ?_; have hf5 := HZ1.out.row 0 0 false (fun _ => 0); have hbw5 := below_setRow hbw1 (Nat.le_refl w.heap.size) #[.int .i64 0, .bool false, .int .i64 0, .int .u8 0, .int .u8 0, .int .u8 0, .int .u8 0, .int .u8 0, .int .u8 0, .int .u8 0, .int .u8 0]))
    all_goals exact bodyPost_ret (results_cell_tmp_row rfl _ _ w.heap.size _ _ _ _ rfl hf5 Try.underlying24 rfl info_frame) rfl (.inr ⟨HNO.out, rfl, hbw5⟩)
  · obtain ⟨o, ho⟩ : ∃ o : Nat, Lib.indexByte s.data.toList 35 = o := ⟨(Lib.indexByte s.data.toList 35).toNat, by have := Lib.indexByte_ge s.data.toList 35; omega⟩
    obtain ⟨hat, hbef⟩ := Lib.indexByte_some ho
    have hos : o < s.size := by
      have := (List.getElem?_eq_some_iff.1 hat).1
      simpa using this
    have hcu := fun w => cut_yes s 35 o w (by omega) hos ho
    have hat2 := (sB_at s o).2 hat
    have hsu : sB (s.extract 0 o) = (sB s).take o := by rw [sB_ext, List.drop_zero]
    have hst : sB (s.extract (o + 1) s.size) = (sB s).drop (o + 1) := by rw [sB_ext, List.take_of_length_le (by omega)]
    have hsplit : sB s = (sB s).take o ++ 35 :: (sB s).drop (o + 1) := by
      have h1 := (List.take_append_drop o (sB s)).symm
      have hlt : o < (sB s).length := by omega
      rw [List.drop_eq_getElem_cons hlt] at h1
      rw [List.getElem?_eq_getElem hlt] at hat2
      rw [Option.some.inj hat2] at h1
      exact h1
    have hany : ∀ (id : Int) (r : Bool) (n : Int) (d : Nat → Int), Val id r n d → sB s = txL id r n d → (sB s).take o = hexL 3 id ∧ (sB s).drop (o + 1) = bodyL r n d := fun id r n d hv e => by
      obtain ⟨t3, tk⟩ := tx_at hv
      have ho3 : o = 3 := by
        rcases Nat.lt_trichotomy o 3 with h | h | h
        · exact absurd (by rw [← e]; exact hat2) (tk o h)
        · exact h
        · exact absurd ((sB_at s 3).1 (by rw [e]; exact t3)) (hbef 3 h)
      rw [e, tx_body, ho3]
      constructor
      · unfold headL
        rw [List.append_assoc, List.take_append_of_le_length (by rw [hexL_len]; omega), List.take_of_length_le (by rw [hexL_len]; omega)]
      · exact List.drop_left' (head_len id)
    have hz1 : (s.extract 0 o).size ≤ 9223372036854775807 := by simp; omega
    have hz2 : (s.extract (o + 1) s.size).size ≤ 140737488351232 := by simp; omega
    have hrg := sB_range (s.extract 0 o)
    have hnu := fun w => number_any (s.extract 0 o) 3 w (by omega) hz1
    rw [hsu] at hnu hrg
    rcases hq : numO ((sB s).take o) 3 with _ | id
    · have hno : ∀ (id : Int) (r : Bool) (n : Int) (d : Nat → Int), Val id r n d → sB s ≠ txL id r n d := fun id r n d hv e => by
        have hi := chk_id hv.1
        rw [(hany id r n d hv e).1, num_hex3 hi.1 (by omega)] at hq
        cases hq
      simp only [hq] at hnu
      generalize s.extract 0 o = u at hcu hnu
      generalize s.extract (o + 1) s.size = t at hcu
      have HCU := Lib.hid hcu
      have HNU := Lib.hid hnu
      have HNO := Lib.hid hno
      clear hcu hnu hno hi hln hq hany hrg hsplit hst hsu hat hat2 hbef hz1 hz2
      have hz : FrAt (w.alloc (.cells #[.int .i64 0, .bool false, .int .i64 0, .int .u8 0, .int .u8 0, .int .u8 0, .int .u8 0, .int .u8 0, .int .u8 0, .int .u8 0, .int .u8 0] 24)) w.heap.size 0 false 0 (fun _ => 0) := heap_alloc_new w _
      have hb : Below w.heap.size w (w.alloc (.cells #[.int .i64 0, .bool false, .int .i64 0, .int .u8 0, .int .u8 0, .int .u8 0, .int .u8 0, .int .u8 0, .int .u8 0, .int .u8 0, .int .u8 0] 24)) := (Below.refl _ _).alloc (Nat.le_refl _) _
      have hs1 : w.heap.size < (w.alloc (.cells #[.int .i64 0, .bool false, .int .i64 0, .int .u8 0, .int .u8 0, .int .u8 0, .int .u8 0, .int .u8 0, .int .u8 0, .int .u8 0, .int .u8 0] 24)).heap.size := by simp
      have HB := Lib.hid hb
      have HZ := Lib.hid hz
      have HS := Lib.hid hs1
      clear hb hz hs1
      go_enter Try.func21, Try.ntmps21
      go_wp2_with (first
        | (go_at_call 28; refine (HCU.out _).mono ?_; rintro e w1 ⟨rfl, hb1⟩; have hz1 := FrAt.below HZ.out hb1 HS.out; have hbw1 := HB.out.trans (hb1.mono HB.out.size); have hs1 := hz1.lt; have HZ1 := Lib.hid hz1; clear hb1 hz1)
        | (go_at_call 29; refine (HNU.out _).mono ?_; rintro e w2 ⟨rfl, rfl⟩)
        | (refine wpList_store_row rfl _ (.tmp 2) (.tmp 28) rfl w.heap.size _ rfl rfl _ _ HZ1.out info_frame rfl (one_frame 0 0 false (fun _ => 0)) ?_; have hf5 := HZ1.out.row 0 0 false (fun _ => 0); have hbw5 := below_setRow hbw1 (Nat.le_refl w.heap.size) #[.int .i64 0, .bool false, .int .i64 0, .int .u8 0, .int .u8 0, .int .u8 0, .int .u8 0, .int .u8 0, .int .u8 0, .int .u8 0, .int .u8 0]))
      all_goals exact bodyPost_ret (results_cell_tmp_row rfl _ _ w.heap.size _ _ _ _ rfl hf5 Try.underlying24 rfl info_frame) rfl (.inr ⟨HNO.out, rfl, hbw5⟩)
    · obtain ⟨he, hi0, hi1⟩ := hex_num3 hrg hq
      simp only [hq, nOf, Option.getD_some, Option.isSome_some] at hnu
      have hpt := fun w => ptail_any id (s.extract (o + 1) s.size) w hz2
      rw [hst] at hpt
      by_cases hex : ∃ (r : Bool) (n : Int) (d : Nat → Int), Val id r n d ∧ (sB s).drop (o + 1) = bodyL r n d
      · obtain ⟨r, n, d, hv, hb⟩ := hex
        have hpt1 : ∀ w : World, Calls Try.prog 30 #[.int .i64 id, .string (s.extract (o + 1) s.size)] w fun e w' => e = .returned (.tuple #[.agg #[.int .i64 id, .bool r, .int .i64 n, .int .u8 (d 0), .int .u8 (d 1), .int .u8 (d 2), .int .u8 (d 3), .int .u8 (d 4), .int .u8 (d 5), .int .u8 (d 6), .int .u8 (d 7)], .int .i64 0]) ∧ Below w.heap.size w w' := fun w => (hpt w).mono fun e w' h => by
          rcases h with ⟨r', n', d', hv', hb', h1, h2⟩ | ⟨hno, _⟩
          · obtain ⟨rfl, rfl, hd⟩ := body_inj hv' hv (hb'.symm.trans hb)
            rw [agg_congr hd] at h1
            exact ⟨h1, h2⟩
          · exact absurd hb (hno r n d hv)
        have htx : sB s = txL id r n d := by rw [hsplit, he, hb, tx_body]; unfold headL; rw [List.append_assoc]; rfl
        generalize s.extract 0 o = u at hcu hnu
        generalize s.extract (o + 1) s.size = t at hcu hpt1
        have HCU := Lib.hid hcu
        have HNU := Lib.hid hnu
        have HPT := Lib.hid hpt1
        have HTX := Lib.hid htx
        have HV := Lib.hid hv
        clear hcu hnu hpt hpt1 hi hln hq hany hrg hsplit hst hsu hat hat2 hbef hz1 hz2 he htx hb hv
        have hz : FrAt (w.alloc (.cells #[.int .i64 0, .bool false, .int .i64 0, .int .u8 0, .int .u8 0, .int .u8 0, .int .u8 0, .int .u8 0, .int .u8 0, .int .u8 0, .int .u8 0] 24)) w.heap.size 0 false 0 (fun _ => 0) := heap_alloc_new w _
        have hb : Below w.heap.size w (w.alloc (.cells #[.int .i64 0, .bool false, .int .i64 0, .int .u8 0, .int .u8 0, .int .u8 0, .int .u8 0, .int .u8 0, .int .u8 0, .int .u8 0, .int .u8 0] 24)) := (Below.refl _ _).alloc (Nat.le_refl _) _
        have hs1 : w.heap.size < (w.alloc (.cells #[.int .i64 0, .bool false, .int .i64 0, .int .u8 0, .int .u8 0, .int .u8 0, .int .u8 0, .int .u8 0, .int .u8 0, .int .u8 0, .int .u8 0] 24)).heap.size := by simp
        have HB := Lib.hid hb
        have HZ := Lib.hid hz
        have HS := Lib.hid hs1
        clear hb hz hs1
        go_enter Try.func21, Try.ntmps21
        go_wp2_with (first
          | (go_at_call 28; refine (HCU.out _).mono ?_; rintro e w1 ⟨rfl, hb1⟩; have hz1 := FrAt.below HZ.out hb1 HS.out; have hbw1 := HB.out.trans (hb1.mono HB.out.size); have hs1 := hz1.lt; have HZ1 := Lib.hid hz1; clear hb1 hz1)
          | (go_at_call 29; refine (HNU.out _).mono ?_; rintro e w2 ⟨rfl, rfl⟩)
          | (go_at_call 30; refine (HPT.out _).mono ?_; rintro e w3 ⟨rfl, hb3⟩; have hz3 := (FrAt.below HZ1.out hb3 hs1).below ((Below.refl w3.heap.size w3).alloc (Nat.le_refl _) (.cells #[.int .i64 0, .bool false, .int .i64 0, .int .u8 0, .int .u8 0, .int .u8 0, .int .u8 0, .int .u8 0, .int .u8 0, .int .u8 0, .int .u8 0] 24)) (Nat.lt_of_lt_of_le hs1 hb3.size); have hy3 : FrAt (w3.alloc (.cells #[.int .i64 0, .bool false, .int .i64 0, .int .u8 0, .int .u8 0, .int .u8 0, .int .u8 0, .int .u8 0, .int .u8 0, .int .u8 0, .int .u8 0] 24)) w3.heap.size 0 false 0 (fun _ => 0) := heap_alloc_new w3 _; have hbw3 := hbw1.trans (hb3.mono hbw1.size); have hne : w.heap.size ≠ w3.heap.size := (fun e => by have := Nat.lt_of_lt_of_le hs1 hb3.size; omega); have hbw3' := hbw3.alloc hbw3.size (.cells #[.int .i64 0, .bool false, .int .i64 0, .int .u8 0, .int .u8 0, .int .u8 0, .int .u8 0, .int .u8 0, .int .u8 0, .int .u8 0, .int .u8 0] 24); have hy4 := hy3.row id n r (d); have hz4 := hz3.row_other hne #[.int .i64 id, .bool r, .int .i64 n, .int .u8 (d 0), .int .u8 (d 1), .int .u8 (d 2), .int .u8 (d 3), .int .u8 (d 4), .int .u8 (d 5), .int .u8 (d 6), .int .u8 (d 7)]; have hbw4 := below_setRow hbw3' hbw3.size #[.int .i64 id, .bool r, .int .i64 n, .int .u8 (d 0), .int .u8 (d 1), .int .u8 (d 2), .int .u8 (d 3), .int .u8 (d 4), .int .u8 (d 5), .int .u8 (d 6), .int .u8 (d 7)]; have hf5 := hz4.row id n r (d); have hbw5 := below_setRow hbw4 (Nat.le_refl w.heap.size) #[.int .i64 id, .bool r, .int .i64 n, .int .u8 (d 0), .int .u8 (d 1), .int .u8 (d 2), .int .u8 (d 3), .int .u8 (d 4), .int .u8 (d 5), .int .u8 (d 6), .int .u8 (d 7)]; have HY3 := Lib.hid hy3; have HY4 := Lib.hid hy4; have HZ4 := Lib.hid hz4; have HF5 := Lib.hid hf5; have HB5 := Lib.hid hbw5; clear hb3 hz3 hy3 hbw3' hy4 hz4 hbw4 hf5 hbw5)
          | (refine wpList_store_row rfl _ (.tmp 9) (.tmp 33) rfl w3.heap.size _ rfl rfl _ _ HY3.out info_frame rfl (one_frame id n r d) ?_)
          | (refine wpList_load_row rfl _ (.tmp 9) rfl w3.heap.size rfl _ _ _ _ HY4.out Try.underlying24 rfl info_frame ?_)
          | (refine wpList_store_row rfl _ (.tmp 2) (.tmp 38) rfl w.heap.size _ rfl rfl _ _ HZ4.out info_frame rfl (one_frame id n r d) ?_))
        all_goals exact bodyPost_ret (results_cell_tmp_row rfl _ _ w.heap.size _ _ _ _ rfl HF5.out Try.underlying24 rfl info_frame) rfl (.inl ⟨id, r, n, d, HV.out, HTX.out, rfl, HB5.out⟩)
      · have hno : ∀ (id : Int) (r : Bool) (n : Int) (d : Nat → Int), Val id r n d → sB s ≠ txL id r n d := fun id' r n d hv e => by
          have hi := chk_id hv.1
          obtain ⟨a1, a2⟩ := hany id' r n d hv e
          rw [a1, num_hex3 hi.1 (by omega)] at hq
          cases hq
          exact hex ⟨r, n, d, hv, a2⟩
        have hpt1 : ∀ w : World, Calls Try.prog 30 #[.int .i64 id, .string (s.extract (o + 1) s.size)] w fun e w' => (∃ k : Int, k ≠ 0 ∧ e = .returned (.tuple #[.agg #[.int .i64 0, .bool false, .int .i64 0, .int .u8 0, .int .u8 0, .int .u8 0, .int .u8 0, .int .u8 0, .int .u8 0, .int .u8 0, .int .u8 0], .int .i64 k])) ∧ Below w.heap.size w w' := fun w => (hpt w).mono fun e w' h => by
          rcases h with ⟨r', n', d', hv', hb', _⟩ | ⟨_, k, hk, h1, h2⟩
          · exact absurd ⟨r', n', d', hv', hb'⟩ hex
          · exact ⟨⟨k, hk, h1⟩, h2⟩
        generalize s.extract 0 o = u at hcu hnu
        generalize s.extract (o + 1) s.size = t at hcu hpt1
        have HCU := Lib.hid hcu
        have HNU := Lib.hid hnu
        have HPT := Lib.hid hpt1
        have HNO := Lib.hid hno
        clear hcu hnu hpt hpt1 hi hln hq hany hrg hsplit hst hsu hat hat2 hbef hz1 hz2 he hno hex
        have hz : FrAt (w.alloc (.cells #[.int .i64 0, .bool false, .int .i64 0, .int .u8 0, .int .u8 0, .int .u8 0, .int .u8 0, .int .u8 0, .int .u8 0, .int .u8 0, .int .u8 0] 24)) w.heap.size 0 false 0 (fun _ => 0) := heap_alloc_new w _
        have hb : Below w.heap.size w (w.alloc (.cells #[.int .i64 0, .bool false, .int .i64 0, .int .u8 0, .int .u8 0, .int .u8 0, .int .u8 0, .int .u8 0, .int .u8 0, .int .u8 0, .int .u8 0] 24)) := (Below.refl _ _).alloc (Nat.le_refl _) _
        have hs1 : w.heap.size < (w.alloc (.cells #[.int .i64 0, .bool false, .int .i64 0, .int .u8 0, .int .u8 0, .int .u8 0, .int .u8 0, .int .u8 0, .int .u8 0, .int .u8 0, .int .u8 0] 24)).heap.size := by simp
        have HB := Lib.hid hb
        have HZ := Lib.hid hz
        have HS := Lib.hid hs1
        clear hb hz hs1
        go_enter Try.func21, Try.ntmps21
        go_wp2_with (first
          | (go_at_call 28; refine (HCU.out _).mono ?_; rintro e w1 ⟨rfl, hb1⟩; have hz1 := FrAt.below HZ.out hb1 HS.out; have hbw1 := HB.out.trans (hb1.mono HB.out.size); have hs1 := hz1.lt; have HZ1 := Lib.hid hz1; clear hb1 hz1)
          | (go_at_call 29; refine (HNU.out _).mono ?_; rintro e w2 ⟨rfl, rfl⟩)
          | (go_at_call 30; refine (HPT.out _).mono ?_; rintro e w3 ⟨⟨q, hq0, rfl⟩, hb3⟩; have hz3 := (FrAt.below HZ1.out hb3 hs1).below ((Below.refl w3.heap.size w3).alloc (Nat.le_refl _) (.cells #[.int .i64 0, .bool false, .int .i64 0, .int .u8 0, .int .u8 0, .int .u8 0, .int .u8 0, .int .u8 0, .int .u8 0, .int .u8 0, .int .u8 0] 24)) (Nat.lt_of_lt_of_le hs1 hb3.size); have hy3 : FrAt (w3.alloc (.cells #[.int .i64 0, .bool false, .int .i64 0, .int .u8 0, .int .u8 0, .int .u8 0, .int .u8 0, .int .u8 0, .int .u8 0, .int .u8 0, .int .u8 0] 24)) w3.heap.size 0 false 0 (fun _ => 0) := heap_alloc_new w3 _; have hbw3 := hbw1.trans (hb3.mono hbw1.size); have hne : w.heap.size ≠ w3.heap.size := (fun e => by have := Nat.lt_of_lt_of_le hs1 hb3.size; omega); have hbw3' := hbw3.alloc hbw3.size (.cells #[.int .i64 0, .bool false, .int .i64 0, .int .u8 0, .int .u8 0, .int .u8 0, .int .u8 0, .int .u8 0, .int .u8 0, .int .u8 0, .int .u8 0] 24); have hy4 := hy3.row 0 0 false (fun _ => 0); have hz4 := hz3.row_other hne #[.int .i64 0, .bool false, .int .i64 0, .int .u8 0, .int .u8 0, .int .u8 0, .int .u8 0, .int .u8 0, .int .u8 0, .int .u8 0, .int .u8 0]; have hbw4 := below_setRow hbw3' hbw3.size #[.int .i64 0, .bool false, .int .i64 0, .int .u8 0, .int .u8 0, .int .u8 0, .int .u8 0, .int .u8 0, .int .u8 0, .int .u8 0, .int .u8 0]; have hf5 := hz4.row 0 0 false (fun _ => 0); have hbw5 := below_setRow hbw4 (Nat.le_refl w.heap.size) #[.int .i64 0, .bool false, .int .i64 0, .int .u8 0, .int .u8 0, .int .u8 0, .int .u8 0, .int .u8 0, .int .u8 0, .int .u8 0, .int .u8 0]; have HY3 := Lib.hid hy3; have HY4 := Lib.hid hy4; have HZ4 := Lib.hid hz4; have HF5 := Lib.hid hf5; have HB5 := Lib.hid hbw5; clear hb3 hz3 hy3 hbw3' hy4 hz4 hbw4 hf5 hbw5)
          | (refine wpList_store_row rfl _ (.tmp 9) (.tmp 33) rfl w3.heap.size _ rfl rfl _ _ HY3.out info_frame rfl (one_frame 0 0 false (fun _ => 0)) ?_)
          | (refine wpList_store_row rfl _ (.tmp 2) (.tmp 37) rfl w.heap.size _ rfl rfl _ _ HZ4.out info_frame rfl (one_frame 0 0 false (fun _ => 0)) ?_))
        all_goals exact bodyPost_ret (results_cell_tmp_row rfl _ _ w.heap.size _ _ _ _ rfl HF5.out Try.underlying24 rfl info_frame) rfl (.inr ⟨HNO.out, rfl, HB5.out⟩)
end Go.Proofs.Ytabakfhknkhdkaa
