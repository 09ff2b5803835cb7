/- Signs and numbers, there and back; what parseBytes answers. -/
import Derived.Test.YtabakfhknkhdkaaFrameT
namespace Go.Proofs.Ytabakfhknkhdkaa
open Go.RowKit

theorem vs_sg_nat : ∀ x : Fin 16, vs (sg (x.val : Int)) = x.val := by decide +kernel
theorem vs_sg {x : Int} (h0 : 0 ≤ x) (h1 : x < 16) : vs (sg x) = x := by
  obtain ⟨k, rfl⟩ := Int.eq_ofNat_of_zero_le h0
  exact vs_sg_nat ⟨k, by omega⟩
theorem sg_vs_nat : ∀ x : Fin 256, ¬ vs (x.val : Int) < 0 → sg (vs (x.val : Int)) = x.val := by decide +kernel
theorem sg_vs {x : Int} (h0 : 0 ≤ x) (h1 : x ≤ 255) (h : ¬ vs x < 0) : sg (vs x) = x := by
  obtain ⟨k, rfl⟩ := Int.eq_ofNat_of_zero_le h0
  exact sg_vs_nat ⟨k, by omega⟩ h
theorem hex1 (q : Int) : hexL 1 q = [sg (q % 16)] := by simp [hexL, List.range_succ]
theorem hex2 (q : Int) : hexL 2 q = [sg (q / 16 % 16), sg (q % 16)] := by simp [hexL, List.range_succ]
theorem hex3 (q : Int) : hexL 3 q = [sg (q / 256 % 16), sg (q / 16 % 16), sg (q % 16)] := by simp [hexL, List.range_succ]
theorem num_hex1 {q : Int} (h0 : 0 ≤ q) (h1 : q < 16) : numO (hexL 1 q) 1 = some q := by
  rw [hex1]
  have a := vs_sg (x := q % 16) (by omega) (by omega)
  unfold numO
  rw [if_pos (by simp)]
  simp only [numF, a]
  rw [if_neg (by omega)]
  congr 1; omega
theorem num_hex2 {q : Int} (h0 : 0 ≤ q) (h1 : q < 256) : numO (hexL 2 q) 2 = some q := by
  rw [hex2]
  have a := vs_sg (x := q / 16 % 16) (by omega) (by omega)
  have b := vs_sg (x := q % 16) (by omega) (by omega)
  unfold numO
  rw [if_pos (by simp)]
  simp only [numF, a, b]
  rw [if_neg (by omega), if_neg (by omega)]
  congr 1; omega
theorem num_hex3 {q : Int} (h0 : 0 ≤ q) (h1 : q < 4096) : numO (hexL 3 q) 3 = some q := by
  rw [hex3]
  have a := vs_sg (x := q / 256 % 16) (by omega) (by omega)
  have b := vs_sg (x := q / 16 % 16) (by omega) (by omega)
  have c := vs_sg (x := q % 16) (by omega) (by omega)
  unfold numO
  rw [if_pos (by simp)]
  simp only [numF, a, b, c]
  rw [if_neg (by omega), if_neg (by omega), if_neg (by omega)]
  congr 1; omega
theorem hex_num1 {l : List Int} {q : Int} (hl : ∀ x ∈ l, 0 ≤ x ∧ x ≤ 255) (h : numO l 1 = some q) : l = hexL 1 q ∧ 0 ≤ q ∧ q < 16 := by
  unfold numO at h
  split at h
  · rename_i hlen
    match l, hlen with
    | [a], _ =>
      have ha := hl a (by simp)
      simp only [numF] at h
      have va := vs_range a
      by_cases na : vs a < 0
      · rw [if_pos na] at h; cases h
      · rw [if_neg na] at h
        cases h
        have sa := sg_vs ha.1 ha.2 na
        refine ⟨?_, by omega, by omega⟩
        rw [hex1, show (0 * 16 + vs a) % 16 = vs a by omega, sa]
  · cases h
theorem hex_num2 {l : List Int} {q : Int} (hl : ∀ x ∈ l, 0 ≤ x ∧ x ≤ 255) (h : numO l 2 = some q) : l = hexL 2 q ∧ 0 ≤ q ∧ q < 256 := by
  unfold numO at h
  split at h
  · rename_i hlen
    match l, hlen with
    | [a, b], _ =>
      have ha := hl a (by simp)
      have hb := hl b (by simp)
      simp only [numF] at h
      have va := vs_range a
      have vb := vs_range b
      by_cases na : vs a < 0
      · rw [if_pos na] at h; cases h
      · rw [if_neg na] at h
        by_cases nb : vs b < 0
        · rw [if_pos nb] at h; cases h
        · rw [if_neg nb] at h
          cases h
          have sa := sg_vs ha.1 ha.2 na
          have sb := sg_vs hb.1 hb.2 nb
          refine ⟨?_, by omega, by omega⟩
          rw [hex2, show ((0 * 16 + vs a) * 16 + vs b) / 16 % 16 = vs a by omega, show ((0 * 16 + vs a) * 16 + vs b) % 16 = vs b by omega, sa, sb]
  · cases h
theorem hex_num3 {l : List Int} {q : Int} (hl : ∀ x ∈ l, 0 ≤ x ∧ x ≤ 255) (h : numO l 3 = some q) : l = hexL 3 q ∧ 0 ≤ q ∧ q < 4096 := by
  unfold numO at h
  split at h
  · rename_i hlen
    match l, hlen with
    | [a, b, c], _ =>
      have ha := hl a (by simp)
      have hb := hl b (by simp)
      have hc := hl c (by simp)
      simp only [numF] at h
      have va := vs_range a
      have vb := vs_range b
      have vc := vs_range c
      by_cases na : vs a < 0
      · rw [if_pos na] at h; cases h
      · rw [if_neg na] at h
        by_cases nb : vs b < 0
        · rw [if_pos nb] at h; cases h
        · rw [if_neg nb] at h
          by_cases nc : vs c < 0
          · rw [if_pos nc] at h; cases h
          · rw [if_neg nc] at h
            cases h
            have sa := sg_vs ha.1 ha.2 na
            have sb := sg_vs hb.1 hb.2 nb
            have sc := sg_vs hc.1 hc.2 nc
            refine ⟨?_, by omega, by omega⟩
            rw [hex3, show (((0 * 16 + vs a) * 16 + vs b) * 16 + vs c) / 256 % 16 = vs a by omega, show (((0 * 16 + vs a) * 16 + vs b) * 16 + vs c) / 16 % 16 = vs b by omega, show (((0 * 16 + vs a) * 16 + vs b) * 16 + vs c) % 16 = vs c by omega, sa, sb, sc]
  · cases h
theorem sB_ext (s : ByteArray) (i j : Nat) : sB (s.extract i j) = ((sB s).take j).drop i := by
  unfold sB
  rw [ByteArray.data_extract, Array.toList_extract, List.extract_eq_take_drop, List.map_take, List.map_drop, List.drop_take]
theorem tailL_cons (x : Int) (l : List Int) : tailL (x :: l) = hexL 2 x ++ tailL l := by simp [tailL]
theorem tail_pair : ∀ (m : List Int) (j : Nat), j < m.length → ((tailL m).drop (2 * j)).take 2 = hexL 2 (m.getD j 0)
  | [], j, h => absurd h (by simp)
  | x :: m, 0, _ => by
    rw [tailL_cons]
    simp [hex2]
  | x :: m, j + 1, h => by
    have ih := tail_pair m j (by simpa using h)
    rw [tailL_cons, show 2 * (j + 1) = (hexL 2 x).length + 2 * j by rw [hexL_len]; omega, ← List.drop_drop, List.drop_left, ih]
    simp [List.getD]
theorem make_cap (n : Nat) (hn : n ≤ 281474976710656) (w : World) : (Instr.makeSlice 25 (.int .i64 0) (.int .i64 (n : Int))).run Try.prog w = .ok (.slice (some ⟨w.heap.size, 0, none⟩) 0 n) (w.alloc (.cells (madeCells #[.int .u8 0] n) 5)) := by
  obtain ⟨i0, hi, hz0, hz1, hz2⟩ := info_parts byte_info
  have hr := run_make (P := Try.prog) w 25 5 i0 (.int .u8 0) Try.underlying25 hi hz0 .i64 .i64 0 n (by omega) (by omega) (by rw [hz2]; omega) (by omega)
  have hc : (Value.int .u8 0).cells = #[Value.int .u8 0] := rfl
  rw [hz1, hc] at hr
  simpa using hr

theorem pbytes_any (s : ByteArray) (w : World) (hs : s.size ≤ 140737488351232) :
    Calls Try.prog 36 #[.string s] w fun e w' =>
      (∃ (m : List Int) (A : Option Addr) (c : Nat), sB s = tailL m ∧ (∀ x ∈ m, 0 ≤ x ∧ x ≤ 255) ∧ e = .returned (.tuple #[.slice A m.length c, .bool true]) ∧ Byt w' w'.heap.size A m.length c m ∧ Below w.heap.size w w') ∨
      ((∀ m : List Int, (∀ x ∈ m, 0 ≤ x ∧ x ≤ 255) → sB s ≠ tailL m) ∧ e = .returned (.tuple #[.slice none 0 0, .bool false]) ∧ Below w.heap.size w w') := by
  have hln := sB_len s
  by_cases hodd : s.size % 2 = 0
  · obtain ⟨k, hk⟩ : ∃ k, s.size = 2 * k := ⟨s.size / 2, by omega⟩
    have hmk := fun w => make_cap k (by omega) w
    have HLN := Lib.hid hln
    have HMK := Lib.hid hmk
    clear hln
    go_enter Try.func36, Try.ntmps36
    go_wp2_with fail
    go_loopw [5, 4] (fun x v wr => ∃ (j : Nat) (m : List Int), j ≤ k ∧ x = .int .i64 (2 * j : Int) ∧ Hid (m.length = j ∧ (sB s).take (2 * j) = tailL m ∧ ∀ x ∈ m, 0 ≤ x ∧ x ≤ 255) ∧ wr.ownsRow w.heap.size 5 1 v j (m.map (Value.int .u8)) ∧ Below w.heap.size w wr) (fun x _ _ => 2 * k - (intOf x).toNat)
    case atStart => exact ⟨0, [], Nat.zero_le _, rfl, Lib.hid ⟨rfl, by simp [tailL], by simp⟩, World.ownsRow_made w _ k (Nat.le_refl _) (by simp only [maxLen]; omega) (by rw [size_madeCells]; omega), (Below.refl _ _).alloc (Nat.le_refl _) _⟩
    case round =>
      obtain ⟨j, m, hj, rfl, HM, hown, hbel⟩ := hrel
      by_cases hlt : j < k
      · have hnu : ∀ w : World, Calls Try.prog 29 #[.string (s.extract (2 * j) (2 * j + 2)), .int .i64 2] w fun e w' => e = .returned (.tuple #[.int .i64 (nOf (numO (((sB s).drop (2 * j)).take 2) 2)), .bool (numO (((sB s).drop (2 * j)).take 2) 2).isSome]) ∧ w = w' := fun w => by
          have := number_any (s.extract (2 * j) (2 * j + 2)) 2 w (by omega) (by simp; omega)
          rw [sB_ext, List.drop_take, show 2 * j + 2 - 2 * j = 2 by omega] at this
          exact this
        have hlr : ∀ x ∈ ((sB s).drop (2 * j)).take 2, 0 ≤ x ∧ x ≤ 255 := fun x hx => sB_range s x (List.mem_of_mem_drop (List.mem_of_mem_take hx))
        have hpair : ∀ m : List Int, (∀ x ∈ m, 0 ≤ x ∧ x ≤ 255) → sB s = tailL m → ∃ q, numO (((sB s).drop (2 * j)).take 2) 2 = some q := fun m hm e => by
          have hl2 := congrArg List.length e
          rw [tailL_len, HLN.out] at hl2
          have hr := hm (m.getD j 0) (by rw [List.getD_eq_getElem?_getD, List.getElem?_eq_getElem (show j < m.length by omega)]; simp)
          rw [e, tail_pair m j (by omega)]
          exact ⟨_, num_hex2 hr.1 (by omega)⟩
        rcases hq : numO (((sB s).drop (2 * j)).take 2) 2 with _ | q
        · simp only [hq] at hnu
          have hno : ∀ m : List Int, (∀ x ∈ m, 0 ≤ x ∧ x ≤ 255) → sB s ≠ tailL m := fun m hm e => by
            obtain ⟨q, h⟩ := hpair m hm e
            rw [hq] at h; cases h
          have HNU := Lib.hid hnu
          have HNO := Lib.hid hno
          clear hnu hlr hpair hq hno
          go_wp2_with (go_at_call 29; refine (HNU.out _).mono ?_; rintro e w1 ⟨rfl, rfl⟩)
          exact bodyPost_ret (results_tmp2 rfl _ _ _) rfl (.inr ⟨HNO.out, rfl, hbel⟩)
        · simp only [hq, nOf, Option.getD_some, Option.isSome_some] at hnu
          obtain ⟨he, hq0, hq1⟩ := hex_num2 hlr hq
          have HNU := Lib.hid hnu
          have HE := Lib.hid he
          have hw8 := IntWalk.u8_in q (by omega)
          clear hnu hlr hpair hq he
          go_wp2_with (first
            | (go_at_call 29; refine (HNU.out _).mono ?_; rintro e w1 ⟨rfl, rfl⟩)
            | (at_builtin; refine wpList_byte rfl (.tmp 33) (.tmp 36) rfl Try.underlying25 byte_info rfl hown rfl (by omega) hbel.size ?_; intro v' w' hown' hb'))
          go_roundw
          case rel =>
            obtain ⟨hml, htk, hrg⟩ := HM.out
            refine ⟨j + 1, m ++ [q], by omega, ?_, Lib.hid ⟨by simp [hml], ?_, fun x hx => ?_⟩, hown', hbel.trans hb'⟩
            · congr 1 <;> omega
            · rw [show 2 * (j + 1) = 2 * j + 2 by omega, List.take_add, htk, HE.out, tailL_snoc]
            · simp only [List.mem_append, List.mem_singleton] at hx
              rcases hx with hx | rfl
              · exact hrg x hx
              · omega
          case measure => simp [intOf]; omega
      · obtain rfl : j = k := by omega
        obtain ⟨rfl, htk, hrg⟩ := HM.out
        rw [List.take_of_length_le (by rw [HLN.out]; omega)] at htk
        obtain ⟨A', c', rfl, hB, _⟩ := Byt.of_own hown hrg
        have HTK := Lib.hid htk
        have HRG := Lib.hid hrg
        clear htk hrg HM
        go_wp2_with fail
        exact bodyPost_ret (results_tmp2 rfl _ _ _) rfl (.inl ⟨m, A', c', HTK.out, HRG.out, rfl, hB, hbel⟩)
  · have hno : ∀ m : List Int, (∀ x ∈ m, 0 ≤ x ∧ x ≤ 255) → sB s ≠ tailL m := fun m _ e => by
      have := congrArg List.length e
      rw [tailL_len, hln] at this
      omega
    have HNO := Lib.hid hno
    clear hno
    go_enter Try.func36, Try.ntmps36
    go_wp2_with fail
    all_goals first
      | (exfalso; omega)
      | (exfalso; simp at *; omega)
      | exact bodyPost_ret (results_tmp2 rfl _ _ _) rfl (.inr ⟨HNO.out, rfl, Below.refl _ _⟩)
end Go.Proofs.Ytabakfhknkhdkaa
