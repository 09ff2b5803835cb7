/- What Encode, Length and Worst answer. -/
import Derived.Test.YtkgnhmddnfmhjaaWireB
namespace Go.Proofs.Ytkgnhmddnfmhjaa
open Go.RowKit

theorem stuff_own (w : World) (A : Option Addr) (n c : Nat) (l : List Int) (h : Byt w w.heap.size A n c l) (hn : n ≤ 140737488351232) :
    Calls Try.prog 17 #[.slice A n c] w fun e w' => ∃ v', e = .returned v' ∧ w'.ownsRow w.heap.size 5 1 v' (stuffL l).length ((stuffL l).map (Value.int .u8)) ∧ Below w.heap.size w w' := by
  obtain ⟨cap, hcap, hcap2, hmk⟩ : ∃ cap : Nat, cap ≤ 281474976710656 ∧ 5 * n ≤ 4 * cap + 3 ∧ ∀ w : World, (Instr.makeSlice 25 (.int .i64 0) (.int .i64 ((n : Int) + (n : Int) / 4))).run Try.prog w = .ok (.slice (some ⟨w.heap.size, 0, none⟩) 0 cap) (w.alloc (.cells (madeCells #[.int .u8 0] cap) 5)) :=
    ⟨n + n / 4, by omega, by omega, fun w => by rw [show ((n : Int) + (n : Int) / 4) = ((n + n / 4 : Nat) : Int) by omega]; exact make_cap _ (by omega) w⟩
  go_enter Try.func17, Try.ntmps17
  go_wp2_with fail
  go_loopw [17, 3] (fun i v wr => ∃ (j : Nat) (out : List Int) (b : Int) (t : Nat), j ≤ n ∧ i = .int .i64 j ∧ v = .slice (some ⟨w.heap.size, 0, none⟩) out.length cap ∧ Hid (out = stuffL (l.take j)) ∧
    wr.ownsRow w.heap.size 5 1 (.slice (some ⟨w.heap.size, 0, none⟩) out.length cap) out.length (out.map (Value.int .u8)) ∧ St out b t ∧ TailAt wr (w.heap.size + 1) b t ∧ Below w.heap.size w wr) (fun i _ _ => n - (intOf i).toNat)
  case atStart =>
    refine ⟨0, [], 0, 0, Nat.zero_le _, rfl, rfl, rfl, ?_, St.nil, ?_, ((Below.refl _ _).alloc (Nat.le_refl _) _).alloc (by simp) _⟩
    · exact (World.ownsRow_made w _ cap (Nat.le_refl _) (by simp only [maxLen]; omega) (by rw [size_madeCells]; omega)).alloc _
    · show ((w.alloc _).alloc _).heap[w.heap.size + 1]? = _
      have := heap_alloc_new (w.alloc (.cells (madeCells #[.int .u8 0] cap) 5)) (.cells #[.int .u8 0, .int .i64 0] 50)
      simpa using this
  case round =>
    obtain ⟨j, out, b0, t, hj, rfl, rfl, hout, hown, hSt, hT, hbel⟩ := hrel
    by_cases hlt : j < n
    · obtain ⟨b, off, rfl, hb, hc⟩ := h.cells (by omega)
      have hrange := h.range j
      have hcj := hc j hlt
      have hget : l.take (j + 1) = l.take j ++ [l.getD j 0] := take_succ_getD (by rw [h.len]; exact hlt)
      generalize l.getD j 0 = q at hrange hcj hget
      have hcell : wr.cell? ⟨b, off + j, none⟩ = some (.int .u8 q) := (hbel.cell (p := ⟨b, off + j, none⟩) hb).trans hcj
      have hstep : stuffL (l.take (j + 1)) = stuffStep out q := by rw [hget, stuffL_snoc, ← hout.out]
      have hsz := stuff_size (l.take j)
      have hsz2 := stuff_size (l.take (j + 1))
      have hln : (l.take j).length = j := by rw [List.length_take, h.len]; omega
      have hln2 : (l.take (j + 1)).length = j + 1 := by rw [List.length_take, h.len]; omega
      rw [hln, ← hout.out] at hsz
      rw [hln2, hstep] at hsz2
      have htt := hSt.le
      have hs1 := hSt.step (q % 2)
      have ht5 : t ≤ 5 := by omega
      have hroom : out.length + 1 ≤ cap := by
        have : out.length + 1 ≤ (stuffStep out q).length := by unfold stuffStep; split <;> simp
        omega
      have HST := Lib.hid hstep
      have HC := Lib.hid hc
      have HH := Lib.hid h
      have HSt := Lib.hid hSt
      have HS1 := Lib.hid hs1
      have HT := Lib.hid hT
      have HTT := Lib.hid htt
      have HGET := Lib.hid hget
      obtain ⟨hq0, hq1⟩ := hrange
      by_cases h5 : nx b0 t (q % 2) = 5
      · have hroom2 : out.length + 1 + 1 ≤ cap := by
          have : (stuffStep out q).length = out.length + 1 + 1 := by unfold stuffStep; rw [if_pos (by rw [← hs1.1]; exact h5)]; simp
          omega
        have H5 := Lib.hid h5
        clear hcj hget hc h hstep hsz hsz2 hln hln2 hSt hs1 hT htt h5
        go_wp2_with (first | (go_at_call 24; refine (low_any _ _ (by omega) (by omega)).mono ?_; rintro e w1 ⟨rfl, rfl⟩) | (at_builtin; refine wpList_fits rfl (.tmp 23) (.tmp 25) rfl Try.underlying25 byte_info rfl hown rfl hroom ?_; intro w1 hown1 hg1))
        have hT1 := HT.out.grown hg1 (by simp)
        refine (add_any _ _ b0 t _ hT1 ht5).mono ?_
        rintro e w2 ⟨he, hT2, hg2⟩
        rw [decide_eq_true H5.out] at he
        subst he
        have hown2 := hown1.kept hg2 (.inr (by simp [Value.ownBlock]))
        have hbel2 := (hbel.grown hg1 hbel.size (fun k hk => by cases hk; omega)).grown hg2 (Nat.le_trans hbel.size hg1.size) (fun k hk => by cases hk; omega)
        go_wp2_with (at_builtin; refine wpList_fits rfl (.tmp 29) (.tmp 32) rfl Try.underlying25 byte_info rfl hown2 rfl hroom2 ?_; intro w3 hown3 hg3)
        have hT3 := hT2.grown hg3 (by simp)
        refine (add_any _ _ (q % 2) (nx b0 t (q % 2)) _ hT3 (by rw [H5.out]; omega)).mono ?_
        rintro e w4 ⟨rfl, hT4, hg4⟩
        have hown4 := hown3.kept hg4 (.inr (by simp [Value.ownBlock]))
        have hbel4 := (hbel2.grown hg3 hbel2.size (fun k hk => by cases hk; omega)).grown hg4 (Nat.le_trans hbel2.size hg3.size) (fun k hk => by cases hk; omega)
        go_wp2
        go_roundw
        case rel =>
          have e1 : stuffStep out q = out ++ [q % 2] ++ [1 - q % 2] := by unfold stuffStep; rw [if_pos (by rw [← HS1.out.1]; exact H5.out)]
          have e2 : (stuffStep out q).length = out.length + 1 + 1 := by rw [e1]; simp
          refine ⟨j + 1, stuffStep out q, _, _, by omega, by go_num, by rw [e2], HST.out.symm, by rw [e2, e1]; exact hown4, ?_, hT4, hbel4⟩
          rw [e1]
          exact (HS1.out.2.step _).2
        case measure => simp [intOf]; omega
      · have H5 := Lib.hid h5
        clear hcj hget hc h hstep hsz hsz2 hln hln2 hSt hs1 hT htt h5
        go_wp2_with (first | (go_at_call 24; refine (low_any _ _ (by omega) (by omega)).mono ?_; rintro e w1 ⟨rfl, rfl⟩) | (at_builtin; refine wpList_fits rfl (.tmp 23) (.tmp 25) rfl Try.underlying25 byte_info rfl hown rfl hroom ?_; intro w1 hown1 hg1))
        have hT1 := HT.out.grown hg1 (by simp)
        refine (add_any _ _ b0 t _ hT1 ht5).mono ?_
        rintro e w2 ⟨he, hT2, hg2⟩
        rw [decide_eq_false H5.out] at he
        subst he
        have hown2 := hown1.kept hg2 (.inr (by simp [Value.ownBlock]))
        have hbel2 := (hbel.grown hg1 hbel.size (fun k hk => by cases hk; omega)).grown hg2 (Nat.le_trans hbel.size hg1.size) (fun k hk => by cases hk; omega)
        go_wp2
        go_roundw
        case rel =>
          have e1 : stuffStep out q = out ++ [q % 2] := by unfold stuffStep; rw [if_neg (by rw [← HS1.out.1]; exact H5.out)]
          have e2 : (stuffStep out q).length = out.length + 1 := by rw [e1]; simp
          refine ⟨j + 1, stuffStep out q, _, _, by omega, by go_num, by rw [e2], HST.out.symm, by rw [e2, e1]; exact hown2, ?_, hT2, hbel2⟩
          rw [e1]
          exact HS1.out.2
        case measure => simp [intOf]; omega
    · obtain rfl : j = n := by omega
      have hl := h.len
      have e := hout.out
      rw [List.take_of_length_le (by omega)] at e
      subst e
      clear hl hcap2 hSt hout
      go_wp2
      go_ret
      exact ⟨_, rfl, hown, hbel⟩

theorem rstuff_own (w : World) (A : Option Addr) (n c : Nat) (l : List Int) (h : Byt w w.heap.size A n c l) (hn : n ≤ 1000000) :
    Calls Try.prog 19 #[.slice A n c] w fun e w' => ∃ v', e = .returned v' ∧ w'.ownsRow w.heap.size 5 1 v' (stuffL l).length ((stuffL l).map (Value.int .u8)) ∧ Below w.heap.size w w' := by
  go_enter Try.func19, Try.ntmps19
  go_wp2_with fail
  go_loopw [4, 3] (fun i v wr => ∃ (j : Nat) (out : List Int), j ≤ n ∧ i = .int .i64 j ∧ Hid (out = stuffL (l.take j)) ∧ wr.ownsRow w.heap.size 5 1 v out.length (out.map (Value.int .u8)) ∧ Below w.heap.size w wr) (fun i _ _ => n - (intOf i).toNat)
  case atStart => exact ⟨0, [], Nat.zero_le _, rfl, rfl, World.ownsRow_lit w #[] 0 (Nat.le_refl _) (by simp [maxLen]) rfl, (Below.refl _ _).alloc (Nat.le_refl _) _⟩
  case round =>
    obtain ⟨j, out, hj, rfl, hout, hown, hbel⟩ := hrel
    by_cases hlt : j < n
    · obtain ⟨b, off, rfl, hb, hc⟩ := h.cells (by omega)
      have hrange := h.range j
      have hcj := hc j hlt
      have hget : l.take (j + 1) = l.take j ++ [l.getD j 0] := take_succ_getD (by rw [h.len]; exact hlt)
      generalize l.getD j 0 = q at hrange hcj hget
      have hcell : wr.cell? ⟨b, off + j, none⟩ = some (.int .u8 q) := (hbel.cell (p := ⟨b, off + j, none⟩) hb).trans hcj
      have hstep : stuffL (l.take (j + 1)) = stuffStep out q := by rw [hget, stuffL_snoc, ← hout.out]
      have hsz := stuff_size (l.take j)
      have hln : (l.take j).length = j := by rw [List.length_take, h.len]; omega
      rw [hln, ← hout.out] at hsz
      have hol : out.length ≤ 2000000 := by omega
      have hob : ∀ y ∈ out, y = 0 ∨ y = 1 := by rw [hout.out]; exact stuff_bits _
      have hr1 : ∀ y ∈ out ++ [q % 2], 0 ≤ y ∧ y ≤ 255 := fun y hy => by
        simp only [List.mem_append, List.mem_singleton] at hy
        rcases hy with hy | hy
        · have := hob y hy; omega
        · omega
      have hr2 : ∀ y ∈ out ++ [q % 2] ++ [1 - q % 2], 0 ≤ y ∧ y ≤ 255 := fun y hy => by
        rw [List.mem_append] at hy
        rcases hy with hy | hy
        · exact hr1 y hy
        · simp only [List.mem_singleton] at hy; omega
      have HST := Lib.hid hstep
      have HH := Lib.hid h
      have HR1 := Lib.hid hr1
      have HR2 := Lib.hid hr2
      obtain ⟨hq0, hq1⟩ := hrange
      by_cases h5 : tailN (out ++ [q % 2]) = 5
      · have H5 := Lib.hid h5
        clear hcj hget hc h hstep hsz hln h5 hob hr1 hr2
        go_wp2_with (at_builtin; refine wpList_byteS rfl (.tmp 12) (.tmp 18) rfl Try.underlying25 byte_info rfl hown rfl (by omega) hbel.size HR1.out ?_; intro A1 c1 w1 hown1 hB1 hbel1)
        refine (tail_any _ _ _ _ _ hB1).mono ?_
        rintro e w2 ⟨he, hb2⟩
        rw [show ((tailN (out ++ [q % 2]) : Nat) : Int) = 5 by rw [H5.out]; rfl] at he
        subst he
        have hbel2 := (hbel.trans hbel1).trans (hb2.mono (Nat.le_trans hbel.size hbel1.size))
        have hcell2 : w2.cell? ⟨b, off + j, none⟩ = some (.int .u8 q) := (((hbel1.trans (hb2.mono (Nat.le_trans hbel.size hbel1.size))).cell (p := ⟨b, off + j, none⟩) hb)).trans hcell
        have hown2 := own_below hown1 hb2
        have hlen2 : out.length + 1 = (out ++ [q % 2]).length := by simp
        have HL2 := Lib.hid hlen2
        clear hlen2 hcell
        go_wp2_with (at_builtin; refine wpList_byteS rfl (.tmp 23) (.tmp 30) rfl Try.underlying25 byte_info rfl hown2 rfl (by omega) hbel2.size HR2.out ?_; intro A3 c3 w3 hown3 hB3 hbel3)
        go_roundw
        case rel =>
          have e1 : stuffStep out q = out ++ [q % 2] ++ [1 - q % 2] := by unfold stuffStep; rw [if_pos H5.out]
          have e2 : (stuffStep out q).length = out.length + 1 + 1 := by rw [e1]; simp
          exact ⟨j + 1, stuffStep out q, by omega, by go_num, HST.out.symm, by rw [e2, e1]; exact hown3, hbel2.trans hbel3⟩
        case measure => simp [intOf]; omega
      · have H5 := Lib.hid h5
        have hd : ((tailN (out ++ [q % 2]) : Int) == 5) = false := by simp; omega
        clear hcj hget hc h hstep hsz hln h5 hob hr1 hr2
        go_wp2_with (at_builtin; refine wpList_byteS rfl (.tmp 12) (.tmp 18) rfl Try.underlying25 byte_info rfl hown rfl (by omega) hbel.size HR1.out ?_; intro A1 c1 w1 hown1 hB1 hbel1)
        refine (tail_any _ _ _ _ _ hB1).mono ?_
        rintro e w2 ⟨rfl, hb2⟩
        have hbel2 := (hbel.trans hbel1).trans (hb2.mono (Nat.le_trans hbel.size hbel1.size))
        have hown2 := own_below hown1 hb2
        go_wp2
        go_roundw
        case rel =>
          have e1 : stuffStep out q = out ++ [q % 2] := by unfold stuffStep; rw [if_neg H5.out]
          have e2 : (stuffStep out q).length = out.length + 1 := by rw [e1]; simp
          exact ⟨j + 1, stuffStep out q, by omega, by go_num, HST.out.symm, by rw [e2, e1]; exact hown2, hbel2⟩
        case measure => simp [intOf]; omega
    · obtain rfl : j = n := by omega
      have hl := h.len
      have e := hout.out
      rw [List.take_of_length_le (by omega)] at e
      subst e
      clear hl hout
      go_wp2
      go_ret
      exact ⟨_, rfl, hown, hbel⟩


/-- A frame's bits. -/
def encL (i n : Int) (r : Bool) (lb : List Int) : List Int := stuffL (coreL i n r lb) ++ List.replicate 10 1
theorem enc_len (i n : Int) (r : Bool) (lb : List Int) : (encL i n r lb).length = (stuffL (coreL i n r lb)).length + 10 := by simp [encL]
theorem ones_range : ∀ x ∈ List.replicate 10 (1 : Int), 0 ≤ x ∧ x ≤ 255 := fun x hx => by have := List.eq_of_mem_replicate hx; omega
theorem enc_bits (i n : Int) (r : Bool) (lb : List Int) : ∀ x ∈ encL i n r lb, x = 0 ∨ x = 1 := by
  intro x hx
  simp only [encL, List.mem_append] at hx
  rcases hx with h | h
  · exact stuff_bits _ x h
  · exact .inr (List.eq_of_mem_replicate h)
theorem stuffed_le (i n : Int) (r : Bool) (d : Nat → Int) : (stuffL (coreL i n r (bOf i r n d))).length ≤ 200 := by
  have h1 := stuff_size (coreL i n r (bOf i r n d))
  have h2 := core_len i n r (bOf i r n d)
  have h3 := bof_le i n r d
  omega
theorem rep_snoc (j : Nat) : List.replicate (j + 1) (1 : Int) = List.replicate j 1 ++ [1] := List.replicate_succ'
theorem encode_no (i n : Int) (r : Bool) (d : Nat → Int) (w : World) (hc : ¬ chk i r n d = 0) :
    Calls Try.prog 6 #[.agg #[.int .i64 i, .bool r, .int .i64 n, .int .u8 (d 0), .int .u8 (d 1), .int .u8 (d 2), .int .u8 (d 3), .int .u8 (d 4), .int .u8 (d 5), .int .u8 (d 6), .int .u8 (d 7)]] w fun e w' => e = .returned (.tuple #[.slice none 0 0, .int .i64 (chk i r n d)]) ∧ Below w.heap.size w w' := by
  have hf := frame_new w i n r d
  have hb : Below w.heap.size w (w.alloc (.cells #[.int .i64 i, .bool r, .int .i64 n, .int .u8 (d 0), .int .u8 (d 1), .int .u8 (d 2), .int .u8 (d 3), .int .u8 (d 4), .int .u8 (d 5), .int .u8 (d 6), .int .u8 (d 7)] 24)) := (Below.refl _ _).alloc (Nat.le_refl _) _
  have hca := fun w => check_any i n r d w
  generalize chk i r n d = q at hca hc ⊢
  have HF := Lib.hid hf
  have HB := Lib.hid hb
  have HCA := Lib.hid hca
  clear hf hb hca
  go_enter Try.func6, Try.ntmps6
  obtain ⟨c0, c1, c2, c3, c4, c5, c6, c7, c8, c9, c10⟩ := HF.out.cells
  go_wp2_with (go_at_call 16; refine (HCA.out _).mono ?_; rintro e w1 ⟨rfl, hb1⟩; have hbw := HB.out.trans (hb1.mono HB.out.size); clear c0 c1 c2 c3 c4 c5 c6 c7 c8 c9 c10)
  all_goals first | (exfalso; omega) | exact bodyPost_ret (results_tmp2 rfl _ _ _) rfl ⟨rfl, hbw⟩
set_option maxHeartbeats 1000000 in
theorem encode_own (i n : Int) (r : Bool) (d : Nat → Int) (w : World) (hc : chk i r n d = 0) (hd : ∀ j, j < 8 → 0 ≤ d j ∧ d j ≤ 255) :
    Calls Try.prog 6 #[.agg #[.int .i64 i, .bool r, .int .i64 n, .int .u8 (d 0), .int .u8 (d 1), .int .u8 (d 2), .int .u8 (d 3), .int .u8 (d 4), .int .u8 (d 5), .int .u8 (d 6), .int .u8 (d 7)]] w fun e w' => ∃ v, e = .returned (.tuple #[v, .int .i64 0]) ∧ w'.ownsRow w.heap.size 5 1 v (encL i n r (bOf i r n d)).length ((encL i n r (bOf i r n d)).map (Value.int .u8)) ∧ Below w.heap.size w w' := by
  have hf := frame_new w i n r d
  have hb : Below w.heap.size w (w.alloc (.cells #[.int .i64 i, .bool r, .int .i64 n, .int .u8 (d 0), .int .u8 (d 1), .int .u8 (d 2), .int .u8 (d 3), .int .u8 (d 4), .int .u8 (d 5), .int .u8 (d 6), .int .u8 (d 7)] 24)) := (Below.refl _ _).alloc (Nat.le_refl _) _
  have hca := fun w => check_any i n r d w
  rw [hc] at hca
  have hco := fun w => core_any i n r d w (chk_id hc) (chk_len hc) hd
  have hle := stuffed_le i n r d
  have hcl := core_len i n r (bOf i r n d)
  have hbl := bof_le i n r d
  have hcb := core_bits i n r (bOf i r n d)
  have hen : encL i n r (bOf i r n d) = stuffL (coreL i n r (bOf i r n d)) ++ List.replicate 10 1 := rfl
  have hel := enc_len i n r (bOf i r n d)
  generalize encL i n r (bOf i r n d) = en at hen hel ⊢
  generalize coreL i n r (bOf i r n d) = co at hco hle hcl hcb hen hel
  have hst := fun (w : World) (A : Option Addr) (c : Nat) (h : Byt w w.heap.size A co.length c co) => stuff_own w A co.length c co h (by omega)
  generalize stuffL co = st at hle hst hen hel
  generalize hsl : st.length = sl at hle hst hel
  have HF := Lib.hid hf
  have HB := Lib.hid hb
  have HCA := Lib.hid hca
  have HCO := Lib.hid hco
  have HST := Lib.hid hst
  have HCB := Lib.hid (bits_range hcb)
  have HEN := Lib.hid hen
  have HEL := Lib.hid hel
  clear hf hb hca hco hst hcb hen hel hc hd hcl hbl hsl
  go_enter Try.func6, Try.ntmps6
  obtain ⟨c0, c1, c2, c3, c4, c5, c6, c7, c8, c9, c10⟩ := HF.out.cells
  go_wp2_with (first
    | (go_at_call 16; refine (HCA.out _).mono ?_; rintro e w1 ⟨rfl, hb1⟩; have hbw1 := HB.out.trans (hb1.mono HB.out.size); have hf1 := FrAt.below HF.out hb1 HF.out.lt; clear c0 c1 c2 c3 c4 c5 c6 c7 c8 c9 c10; obtain ⟨c0, c1, c2, c3, c4, c5, c6, c7, c8, c9, c10⟩ := hf1.cells; clear hf1 hb1)
    | (go_at_call 18; refine (HCO.out _).mono ?_; rintro e w2 ⟨v2, rfl, ho2, hb2⟩; clear c0 c1 c2 c3 c4 c5 c6 c7 c8 c9 c10; obtain ⟨A2, z2, rfl, hB2, _⟩ := Byt.of_own ho2 HCB.out; have hbw2 := hbw1.trans (hb2.mono hbw1.size); clear ho2 hb2)
    | (go_at_call 17; refine (HST.out _ _ _ hB2).mono ?_; rintro e w3 ⟨v3, rfl, ho3, hb3⟩; have hbw3 := hbw2.trans (hb3.mono hbw2.size); have ho4 := own_base ho3 hbw2.size; clear ho3 hb3 hB2))
  have HO4 := Lib.hid ho4
  have HB3 := Lib.hid hbw3
  clear hbw1 hbw2 hbw3 ho4
  go_loopw [14, 5] (fun x v wr => ∃ j : Nat, j ≤ 10 ∧ x = .int .i64 j ∧ wr.ownsRow w.heap.size 5 1 v (sl + j) ((st ++ List.replicate j 1).map (Value.int .u8)) ∧ Below w.heap.size w wr) (fun x _ _ => 10 - (intOf x).toNat)
  case atStart => exact ⟨0, Nat.zero_le _, rfl, by simpa using HO4.out, HB3.out⟩
  case round =>
    obtain ⟨j, hj, rfl, hown, hbel⟩ := hrel
    by_cases hlt : j < 10
    · go_wp2_with (at_builtin; refine wpList_byte rfl (.tmp 16) (.tmp 17) rfl Try.underlying25 byte_info rfl hown rfl (by omega) hbel.size ?_; intro v' w' hown' hb')
      go_roundw
      case rel => exact ⟨j + 1, by omega, by go_num, by rw [rep_snoc, ← List.append_assoc]; exact hown', hbel.trans hb'⟩
      case measure => simp [intOf]; omega
    · obtain rfl : j = 10 := by omega
      go_wp2
      exact bodyPost_ret (results_tmp2 rfl _ _ _) rfl ⟨_, rfl, by rw [HEL.out, HEN.out]; exact hown, hbel⟩
theorem encode_yes (i n : Int) (r : Bool) (d : Nat → Int) (w : World) (hc : chk i r n d = 0) (hd : ∀ j, j < 8 → 0 ≤ d j ∧ d j ≤ 255) :
    Calls Try.prog 6 #[.agg #[.int .i64 i, .bool r, .int .i64 n, .int .u8 (d 0), .int .u8 (d 1), .int .u8 (d 2), .int .u8 (d 3), .int .u8 (d 4), .int .u8 (d 5), .int .u8 (d 6), .int .u8 (d 7)]] w fun e w' => ∃ A c, e = .returned (.tuple #[.slice A (encL i n r (bOf i r n d)).length c, .int .i64 0]) ∧ Byt w' w'.heap.size A (encL i n r (bOf i r n d)).length c (encL i n r (bOf i r n d)) ∧ Below w.heap.size w w' :=
  (encode_own i n r d w hc hd).mono fun _ _ ⟨v, he, ho, hb⟩ => by
    obtain ⟨A, c, rfl, hB, _⟩ := Byt.of_own ho (bits_range (enc_bits _ _ _ _))
    exact ⟨A, c, he, hB, hb⟩
/-- How many bits a frame has. -/
def lenW (i n : Int) (r : Bool) (d : Nat → Int) : Nat := if chk i r n d = 0 then (encL i n r (bOf i r n d)).length else 0
theorem length_any (i n : Int) (r : Bool) (d : Nat → Int) (w : World) (hd : ∀ j, j < 8 → 0 ≤ d j ∧ d j ≤ 255) :
    Calls Try.prog 10 #[.agg #[.int .i64 i, .bool r, .int .i64 n, .int .u8 (d 0), .int .u8 (d 1), .int .u8 (d 2), .int .u8 (d 3), .int .u8 (d 4), .int .u8 (d 5), .int .u8 (d 6), .int .u8 (d 7)]] w fun e w' => e = .returned (.int .i64 (lenW i n r d)) ∧ Below w.heap.size w w' := by
  have hf := frame_new w i n r d
  have hb : Below w.heap.size w (w.alloc (.cells #[.int .i64 i, .bool r, .int .i64 n, .int .u8 (d 0), .int .u8 (d 1), .int .u8 (d 2), .int .u8 (d 3), .int .u8 (d 4), .int .u8 (d 5), .int .u8 (d 6), .int .u8 (d 7)] 24)) := (Below.refl _ _).alloc (Nat.le_refl _) _
  obtain ⟨q, hen⟩ : ∃ q : Int, ∀ w : World, Calls Try.prog 6 #[.agg #[.int .i64 i, .bool r, .int .i64 n, .int .u8 (d 0), .int .u8 (d 1), .int .u8 (d 2), .int .u8 (d 3), .int .u8 (d 4), .int .u8 (d 5), .int .u8 (d 6), .int .u8 (d 7)]] w fun e w' => ∃ A c, e = .returned (.tuple #[.slice A (lenW i n r d) c, .int .i64 q]) ∧ Below w.heap.size w w' := by
    by_cases hc : chk i r n d = 0
    · refine ⟨0, fun w => (encode_yes i n r d w hc hd).mono fun _ _ ⟨A, c, he, _, hb⟩ => ⟨A, c, ?_, hb⟩⟩
      rw [he]; unfold lenW; rw [if_pos hc]
    · refine ⟨chk i r n d, fun w => (encode_no i n r d w hc).mono fun _ _ ⟨he, hb⟩ => ⟨none, 0, ?_, hb⟩⟩
      rw [he]; unfold lenW; rw [if_neg hc]
  generalize lenW i n r d = m at hen ⊢
  have HF := Lib.hid hf
  have HB := Lib.hid hb
  have HE := Lib.hid hen
  clear hf hb hen hd
  go_enter Try.func10, Try.ntmps10
  obtain ⟨c0, c1, c2, c3, c4, c5, c6, c7, c8, c9, c10⟩ := HF.out.cells
  go_wp2_with (go_at_call 6; refine (HE.out _).mono ?_; rintro e w1 ⟨A, c, rfl, hb1⟩; have hbw := HB.out.trans (hb1.mono HB.out.size); clear c0 c1 c2 c3 c4 c5 c6 c7 c8 c9 c10)
  exact bodyPost_ret (results_tmp rfl _ _ _) rfl ⟨rfl, hbw⟩
/-- How many bits a frame of so many bytes has at most. -/
def worstN (n : Int) : Int := if 0 ≤ n ∧ n ≤ 8 then 8 * n + 44 + (8 * n + 33) / 4 else 0
theorem worst_any (n : Int) (w : World) :
    Calls Try.prog 7 #[.int .i64 n] w fun e w' => e = .returned (.int .i64 (worstN n)) ∧ w = w' := by
  by_cases h : 0 ≤ n ∧ n ≤ 8
  · obtain ⟨h0, h1⟩ := h
    have e : worstN n = 8 * n + 44 + (8 * n + 33) / 4 := if_pos ⟨h0, h1⟩
    rw [e]
    have g1 : (34 + 8 * n - 1).tdiv 4 = (8 * n + 33) / 4 := by rw [Int.tdiv_eq_ediv_of_nonneg (by omega)]; congr 1; omega
    have HG := Lib.hid g1
    clear g1 e
    go_enter Try.func7, Try.ntmps7
    go_wp2
    all_goals first
      | (exfalso; omega)
      | (refine bodyPost_ret (results_tmp rfl _ _ _) rfl ⟨?_, rfl⟩; refine ret_int ?_; omega)
  · have e : worstN n = 0 := if_neg h
    rw [e]
    go_enter Try.func7, Try.ntmps7
    go_wp2
    all_goals first
      | (exfalso; omega)
      | exact bodyPost_ret (results_tmp rfl _ _ _) rfl ⟨rfl, rfl⟩
end Go.Proofs.Ytkgnhmddnfmhjaa
