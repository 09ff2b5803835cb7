/- FifoPlays, walked. -/
import Derived.Test.YtnhlmpomgbpoiaaQq
namespace Go.Proofs.Ytnhlmpomgbpoiaa
open Go.RowKit

/-- Between two deeds. -/
def PlR (w : World) (hr K : Nat) (lim : Int) (q i : Value) (wr : World) : Prop :=
  ∃ (j g : Nat) (V : List Int) (lost : Int) (A : Option Addr) (c : Nat) (Ar : Option Addr) (cr : Nat), j ≤ K ∧ i = .int .i64 j ∧ q = .pointer (some ⟨g, 0, none⟩) ∧ 0 ≤ lost ∧ lost ≤ 10 * j ∧ Pl w wr hr g lim V lost A c Ar cr
theorem clampL_lim {k : Int} (h : 0 ≤ k ∧ k ≤ 65536) : clampL k = k := by unfold clampL; rw [if_neg (by omega), if_neg (by omega)]

set_option maxRecDepth 100000 in
set_option maxHeartbeats 8000000 in
theorem fifoPlays_walk (limit : Int) (A0 : Option Addr) (n c0 : Nat) (ds : Nat → DeedV) (w : World) (hlim : -9223372036854775808 ≤ limit ∧ limit ≤ 9223372036854775807) (h : Deeds w w.heap.size A0 n c0 ds) :
    Calls Try.prog 3 #[.int .i64 limit, .slice A0 n c0] w fun e w' => e = .returned (.bool true) ∧ Below w.heap.size w w' := by
  have hcap := h.cap
  have hmax := h.max
  simp only [maxLen] at hmax
  obtain ⟨K, hK⟩ : ∃ K : Nat, (K = n ∧ n ≤ 60) ∨ (K = 60 ∧ 60 < n) := by
    rcases Nat.lt_or_ge 60 n with h | h
    · exact ⟨60, .inr ⟨rfl, h⟩⟩
    · exact ⟨n, .inl ⟨rfl, h⟩⟩
  have hKn : K ≤ n ∧ K ≤ 60 := by omega
  have HDS := Lib.hid h
  have HK := Lib.hid hK
  have hcl := clampL_in limit
  obtain ⟨hK1, hK2⟩ := hKn
  clear h hK
  go_enter Try.func3, Try.ntmps3
  go_wp2_with fail
  refine (new_any limit w hlim).mono ?_
  rintro e w1 ⟨rfl, hq1, hw1⟩
  have hb1 : Below w.heap.size w w1 := by rw [hw1]; exact (Below.refl _ _).alloc (Nat.le_refl _) _
  clear hw1
  go_wp2_with fail
  refine (dnew_any limit w1).mono ?_
  rintro e w2 ⟨rfl, hb2⟩
  generalize clampL limit = lim at hq1 hcl ⊢
  have hb12 := hb1.trans (hb2.mono hb1.size)
  have hq2 := (hq1.below hb2).less (base' := w.heap.size) (by omega)
  have hs2 : w.heap.size < w2.heap.size := hq2.lt
  have hal : Below w2.heap.size w2 (w2.alloc (.cells #[.slice none 0 0, .int .i64 lim, .int .i64 0] 27)) := (Below.refl _ _).alloc (Nat.le_refl _) _
  have hpl : Pl w (w2.alloc (.cells #[.slice none 0 0, .int .i64 lim, .int .i64 0] 27)) w2.heap.size w.heap.size lim [] 0 none 0 none 0 :=
    ⟨hq2.below hal, heap_alloc_new w2 _, Nums.nil_ _ _, fun h0 => absurd h0 (by simp), by omega, by simp [blk], Nat.le_refl _, by omega, hb12.trans (hal.mono (by omega))⟩
  have HPL := Lib.hid hpl
  obtain ⟨hr, hhr⟩ : ∃ hr, w2.heap.size = hr := ⟨_, rfl⟩
  clear hq1 hb1 hb2 hb12 hq2 hal hpl
  go_wp2_with fail
  rw [hhr] at HPL
  clear hhr hs2
  go_loopw [5, 7] (PlR w hr K lim) (fun _ i _ => K - (intOf i).toNat)
  case atStart => exact ⟨0, _, [], 0, none, 0, none, 0, Nat.zero_le _, rfl, rfl, Int.le_refl _, by simp, HPL.out⟩
  case round =>
    obtain ⟨j, g, V, lost, A, c, Ar, cr, hj, rfl, rfl, hl0, hl1, hP⟩ := hrel
    by_cases hlt : j < K
    · have hlt' : j < n := by omega
      obtain ⟨b, off, rfl, hbb, hcl'⟩ := HDS.out.cells (by omega)
      have hf := (hcl' j hlt').below hbb hP.bel
      have hx0 := (hcl' j hlt').nums
      have ck := hf.ck
      have cl := hf.cl
      have cn := hf.cn
      have hrn := hf.rn
      generalize ds j = f at hf hx0 ck cl cn hrn
      obtain ⟨k, dA, dm, dc, dl, dn⟩ := f
      simp only at hx0 ck cl cn hrn
      rw [Nat.mul_comm] at ck cl cn
      have hdc := hx0.cap
      have hdm := hx0.max
      simp only [maxLen] at hdm
      have hal : Below wr.heap.size wr (wr.alloc (.cells #[.int .i64 k, .slice dA dm dc, .int .i64 dn] 30)) := (Below.refl _ _).alloc (Nat.le_refl _) _
      have hP4 := hP.step hal
      have hjn : (j : Int) < (n : Int) := by omega
      have hj60 : (j : Int) < 60 := by omega
      have hj0 : (0 : Int) ≤ (j : Int) := by omega
      have hfit := hP.q.fits
      have hlims := hP.q.lims
      obtain ⟨r, hrr⟩ : ∃ r : Nat, lim - (V.length : Int) = r := ⟨(lim - (V.length : Int)).toNat, by omega⟩
      have HP4 := Lib.hid hP4
      have HX0 := Lib.hid hx0
      have HRR := Lib.hid hrr
      clear hf hcl' hx0 hP hP4 hal hrr
      by_cases k0 : k = 0
      · subst k0
        obtain ⟨p, hp⟩ : ∃ p : Nat, (p = dm ∧ dm ≤ 10) ∨ (p = 10 ∧ 10 < dm) := by
          rcases Nat.lt_or_ge 10 dm with h | h
          · exact ⟨10, .inr ⟨rfl, h⟩⟩
          · exact ⟨dm, .inl ⟨rfl, h⟩⟩
        have hpm : p ≤ dm ∧ p ≤ 10 := by omega
        have hX := HX0.out.take hpm.1
        generalize dl.take p = x at hX
        have HX := Lib.hid hX
        have HXL := Lib.hid hX.len
        clear hX hpm
        rcases hp with ⟨rfl, h10⟩ | ⟨rfl, h10⟩
        · skip
          have hput := put_any (wr.alloc (.cells #[.int .i64 0, .slice dA p dc, .int .i64 dn] 30)) g w.heap.size V.length c p dc lim lost (ints V) (ints x) A dA HP4.out.q HP4.out.bel.size (fun k hk => by rw [← List.map_take]; exact Src.of_nums (HX.out.below HP4.out.bel) hk) (by omega) (by simp only [maxLen]; omega) (by omega)
          have HPUT := Lib.hid hput
          clear hput
          go_wp2_with fail
          refine HPUT.out.mono ?_
          rintro e w5 ⟨k0, A5, c5, rfl, hk, hq5, ht5, hn5⟩
          have hk0 : k0 = min p r := by have := HRR.out; omega
          obtain ⟨hd5, hr5, hb5⟩ := HP4.out.ref ht5
          have hlk : (List.take k0 x).length = k0 := by rw [List.length_take, HXL.out]; omega
          rw [← List.map_take, ← List.map_append] at hq5
          have hq5' : Que w5 w.heap.size g lim (ints (V ++ List.take k0 x)) (lost + (((p : Nat) : Int) - (k0 : Int))) A5 (V ++ List.take k0 x).length c5 := by
            rw [List.length_append, hlk]; exact hq5
          have hdp := dput_any w5 Ar dA V.length cr p dc lim lost V x hr5 ((HX.out.below hb5).more hb5.size) HP4.out.q.lims HP4.out.q.fits (by omega) (by omega) r HRR.out
          rw [← hk0] at hdp
          obtain ⟨d0, d1, d2⟩ := hd5.cells
          have HDP := Lib.hid hdp
          have HD5 := Lib.hid hd5
          have HQ5 := Lib.hid hq5'
          have HT5 := Lib.hid ht5
          have HN5 := Lib.hid hn5
          have HLK := Lib.hid hlk
          have hk0p : k0 ≤ p := by omega
          clear hdp hd5 hq5 hq5' ht5 hn5 hlk hr5 hb5 hk hk0
          go_wp2_with fail
          refine HDP.out.mono ?_
          rintro e w6 ⟨A6, c6, rfl, hN6, hb6, hs6⟩
          have hd6 : DqAt w6 hr Ar V.length cr lim lost := HD5.out.keep (hb6.block _ HD5.out.lt)
          have hL2 : (V ++ List.take k0 x).length = V.length + k0 := by rw [List.length_append, HLK.out]
          have hq5 := HQ5.out
          generalize V ++ List.take k0 x = V2 at hN6 hL2 hq5
          have hN6' : Nums w6 w6.heap.size A6 V2.length c6 V2 := by rw [hL2]; exact hN6
          have hpz := HP4.out.next hq5 HT5.out (Nxt.weak HN5.out) hb6 hN6' (hs6.imp (fun h => ⟨h.2, fun h0 => by omega⟩) id)
          rw [hL2] at hpz
          have hpz' : Pl w (w6.setRow hr #[.slice A6 (V.length + k0) c6, .int .i64 lim, .int .i64 (lost + ((p : Int) - (k0 : Int)))]) hr g lim V2 (lost + ((p : Int) - (k0 : Int))) A5 c5 A6 c6 := hpz
          have HL2 := Lib.hid hL2
          clear hq5 hL2 HQ5
          have HPZ := Lib.hid hpz'
          have HD6 := Lib.hid hd6
          clear hN6 hN6' hs6 hd6 hpz hpz'
          obtain ⟨z0, z1, z2⟩ := HPZ.out.d.cells
          try simp only [List.length_nil] at z0
          go_wp2_with (first
            | (refine wpList_store_row rfl _ (.tmp 6) (.tmp 52) rfl hr _ rfl rfl _ _ HD6.out info_dq rfl (one_dq _ _ _ _ _) ?_)
            | (go_at_call 18; refine (callsIn_wide.1 (same_in _ _ _ _ _ _ _ _ _ _ _ HPZ.out.q HPZ.out.r (by omega))).mono ?_; rintro e w9 ⟨rfl, hb9⟩))
          go_roundw
          case rel => exact ⟨j + 1, _, _, _, _, _, _, _, by omega, by go_num, rfl, by omega, by push_cast; omega, HPZ.out.step hb9⟩
          case measure => simp [intOf]; omega
        · skip
          have hput := put_any (wr.alloc (.cells #[.int .i64 0, .slice dA dm dc, .int .i64 dn] 30)) g w.heap.size V.length c 10 dc lim lost (ints V) (ints x) A dA HP4.out.q HP4.out.bel.size (fun k hk => by rw [← List.map_take]; exact Src.of_nums (HX.out.below HP4.out.bel) hk) (by omega) (by simp only [maxLen]; omega) (by omega)
          have HPUT := Lib.hid hput
          clear hput
          go_wp2_with fail
          refine HPUT.out.mono ?_
          rintro e w5 ⟨k0, A5, c5, rfl, hk, hq5, ht5, hn5⟩
          have hk0 : k0 = min 10 r := by have := HRR.out; omega
          obtain ⟨hd5, hr5, hb5⟩ := HP4.out.ref ht5
          have hlk : (List.take k0 x).length = k0 := by rw [List.length_take, HXL.out]; omega
          rw [← List.map_take, ← List.map_append] at hq5
          have hq5' : Que w5 w.heap.size g lim (ints (V ++ List.take k0 x)) (lost + (((10 : Nat) : Int) - (k0 : Int))) A5 (V ++ List.take k0 x).length c5 := by
            rw [List.length_append, hlk]; exact hq5
          have hdp := dput_any w5 Ar dA V.length cr 10 dc lim lost V x hr5 ((HX.out.below hb5).more hb5.size) HP4.out.q.lims HP4.out.q.fits (by omega) (by omega) r HRR.out
          rw [← hk0] at hdp
          obtain ⟨d0, d1, d2⟩ := hd5.cells
          have HDP := Lib.hid hdp
          have HD5 := Lib.hid hd5
          have HQ5 := Lib.hid hq5'
          have HT5 := Lib.hid ht5
          have HN5 := Lib.hid hn5
          have HLK := Lib.hid hlk
          have hk0p : k0 ≤ 10 := by omega
          clear hdp hd5 hq5 hq5' ht5 hn5 hlk hr5 hb5 hk hk0
          go_wp2_with fail
          refine HDP.out.mono ?_
          rintro e w6 ⟨A6, c6, rfl, hN6, hb6, hs6⟩
          have hd6 : DqAt w6 hr Ar V.length cr lim lost := HD5.out.keep (hb6.block _ HD5.out.lt)
          have hL2 : (V ++ List.take k0 x).length = V.length + k0 := by rw [List.length_append, HLK.out]
          have hq5 := HQ5.out
          generalize V ++ List.take k0 x = V2 at hN6 hL2 hq5
          have hN6' : Nums w6 w6.heap.size A6 V2.length c6 V2 := by rw [hL2]; exact hN6
          have hpz := HP4.out.next hq5 HT5.out (Nxt.weak HN5.out) hb6 hN6' (hs6.imp (fun h => ⟨h.2, fun h0 => by omega⟩) id)
          rw [hL2] at hpz
          have hpz' : Pl w (w6.setRow hr #[.slice A6 (V.length + k0) c6, .int .i64 lim, .int .i64 (lost + ((10 : Int) - (k0 : Int)))]) hr g lim V2 (lost + ((10 : Int) - (k0 : Int))) A5 c5 A6 c6 := hpz
          have HL2 := Lib.hid hL2
          clear hq5 hL2 HQ5
          have HPZ := Lib.hid hpz'
          have HD6 := Lib.hid hd6
          clear hN6 hN6' hs6 hd6 hpz hpz'
          obtain ⟨z0, z1, z2⟩ := HPZ.out.d.cells
          try simp only [List.length_nil] at z0
          go_wp2_with (first
            | (refine wpList_store_row rfl _ (.tmp 6) (.tmp 52) rfl hr _ rfl rfl _ _ HD6.out info_dq rfl (one_dq _ _ _ _ _) ?_)
            | (go_at_call 18; refine (callsIn_wide.1 (same_in _ _ _ _ _ _ _ _ _ _ _ HPZ.out.q HPZ.out.r (by omega))).mono ?_; rintro e w9 ⟨rfl, hb9⟩))
          go_roundw
          case rel => exact ⟨j + 1, _, _, _, _, _, _, _, by omega, by go_num, rfl, by omega, by push_cast; omega, HPZ.out.step hb9⟩
          case measure => simp [intOf]; omega
      · by_cases k1 : k = 1
        · subst k1
          cases V with
          | nil =>
            have htk := take_none _ _ _ _ _ _ _ HP4.out.q
            have HTK := Lib.hid htk
            obtain ⟨d0, d1, d2⟩ := HP4.out.d.cells
            clear htk
            go_wp2_with (go_at_call 11; refine HTK.out.mono ?_; rintro e w' ⟨rfl, rfl⟩)
            refine (dtake_none _ Ar cr lim lost).mono ?_
            rintro e w6 ⟨rfl, hb6⟩
            have hd6 : DqAt w6 hr Ar 0 cr lim lost := HP4.out.d.keep (hb6.block _ HP4.out.d.lt)
            have hpz := HP4.out.next HP4.out.q (Tch.refl _ _ _) (fun b hb => .inl hb) hb6 (HP4.out.r.step hb6) (.inl ⟨rfl, id⟩)
            simp only [List.length_nil] at hpz
            have HPZ := Lib.hid hpz
            have HD6 := Lib.hid hd6
            clear hd6 hpz d0 d1 d2
            obtain ⟨z0, z1, z2⟩ := HPZ.out.d.cells
            try simp only [List.length_nil] at z0
            go_wp2_with (first
              | (refine wpList_store_row rfl _ (.tmp 6) (.tmp 64) rfl hr _ rfl rfl _ _ HD6.out info_dq rfl (one_dq _ _ _ _ _) ?_)
              | (go_at_call 18; refine (callsIn_wide.1 (same_in _ _ _ _ _ _ _ _ _ _ _ HPZ.out.q HPZ.out.r (by omega))).mono ?_; rintro e w9 ⟨rfl, hb9⟩))
            go_roundw
            case rel => exact ⟨j + 1, _, _, _, _, _, _, _, by omega, by go_num, rfl, by omega, by push_cast; omega, HPZ.out.step hb9⟩
            case measure => simp [intOf]; omega
          | cons v V' =>
            have htk := take_some _ _ _ _ _ _ _ _ _ _ HP4.out.q
            have HTK := Lib.hid htk
            clear htk
            go_wp2_with fail
            refine HTK.out.mono ?_
            rintro e w5 ⟨rfl, A5, c5, hq5, ht5, hA5⟩
            obtain ⟨hd5, hr5, hb5⟩ := HP4.out.ref ht5
            obtain ⟨d0, d1, d2⟩ := hd5.cells
            have hdt := dtake_some w5 Ar V'.length cr lim lost v V' hr5
            have HDT := Lib.hid hdt
            have HQ5 := Lib.hid hq5
            have HT5 := Lib.hid ht5
            have HD5 := Lib.hid hd5
            have HA5 := Lib.hid hA5
            clear hdt hq5 ht5 hd5 hr5 hb5 hA5
            go_wp2_with fail
            refine HDT.out.mono ?_
            rintro e w6 ⟨A6, c6, hA6, rfl, hN6, hb6⟩
            have hd6 : DqAt w6 hr Ar (V'.length + 1) cr lim lost := HD5.out.keep (hb6.block _ HD5.out.lt)
            have hpz := HP4.out.next HQ5.out HT5.out (fun b hb => .inl (HA5.out ▸ hb)) hb6 hN6 (.inl ⟨hA6, fun _ => by simp⟩)
            have HPZ := Lib.hid hpz
            have HD6 := Lib.hid hd6
            clear hd6 hpz hN6 hA6 d0 d1 d2
            obtain ⟨z0, z1, z2⟩ := HPZ.out.d.cells
            try simp only [List.length_nil] at z0
            go_wp2_with (first
              | (refine wpList_store_row rfl _ (.tmp 6) (.tmp 64) rfl hr _ rfl rfl _ _ HD6.out info_dq rfl (one_dq _ _ _ _ _) ?_)
              | (go_at_call 18; refine (callsIn_wide.1 (same_in _ _ _ _ _ _ _ _ _ _ _ HPZ.out.q HPZ.out.r (by omega))).mono ?_; rintro e w9 ⟨rfl, hb9⟩))
            go_roundw
            case rel => exact ⟨j + 1, _, _, _, _, _, _, _, by omega, by go_num, rfl, by omega, by push_cast; omega, HPZ.out.step hb9⟩
            case measure => simp [intOf]; omega
        · by_cases k2 : k = 2
          · subst k2
            have hand := i64_and3 dn
            have hm4 : 0 ≤ dn % 4 ∧ dn % 4 ≤ 3 := by omega
            obtain ⟨hm4a, hm4b⟩ := hm4
            have hal5 : Below (wr.alloc (.cells #[.int .i64 2, .slice dA dm dc, .int .i64 dn] 30)).heap.size (wr.alloc (.cells #[.int .i64 2, .slice dA dm dc, .int .i64 dn] 30)) ((wr.alloc (.cells #[.int .i64 2, .slice dA dm dc, .int .i64 dn] 30)).alloc (.cells #[.int .i64 (1 + dn % 4)] 3)) := (Below.refl _ _).alloc (Nat.le_refl _) _
            have hP5 := HP4.out.step hal5
            have hbx := heap_alloc_new (wr.alloc (.cells #[.int .i64 2, .slice dA dm dc, .int .i64 dn] 30)) (.cells #[.int .i64 (1 + dn % 4)] 3)
            rw [World.size_alloc] at hbx
            have hdr := drop_in ((wr.alloc (.cells #[.int .i64 2, .slice dA dm dc, .int .i64 dn] 30)).alloc (.cells #[.int .i64 (1 + dn % 4)] 3)) g w.heap.size V.length c (wr.heap.size + 1) lim lost (1 + dn % 4) V A hP5.q hbx (by omega) hP5.bel.size
            have hgw : g < wr.heap.size + 1 := by have := HP4.out.q.lt; simpa using this
            have HDR := Lib.hid hdr
            have HP5 := Lib.hid hP5
            have HBX := Lib.hid hbx
            clear hal5 hP5 hbx hdr
            go_wp2_with fail
            refine (callsIn_wide.1 HDR.out).mono ?_
            rintro e w6 ⟨A6, c6, rfl, hq6, ht6, hA6⟩
            obtain ⟨hd6, hr6, hb6⟩ := HP5.out.ref (ht6.weak A)
            obtain ⟨d0, d1, d2⟩ := hd6.cells
            have cby : w6.cell? ⟨wr.heap.size + 1, 0, none⟩ = some (.int .i64 (1 + dn % 4)) := by
              rw [cell_of_row _ _ _ _ _ _ ((ht6.block (wr.heap.size + 1) (by simp) (by omega) (by simp [blk])).trans HBX.out)]; rfl
            have hdd := ddrop_any w6 Ar V.length cr lim lost (1 + dn % 4) V hr6 (by omega) (by omega)
            have HDD := Lib.hid hdd
            have HD6' := Lib.hid hd6
            have HQ6 := Lib.hid hq6
            have HT6 := Lib.hid ht6
            have HA6 := Lib.hid hA6
            have hdl := dropL_len (1 + dn % 4) V
            clear hd6 hr6 hb6 hdd hq6 ht6 hA6
            go_wp2_with fail
            refine HDD.out.mono ?_
            rintro e w7 ⟨A7, c7, rfl, hN7, hb7, hs7⟩
            have hd7 : DqAt w7 hr Ar V.length cr lim lost := HD6'.out.keep (hb7.block _ HD6'.out.lt)
            have hpz := HP5.out.next HQ6.out (HT6.out.weak A) (fun b hb => .inr (HA6.out b hb)) hb7 hN7 (.inr hs7)
            have HPZ := Lib.hid hpz
            have HD6 := Lib.hid hd7
            clear hd7 hpz hN7 hs7 d0 d1 d2 cby
            obtain ⟨z0, z1, z2⟩ := HPZ.out.d.cells
            try simp only [List.length_nil] at z0
            go_wp2_with (first
              | (refine wpList_store_row rfl _ (.tmp 6) (.tmp 80) rfl hr _ rfl rfl _ _ HD6.out info_dq rfl (one_dq _ _ _ _ _) ?_)
              | (go_at_call 18; refine (callsIn_wide.1 (same_in _ _ _ _ _ _ _ _ _ _ _ HPZ.out.q HPZ.out.r (by omega))).mono ?_; rintro e w9 ⟨rfl, hb9⟩))
            go_roundw
            case rel => exact ⟨j + 1, _, _, _, _, _, _, _, by omega, by go_num, rfl, by omega, by push_cast; omega, HPZ.out.step hb9⟩
            case measure => simp [intOf]; omega
          · by_cases k3 : k = 3
            · subst k3
              have hcl3 := clear_any _ _ _ _ _ _ _ _ _ HP4.out.q
              have HCL := Lib.hid hcl3
              clear hcl3
              go_wp2_with fail
              refine HCL.out.mono ?_
              rintro e w5 ⟨rfl, hq5, ht5⟩
              obtain ⟨hd5, hr5, hb5⟩ := HP4.out.ref (ht5.weak A)
              obtain ⟨d0, d1, d2⟩ := hd5.cells
              have hdn := dnew_any lim w5
              rw [clampL_lim hlims] at hdn
              have HDN := Lib.hid hdn
              have HQ5 := Lib.hid hq5
              have HT5 := Lib.hid ht5
              have HD5 := Lib.hid hd5
              clear hdn hq5 ht5 hd5 hr5 hb5
              go_wp2_with fail
              refine HDN.out.mono ?_
              rintro e w6 ⟨rfl, hb6⟩
              have hd6 : DqAt w6 hr Ar V.length cr lim lost := HD5.out.keep (hb6.block _ HD5.out.lt)
              have hpz := HP4.out.next (V' := []) (Ar' := none) (cr' := 0) HQ5.out (HT5.out.weak A) (fun b hb => by simp [blk] at hb) hb6 (Nums.nil_ _ _) (.inr fun b hb => by simp [blk] at hb)
              simp only [List.length_nil] at hpz
              have HPZ := Lib.hid hpz
              have HD6 := Lib.hid hd6
              clear hd6 hpz d0 d1 d2
              obtain ⟨z0, z1, z2⟩ := HPZ.out.d.cells
              try simp only [List.length_nil] at z0
              go_wp2_with (first
                | (refine wpList_store_row rfl _ (.tmp 6) (.tmp 88) rfl hr _ rfl rfl _ _ HD6.out info_dq rfl (one_dq _ _ _ _ _) ?_)
                | (go_at_call 18; refine (callsIn_wide.1 (same_in _ _ _ _ _ _ _ _ _ _ _ HPZ.out.q HPZ.out.r (by omega))).mono ?_; rintro e w9 ⟨rfl, hb9⟩))
              go_roundw
              case rel => exact ⟨j + 1, _, _, _, _, _, _, _, by omega, by go_num, rfl, by omega, by push_cast; omega, HPZ.out.step hb9⟩
              case measure => simp [intOf]; omega
            · by_cases k4 : k = 4
              · subst k4
                have hfk := fork_any _ _ _ _ _ _ _ _ _ HP4.out.q
                have HFK := Lib.hid hfk
                clear hfk
                go_wp2_with fail
                refine HFK.out.mono ?_
                rintro e w5 ⟨g5, A5, c5, rfl, hq5, hg5, hb5⟩
                have hcl4 := clear_any _ _ _ _ _ _ _ _ _ (HP4.out.q.below hb5)
                have HCL := Lib.hid hcl4
                have HQ5 := Lib.hid hq5
                have HB5 := Lib.hid hb5
                have HG5 := Lib.hid hg5
                clear hcl4 hq5 hb5 hg5
                go_wp2_with fail
                refine HCL.out.mono ?_
                rintro e w6 ⟨rfl, hq6, ht6⟩
                have hal7 : Below w6.heap.size w6 (w6.alloc (.cells #[.int .i64 1, .int .i64 2, .int .i64 3] 3)) := (Below.refl _ _).alloc (Nat.le_refl _) _
                have hpt := put_any _ _ _ _ _ 3 3 _ _ _ _ _ _ (hq6.below hal7) (by have h1 := HP4.out.bel.size; have h2 := HB5.out.size; have h3 := ht6.size; have h4 := hal7.size; omega) (fun k hk => Src.lit w6 3 [.int .i64 1, .int .i64 2, .int .i64 3] (by simp [Value.oneCell']) k hk) (Nat.le_refl _) (by simp [maxLen]) (by omega)
                have HPT := Lib.hid hpt
                have HT6 := Lib.hid ht6
                have HAL7 := Lib.hid hal7
                clear hpt ht6 hal7 hq6
                go_wp2_with fail
                refine HPT.out.mono ?_
                rintro e w8 ⟨k8, A8, c8, rfl, hk8, hq8, ht8, hn8⟩
                have HPZ := Lib.hid (HP4.out.forked HQ5.out HG5.out HB5.out HT6.out HAL7.out ht8)
                clear hk8 hq8 ht8 hn8
                obtain ⟨z0, z1, z2⟩ := HPZ.out.d.cells
                try simp only [List.length_nil] at z0
                go_wp2_with (first
                  | (go_at_call 18; refine (callsIn_wide.1 (same_in _ _ _ _ _ _ _ _ _ _ _ HPZ.out.q HPZ.out.r (by omega))).mono ?_; rintro e w9 ⟨rfl, hb9⟩))
                go_roundw
                case rel => exact ⟨j + 1, _, _, _, _, _, _, _, by omega, by go_num, rfl, by omega, by push_cast; omega, HPZ.out.step hb9⟩
                case measure => simp [intOf]; omega
              · have t0 : (k == 0) = false := by simp [k0]
                have t1 : (k == 1) = false := by simp [k1]
                have t2 : (k == 2) = false := by simp [k2]
                have t3 : (k == 3) = false := by simp [k3]
                have t4 : (k == 4) = false := by simp [k4]
                have HPZ := HP4
                clear k0 k1 k2 k3 k4
                obtain ⟨z0, z1, z2⟩ := HPZ.out.d.cells
                try simp only [List.length_nil] at z0
                go_wp2_with (first
                  | (go_at_call 18; refine (callsIn_wide.1 (same_in _ _ _ _ _ _ _ _ _ _ _ HPZ.out.q HPZ.out.r (by omega))).mono ?_; rintro e w9 ⟨rfl, hb9⟩))
                go_roundw
                case rel => exact ⟨j + 1, _, _, _, _, _, _, _, by omega, by go_num, rfl, by omega, by push_cast; omega, HPZ.out.step hb9⟩
                case measure => simp [intOf]; omega
    · have HP := Lib.hid hP
      have hcs : ((n : Int) ≤ (j : Int)) ∨ ((j : Int) < (n : Int) ∧ (60 : Int) ≤ (j : Int)) := by have := HK.out; omega
      clear hP
      rcases hcs with hcs | ⟨hcs, hcs2⟩
      all_goals
        go_wp2_with fail
        refine (live7_any _).mono ?_
        rintro e w9 ⟨rfl, hb9⟩
        go_wp2_with fail
        go_ret
        exact ⟨rfl, HP.out.bel.trans (hb9.mono HP.out.bel.size)⟩
end Go.Proofs.Ytnhlmpomgbpoiaa
