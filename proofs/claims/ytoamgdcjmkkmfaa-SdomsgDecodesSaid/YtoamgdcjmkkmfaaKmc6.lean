/- What the document's unused answers. -/
import Derived.Deep.CutBlock
import Derived.Test.YtoamgdcjmkkmfaaKmc
set_option linter.unusedSimpArgs false
set_option linter.unusedVariables false
namespace Go.Proofs.Ytoamgdcjmkkmfaa
open Go.RowKit
set_option maxHeartbeats 4000000
set_option maxRecDepth 100000 in
theorem unu_7 (ki ks : Int) (tg la fa su : Bool) (sz n d0 d1 d2 d3 d4 d5 d6 co sq bl sp cr : Int) (w : World) : Calls Try.prog 26 #[.agg #[.int .i64 7, .int .i64 ki, .int .i64 ks, .bool tg, .bool la, .bool fa, .bool su, .int .i64 sz, .int .i64 n, .int .u8 d0, .int .u8 d1, .int .u8 d2, .int .u8 d3, .int .u8 d4, .int .u8 d5, .int .u8 d6, .int .i64 co, .int .i64 sq, .int .i64 bl, .int .i64 sp, .int .i64 cr], .agg (rowX 7)] w fun e w' => e = .returned (.bool (unuE 7 ki ks tg la fa su sz n d0 d1 d2 d3 d4 d5 d6 co sq bl sp cr)) ∧ Below w.heap.size w w' := by
  have e : rowX 7 = #[.int .i64 163, .bool false, .bool false, .bool false, .bool false, .bool false, .bool false, .bool false, .bool false, .bool false, .bool false] := rfl
  rw [e]
  clear e
  · skip
    go_enter Try.func26, Try.ntmps26
    go_upto_region 3 with fail
    generalize hx0 : ((w.alloc (.cells #[.int .i64 7, .int .i64 ki, .int .i64 ks, .bool tg, .bool la, .bool fa, .bool su, .int .i64 sz, .int .i64 n, .int .u8 d0, .int .u8 d1, .int .u8 d2, .int .u8 d3, .int .u8 d4, .int .u8 d5, .int .u8 d6, .int .i64 co, .int .i64 sq, .int .i64 bl, .int .i64 sp, .int .i64 cr] 30)).alloc (.cells #[.int .i64 163, .bool false, .bool false, .bool false, .bool false, .bool false, .bool false, .bool false, .bool false, .bool false, .bool false] 41)).alloc (.cells #[.int .i64 0, .int .i64 0] 26) = x0 at *
    obtain ⟨hm0, hrw, k0, k1, hb0⟩ := us_start hx0
    have HM : Hid (MsAt x0 w.heap.size 7 ki ks tg la fa su sz n d0 d1 d2 d3 d4 d5 d6 co sq bl sp cr) := Lib.hid hm0
    have HB := Lib.hid hb0
    obtain ⟨m0, m1, m2, m3, m4, m5, m6, m7, m8, m16, m17, m18, m19, m20⟩ := ms_cells HM.out
    obtain ⟨r0, r1, r2, r3, r4, r5, r6, r7, r8, r9, r10⟩ := rw_cells hrw
    clear hrw hm0 hx0 hb0
    go_wp2_with fail
    all_goals first
      | (go_ret
         have hF : flatU 7 ki ks tg la fa su sz n co sq bl sp cr = false := by clear m0 m1 m2 m3 m4 m5 m6 m7 m8 m16 m17 m18 m19 m20 r0 r1 r2 r3 r4 r5 r6 r7 r8 r9 r10 k0 k1; simp_all [flatU, keyC, fastC]
         exact ⟨by first | (rw [unu_flat hF]; done) | (rw [unu_flat hF]; rfl), HB.out⟩)
      | skip
    have HFL : Hid (flatU 7 ki ks tg la fa su sz n co sq bl sp cr = true) := Lib.hid (by simp_all [flatU, keyC, fastC])
    clear m0 m1 m2 m3 m4 m5 m6 m7 m8 m16 m17 m18 m19 m20 r0 r1 r2 r3 r4 r5 r6 r7 r8 r9 r10 k0 k1
    go_loopw [7] (fun t wr => ∃ p : Nat, p ≤ 7 ∧ t = .int .i64 p ∧ Hid (dataP n (dL d0 d1 d2 d3 d4 d5 d6) p = true) ∧ Hid (MsAt wr w.heap.size 7 ki ks tg la fa su sz n d0 d1 d2 d3 d4 d5 d6 co sq bl sp cr) ∧ Hid (Below w.heap.size w wr)) (fun t _ => 7 - (intOf t).toNat)
    case atStart => exact ⟨0, by omega, rfl, Lib.hid rfl, HM, HB⟩
    case round =>
      clear HM HB
      obtain ⟨p, hp, rfl, HP, HM, HB⟩ := hrel
      have c8 : wr.cell? ⟨w.heap.size, 8, none⟩ = some (.int .i64 n) := HM.out.cell 8
      by_cases hlt : p < 7
      · have cd := ms_data HM.out p hlt
        have HS := Lib.hid (dataP_succ n (dL d0 d1 d2 d3 d4 d5 d6) p)
        have HZ := Lib.hid (fun h => unu_no (c := 7) (ki := ki) (ks := ks) (tg := tg) (la := la) (fa := fa) (su := su) (sz := sz) (n := n) (d0 := d0) (d1 := d1) (d2 := d2) (d3 := d3) (d4 := d4) (d5 := d5) (d6 := d6) (co := co) (sq := sq) (bl := bl) (sp := sp) (cr := cr) (p := p) h hlt)
        generalize (dL d0 d1 d2 d3 d4 d5 d6).getD p 0 = x at *
        by_cases hn : n ≤ (p : Int)
        · by_cases hx : x = 0
          · have HS1 : Hid (dataP n (dL d0 d1 d2 d3 d4 d5 d6) (p + 1) = true) := Lib.hid (by rw [HS.out, HP.out]; simp [hx])
            subst hx
            go_wp2_with fail
            all_goals exact ⟨⟨p + 1, by omega, by go_num, HS1, HM, HB⟩, by simp [intOf]; omega⟩
          · have HS1 : Hid (dataP n (dL d0 d1 d2 d3 d4 d5 d6) (p + 1) = false) := Lib.hid (by rw [HS.out, HP.out]; simp [hx, hn])
            have HU := Lib.hid (HZ.out HS1.out)
            go_wp2_with fail
            all_goals go_ret
            all_goals exact ⟨by first | (rw [HU.out]; done) | (rw [HU.out]; rfl), HB.out⟩
        · have HS1 : Hid (dataP n (dL d0 d1 d2 d3 d4 d5 d6) (p + 1) = true) := Lib.hid (by rw [HS.out, HP.out]; simp [hn])
          go_wp2_with fail
          all_goals exact ⟨⟨p + 1, by omega, by go_num, HS1, HM, HB⟩, by simp [intOf]; omega⟩
      · have HU : Hid (unuE 7 ki ks tg la fa su sz n d0 d1 d2 d3 d4 d5 d6 co sq bl sp cr = true) := Lib.hid (by
          have h7 : p = 7 := by omega
          unfold unuE
          rw [HFL.out]
          have := HP.out
          rw [h7] at this
          exact this)
        go_wp2_with fail
        all_goals go_ret
        all_goals exact ⟨by first | (rw [HU.out]; done) | (rw [HU.out]; rfl), HB.out⟩
set_option maxRecDepth 100000 in
theorem unu_8 (ki ks : Int) (tg la fa su : Bool) (sz n d0 d1 d2 d3 d4 d5 d6 co sq bl sp cr : Int) (w : World) : Calls Try.prog 26 #[.agg #[.int .i64 8, .int .i64 ki, .int .i64 ks, .bool tg, .bool la, .bool fa, .bool su, .int .i64 sz, .int .i64 n, .int .u8 d0, .int .u8 d1, .int .u8 d2, .int .u8 d3, .int .u8 d4, .int .u8 d5, .int .u8 d6, .int .i64 co, .int .i64 sq, .int .i64 bl, .int .i64 sp, .int .i64 cr], .agg (rowX 8)] w fun e w' => e = .returned (.bool (unuE 8 ki ks tg la fa su sz n d0 d1 d2 d3 d4 d5 d6 co sq bl sp cr)) ∧ Below w.heap.size w w' := by
  have e : rowX 8 = #[.int .i64 96, .bool true, .bool false, .bool false, .bool false, .bool false, .bool false, .bool false, .bool false, .bool false, .bool false] := rfl
  rw [e]
  clear e
  · skip
    go_enter Try.func26, Try.ntmps26
    go_upto_region 3 with fail
    generalize hx0 : ((w.alloc (.cells #[.int .i64 8, .int .i64 ki, .int .i64 ks, .bool tg, .bool la, .bool fa, .bool su, .int .i64 sz, .int .i64 n, .int .u8 d0, .int .u8 d1, .int .u8 d2, .int .u8 d3, .int .u8 d4, .int .u8 d5, .int .u8 d6, .int .i64 co, .int .i64 sq, .int .i64 bl, .int .i64 sp, .int .i64 cr] 30)).alloc (.cells #[.int .i64 96, .bool true, .bool false, .bool false, .bool false, .bool false, .bool false, .bool false, .bool false, .bool false, .bool false] 41)).alloc (.cells #[.int .i64 0, .int .i64 0] 26) = x0 at *
    obtain ⟨hm0, hrw, k0, k1, hb0⟩ := us_start hx0
    have HM : Hid (MsAt x0 w.heap.size 8 ki ks tg la fa su sz n d0 d1 d2 d3 d4 d5 d6 co sq bl sp cr) := Lib.hid hm0
    have HB := Lib.hid hb0
    obtain ⟨m0, m1, m2, m3, m4, m5, m6, m7, m8, m16, m17, m18, m19, m20⟩ := ms_cells HM.out
    obtain ⟨r0, r1, r2, r3, r4, r5, r6, r7, r8, r9, r10⟩ := rw_cells hrw
    clear hrw hm0 hx0 hb0
    go_wp2_with fail
    all_goals first
      | (go_ret
         have hF : flatU 8 ki ks tg la fa su sz n co sq bl sp cr = false := by clear m0 m1 m2 m3 m4 m5 m6 m7 m8 m16 m17 m18 m19 m20 r0 r1 r2 r3 r4 r5 r6 r7 r8 r9 r10 k0 k1; simp_all [flatU, keyC, fastC]
         exact ⟨by first | (rw [unu_flat hF]; done) | (rw [unu_flat hF]; rfl), HB.out⟩)
      | skip
    have HFL : Hid (flatU 8 ki ks tg la fa su sz n co sq bl sp cr = true) := Lib.hid (by simp_all [flatU, keyC, fastC])
    clear m0 m1 m2 m3 m4 m5 m6 m7 m8 m16 m17 m18 m19 m20 r0 r1 r2 r3 r4 r5 r6 r7 r8 r9 r10 k0 k1
    go_loopw [7] (fun t wr => ∃ p : Nat, p ≤ 7 ∧ t = .int .i64 p ∧ Hid (dataP n (dL d0 d1 d2 d3 d4 d5 d6) p = true) ∧ Hid (MsAt wr w.heap.size 8 ki ks tg la fa su sz n d0 d1 d2 d3 d4 d5 d6 co sq bl sp cr) ∧ Hid (Below w.heap.size w wr)) (fun t _ => 7 - (intOf t).toNat)
    case atStart => exact ⟨0, by omega, rfl, Lib.hid rfl, HM, HB⟩
    case round =>
      clear HM HB
      obtain ⟨p, hp, rfl, HP, HM, HB⟩ := hrel
      have c8 : wr.cell? ⟨w.heap.size, 8, none⟩ = some (.int .i64 n) := HM.out.cell 8
      by_cases hlt : p < 7
      · have cd := ms_data HM.out p hlt
        have HS := Lib.hid (dataP_succ n (dL d0 d1 d2 d3 d4 d5 d6) p)
        have HZ := Lib.hid (fun h => unu_no (c := 8) (ki := ki) (ks := ks) (tg := tg) (la := la) (fa := fa) (su := su) (sz := sz) (n := n) (d0 := d0) (d1 := d1) (d2 := d2) (d3 := d3) (d4 := d4) (d5 := d5) (d6 := d6) (co := co) (sq := sq) (bl := bl) (sp := sp) (cr := cr) (p := p) h hlt)
        generalize (dL d0 d1 d2 d3 d4 d5 d6).getD p 0 = x at *
        by_cases hn : n ≤ (p : Int)
        · by_cases hx : x = 0
          · have HS1 : Hid (dataP n (dL d0 d1 d2 d3 d4 d5 d6) (p + 1) = true) := Lib.hid (by rw [HS.out, HP.out]; simp [hx])
            subst hx
            go_wp2_with fail
            all_goals exact ⟨⟨p + 1, by omega, by go_num, HS1, HM, HB⟩, by simp [intOf]; omega⟩
          · have HS1 : Hid (dataP n (dL d0 d1 d2 d3 d4 d5 d6) (p + 1) = false) := Lib.hid (by rw [HS.out, HP.out]; simp [hx, hn])
            have HU := Lib.hid (HZ.out HS1.out)
            go_wp2_with fail
            all_goals go_ret
            all_goals exact ⟨by first | (rw [HU.out]; done) | (rw [HU.out]; rfl), HB.out⟩
        · have HS1 : Hid (dataP n (dL d0 d1 d2 d3 d4 d5 d6) (p + 1) = true) := Lib.hid (by rw [HS.out, HP.out]; simp [hn])
          go_wp2_with fail
          all_goals exact ⟨⟨p + 1, by omega, by go_num, HS1, HM, HB⟩, by simp [intOf]; omega⟩
      · have HU : Hid (unuE 8 ki ks tg la fa su sz n d0 d1 d2 d3 d4 d5 d6 co sq bl sp cr = true) := Lib.hid (by
          have h7 : p = 7 := by omega
          unfold unuE
          rw [HFL.out]
          have := HP.out
          rw [h7] at this
          exact this)
        go_wp2_with fail
        all_goals go_ret
        all_goals exact ⟨by first | (rw [HU.out]; done) | (rw [HU.out]; rfl), HB.out⟩
set_option maxRecDepth 100000 in
theorem unu_9 (ki ks : Int) (tg la fa su : Bool) (sz n d0 d1 d2 d3 d4 d5 d6 co sq bl sp cr : Int) (w : World) : Calls Try.prog 26 #[.agg #[.int .i64 9, .int .i64 ki, .int .i64 ks, .bool tg, .bool la, .bool fa, .bool su, .int .i64 sz, .int .i64 n, .int .u8 d0, .int .u8 d1, .int .u8 d2, .int .u8 d3, .int .u8 d4, .int .u8 d5, .int .u8 d6, .int .i64 co, .int .i64 sq, .int .i64 bl, .int .i64 sp, .int .i64 cr], .agg (rowX 9)] w fun e w' => e = .returned (.bool (unuE 9 ki ks tg la fa su sz n d0 d1 d2 d3 d4 d5 d6 co sq bl sp cr)) ∧ Below w.heap.size w w' := by
  have e : rowX 9 = #[.int .i64 32, .bool false, .bool true, .bool false, .bool false, .bool false, .bool false, .bool false, .bool false, .bool false, .bool false] := rfl
  rw [e]
  clear e
  · skip
    go_enter Try.func26, Try.ntmps26
    go_upto_region 3 with fail
    generalize hx0 : ((w.alloc (.cells #[.int .i64 9, .int .i64 ki, .int .i64 ks, .bool tg, .bool la, .bool fa, .bool su, .int .i64 sz, .int .i64 n, .int .u8 d0, .int .u8 d1, .int .u8 d2, .int .u8 d3, .int .u8 d4, .int .u8 d5, .int .u8 d6, .int .i64 co, .int .i64 sq, .int .i64 bl, .int .i64 sp, .int .i64 cr] 30)).alloc (.cells #[.int .i64 32, .bool false, .bool true, .bool false, .bool false, .bool false, .bool false, .bool false, .bool false, .bool false, .bool false] 41)).alloc (.cells #[.int .i64 0, .int .i64 0] 26) = x0 at *
    obtain ⟨hm0, hrw, k0, k1, hb0⟩ := us_start hx0
    have HM : Hid (MsAt x0 w.heap.size 9 ki ks tg la fa su sz n d0 d1 d2 d3 d4 d5 d6 co sq bl sp cr) := Lib.hid hm0
    have HB := Lib.hid hb0
    obtain ⟨m0, m1, m2, m3, m4, m5, m6, m7, m8, m16, m17, m18, m19, m20⟩ := ms_cells HM.out
    obtain ⟨r0, r1, r2, r3, r4, r5, r6, r7, r8, r9, r10⟩ := rw_cells hrw
    clear hrw hm0 hx0 hb0
    go_wp2_with fail
    all_goals first
      | (go_ret
         have hF : flatU 9 ki ks tg la fa su sz n co sq bl sp cr = false := by clear m0 m1 m2 m3 m4 m5 m6 m7 m8 m16 m17 m18 m19 m20 r0 r1 r2 r3 r4 r5 r6 r7 r8 r9 r10 k0 k1; simp_all [flatU, keyC, fastC]
         exact ⟨by first | (rw [unu_flat hF]; done) | (rw [unu_flat hF]; rfl), HB.out⟩)
      | skip
    have HFL : Hid (flatU 9 ki ks tg la fa su sz n co sq bl sp cr = true) := Lib.hid (by simp_all [flatU, keyC, fastC])
    clear m0 m1 m2 m3 m4 m5 m6 m7 m8 m16 m17 m18 m19 m20 r0 r1 r2 r3 r4 r5 r6 r7 r8 r9 r10 k0 k1
    go_loopw [7] (fun t wr => ∃ p : Nat, p ≤ 7 ∧ t = .int .i64 p ∧ Hid (dataP n (dL d0 d1 d2 d3 d4 d5 d6) p = true) ∧ Hid (MsAt wr w.heap.size 9 ki ks tg la fa su sz n d0 d1 d2 d3 d4 d5 d6 co sq bl sp cr) ∧ Hid (Below w.heap.size w wr)) (fun t _ => 7 - (intOf t).toNat)
    case atStart => exact ⟨0, by omega, rfl, Lib.hid rfl, HM, HB⟩
    case round =>
      clear HM HB
      obtain ⟨p, hp, rfl, HP, HM, HB⟩ := hrel
      have c8 : wr.cell? ⟨w.heap.size, 8, none⟩ = some (.int .i64 n) := HM.out.cell 8
      by_cases hlt : p < 7
      · have cd := ms_data HM.out p hlt
        have HS := Lib.hid (dataP_succ n (dL d0 d1 d2 d3 d4 d5 d6) p)
        have HZ := Lib.hid (fun h => unu_no (c := 9) (ki := ki) (ks := ks) (tg := tg) (la := la) (fa := fa) (su := su) (sz := sz) (n := n) (d0 := d0) (d1 := d1) (d2 := d2) (d3 := d3) (d4 := d4) (d5 := d5) (d6 := d6) (co := co) (sq := sq) (bl := bl) (sp := sp) (cr := cr) (p := p) h hlt)
        generalize (dL d0 d1 d2 d3 d4 d5 d6).getD p 0 = x at *
        by_cases hn : n ≤ (p : Int)
        · by_cases hx : x = 0
          · have HS1 : Hid (dataP n (dL d0 d1 d2 d3 d4 d5 d6) (p + 1) = true) := Lib.hid (by rw [HS.out, HP.out]; simp [hx])
            subst hx
            go_wp2_with fail
            all_goals exact ⟨⟨p + 1, by omega, by go_num, HS1, HM, HB⟩, by simp [intOf]; omega⟩
          · have HS1 : Hid (dataP n (dL d0 d1 d2 d3 d4 d5 d6) (p + 1) = false) := Lib.hid (by rw [HS.out, HP.out]; simp [hx, hn])
            have HU := Lib.hid (HZ.out HS1.out)
            go_wp2_with fail
            all_goals go_ret
            all_goals exact ⟨by first | (rw [HU.out]; done) | (rw [HU.out]; rfl), HB.out⟩
        · have HS1 : Hid (dataP n (dL d0 d1 d2 d3 d4 d5 d6) (p + 1) = true) := Lib.hid (by rw [HS.out, HP.out]; simp [hn])
          go_wp2_with fail
          all_goals exact ⟨⟨p + 1, by omega, by go_num, HS1, HM, HB⟩, by simp [intOf]; omega⟩
      · have HU : Hid (unuE 9 ki ks tg la fa su sz n d0 d1 d2 d3 d4 d5 d6 co sq bl sp cr = true) := Lib.hid (by
          have h7 : p = 7 := by omega
          unfold unuE
          rw [HFL.out]
          have := HP.out
          rw [h7] at this
          exact this)
        go_wp2_with fail
        all_goals go_ret
        all_goals exact ⟨by first | (rw [HU.out]; done) | (rw [HU.out]; rfl), HB.out⟩
end Go.Proofs.Ytoamgdcjmkkmfaa
namespace Go.Proofs.Ytoamgdcjmkkmfaa
open Go.RowKit
set_option maxHeartbeats 4000000
set_option maxRecDepth 100000 in
theorem unu_15 (ki ks : Int) (tg la fa su : Bool) (sz n d0 d1 d2 d3 d4 d5 d6 co sq bl sp cr : Int) (w : World) : Calls Try.prog 26 #[.agg #[.int .i64 15, .int .i64 ki, .int .i64 ks, .bool tg, .bool la, .bool fa, .bool su, .int .i64 sz, .int .i64 n, .int .u8 d0, .int .u8 d1, .int .u8 d2, .int .u8 d3, .int .u8 d4, .int .u8 d5, .int .u8 d6, .int .i64 co, .int .i64 sq, .int .i64 bl, .int .i64 sp, .int .i64 cr], .agg (rowX 15)] w fun e w' => e = .returned (.bool (unuE 15 ki ks tg la fa su sz n d0 d1 d2 d3 d4 d5 d6 co sq bl sp cr)) ∧ Below w.heap.size w w' := by
  have e : rowX 15 = #[.int .i64 162, .bool false, .bool false, .bool false, .bool false, .bool false, .bool false, .bool false, .bool false, .bool true, .bool false] := rfl
  rw [e]
  clear e
  · skip
    go_enter Try.func26, Try.ntmps26
    go_upto_region 3 with fail
    generalize hx0 : ((w.alloc (.cells #[.int .i64 15, .int .i64 ki, .int .i64 ks, .bool tg, .bool la, .bool fa, .bool su, .int .i64 sz, .int .i64 n, .int .u8 d0, .int .u8 d1, .int .u8 d2, .int .u8 d3, .int .u8 d4, .int .u8 d5, .int .u8 d6, .int .i64 co, .int .i64 sq, .int .i64 bl, .int .i64 sp, .int .i64 cr] 30)).alloc (.cells #[.int .i64 162, .bool false, .bool false, .bool false, .bool false, .bool false, .bool false, .bool false, .bool false, .bool true, .bool false] 41)).alloc (.cells #[.int .i64 0, .int .i64 0] 26) = x0 at *
    obtain ⟨hm0, hrw, k0, k1, hb0⟩ := us_start hx0
    have HM : Hid (MsAt x0 w.heap.size 15 ki ks tg la fa su sz n d0 d1 d2 d3 d4 d5 d6 co sq bl sp cr) := Lib.hid hm0
    have HB := Lib.hid hb0
    obtain ⟨m0, m1, m2, m3, m4, m5, m6, m7, m8, m16, m17, m18, m19, m20⟩ := ms_cells HM.out
    obtain ⟨r0, r1, r2, r3, r4, r5, r6, r7, r8, r9, r10⟩ := rw_cells hrw
    clear hrw hm0 hx0 hb0
    go_wp2_with fail
    all_goals first
      | (go_ret
         have hF : flatU 15 ki ks tg la fa su sz n co sq bl sp cr = false := by clear m0 m1 m2 m3 m4 m5 m6 m7 m8 m16 m17 m18 m19 m20 r0 r1 r2 r3 r4 r5 r6 r7 r8 r9 r10 k0 k1; simp_all [flatU, keyC, fastC]
         exact ⟨by first | (rw [unu_flat hF]; done) | (rw [unu_flat hF]; rfl), HB.out⟩)
      | skip
    have HFL : Hid (flatU 15 ki ks tg la fa su sz n co sq bl sp cr = true) := Lib.hid (by simp_all [flatU, keyC, fastC])
    clear m0 m1 m2 m3 m4 m5 m6 m7 m8 m16 m17 m18 m19 m20 r0 r1 r2 r3 r4 r5 r6 r7 r8 r9 r10 k0 k1
    go_loopw [7] (fun t wr => ∃ p : Nat, p ≤ 7 ∧ t = .int .i64 p ∧ Hid (dataP n (dL d0 d1 d2 d3 d4 d5 d6) p = true) ∧ Hid (MsAt wr w.heap.size 15 ki ks tg la fa su sz n d0 d1 d2 d3 d4 d5 d6 co sq bl sp cr) ∧ Hid (Below w.heap.size w wr)) (fun t _ => 7 - (intOf t).toNat)
    case atStart => exact ⟨0, by omega, rfl, Lib.hid rfl, HM, HB⟩
    case round =>
      clear HM HB
      obtain ⟨p, hp, rfl, HP, HM, HB⟩ := hrel
      have c8 : wr.cell? ⟨w.heap.size, 8, none⟩ = some (.int .i64 n) := HM.out.cell 8
      by_cases hlt : p < 7
      · have cd := ms_data HM.out p hlt
        have HS := Lib.hid (dataP_succ n (dL d0 d1 d2 d3 d4 d5 d6) p)
        have HZ := Lib.hid (fun h => unu_no (c := 15) (ki := ki) (ks := ks) (tg := tg) (la := la) (fa := fa) (su := su) (sz := sz) (n := n) (d0 := d0) (d1 := d1) (d2 := d2) (d3 := d3) (d4 := d4) (d5 := d5) (d6 := d6) (co := co) (sq := sq) (bl := bl) (sp := sp) (cr := cr) (p := p) h hlt)
        generalize (dL d0 d1 d2 d3 d4 d5 d6).getD p 0 = x at *
        by_cases hn : n ≤ (p : Int)
        · by_cases hx : x = 0
          · have HS1 : Hid (dataP n (dL d0 d1 d2 d3 d4 d5 d6) (p + 1) = true) := Lib.hid (by rw [HS.out, HP.out]; simp [hx])
            subst hx
            go_wp2_with fail
            all_goals exact ⟨⟨p + 1, by omega, by go_num, HS1, HM, HB⟩, by simp [intOf]; omega⟩
          · have HS1 : Hid (dataP n (dL d0 d1 d2 d3 d4 d5 d6) (p + 1) = false) := Lib.hid (by rw [HS.out, HP.out]; simp [hx, hn])
            have HU := Lib.hid (HZ.out HS1.out)
            go_wp2_with fail
            all_goals go_ret
            all_goals exact ⟨by first | (rw [HU.out]; done) | (rw [HU.out]; rfl), HB.out⟩
        · have HS1 : Hid (dataP n (dL d0 d1 d2 d3 d4 d5 d6) (p + 1) = true) := Lib.hid (by rw [HS.out, HP.out]; simp [hn])
          go_wp2_with fail
          all_goals exact ⟨⟨p + 1, by omega, by go_num, HS1, HM, HB⟩, by simp [intOf]; omega⟩
      · have HU : Hid (unuE 15 ki ks tg la fa su sz n d0 d1 d2 d3 d4 d5 d6 co sq bl sp cr = true) := Lib.hid (by
          have h7 : p = 7 := by omega
          unfold unuE
          rw [HFL.out]
          have := HP.out
          rw [h7] at this
          exact this)
        go_wp2_with fail
        all_goals go_ret
        all_goals exact ⟨by first | (rw [HU.out]; done) | (rw [HU.out]; rfl), HB.out⟩
set_option maxRecDepth 100000 in
theorem unu_16 (ki ks : Int) (tg la fa su : Bool) (sz n d0 d1 d2 d3 d4 d5 d6 co sq bl sp cr : Int) (w : World) : Calls Try.prog 26 #[.agg #[.int .i64 16, .int .i64 ki, .int .i64 ks, .bool tg, .bool la, .bool fa, .bool su, .int .i64 sz, .int .i64 n, .int .u8 d0, .int .u8 d1, .int .u8 d2, .int .u8 d3, .int .u8 d4, .int .u8 d5, .int .u8 d6, .int .i64 co, .int .i64 sq, .int .i64 bl, .int .i64 sp, .int .i64 cr], .agg (rowX 16)] w fun e w' => e = .returned (.bool (unuE 16 ki ks tg la fa su sz n d0 d1 d2 d3 d4 d5 d6 co sq bl sp cr)) ∧ Below w.heap.size w w' := by
  have e : rowX 16 = #[.int .i64 193, .bool false, .bool false, .bool false, .bool false, .bool false, .bool false, .bool false, .bool false, .bool false, .bool true] := rfl
  rw [e]
  clear e
  · skip
    go_enter Try.func26, Try.ntmps26
    go_upto_region 3 with fail
    generalize hx0 : ((w.alloc (.cells #[.int .i64 16, .int .i64 ki, .int .i64 ks, .bool tg, .bool la, .bool fa, .bool su, .int .i64 sz, .int .i64 n, .int .u8 d0, .int .u8 d1, .int .u8 d2, .int .u8 d3, .int .u8 d4, .int .u8 d5, .int .u8 d6, .int .i64 co, .int .i64 sq, .int .i64 bl, .int .i64 sp, .int .i64 cr] 30)).alloc (.cells #[.int .i64 193, .bool false, .bool false, .bool false, .bool false, .bool false, .bool false, .bool false, .bool false, .bool false, .bool true] 41)).alloc (.cells #[.int .i64 0, .int .i64 0] 26) = x0 at *
    obtain ⟨hm0, hrw, k0, k1, hb0⟩ := us_start hx0
    have HM : Hid (MsAt x0 w.heap.size 16 ki ks tg la fa su sz n d0 d1 d2 d3 d4 d5 d6 co sq bl sp cr) := Lib.hid hm0
    have HB := Lib.hid hb0
    obtain ⟨m0, m1, m2, m3, m4, m5, m6, m7, m8, m16, m17, m18, m19, m20⟩ := ms_cells HM.out
    obtain ⟨r0, r1, r2, r3, r4, r5, r6, r7, r8, r9, r10⟩ := rw_cells hrw
    clear hrw hm0 hx0 hb0
    go_wp2_with fail
    all_goals first
      | (go_ret
         have hF : flatU 16 ki ks tg la fa su sz n co sq bl sp cr = false := by clear m0 m1 m2 m3 m4 m5 m6 m7 m8 m16 m17 m18 m19 m20 r0 r1 r2 r3 r4 r5 r6 r7 r8 r9 r10 k0 k1; simp_all [flatU, keyC, fastC]
         exact ⟨by first | (rw [unu_flat hF]; done) | (rw [unu_flat hF]; rfl), HB.out⟩)
      | skip
    have HFL : Hid (flatU 16 ki ks tg la fa su sz n co sq bl sp cr = true) := Lib.hid (by simp_all [flatU, keyC, fastC])
    clear m0 m1 m2 m3 m4 m5 m6 m7 m8 m16 m17 m18 m19 m20 r0 r1 r2 r3 r4 r5 r6 r7 r8 r9 r10 k0 k1
    go_loopw [7] (fun t wr => ∃ p : Nat, p ≤ 7 ∧ t = .int .i64 p ∧ Hid (dataP n (dL d0 d1 d2 d3 d4 d5 d6) p = true) ∧ Hid (MsAt wr w.heap.size 16 ki ks tg la fa su sz n d0 d1 d2 d3 d4 d5 d6 co sq bl sp cr) ∧ Hid (Below w.heap.size w wr)) (fun t _ => 7 - (intOf t).toNat)
    case atStart => exact ⟨0, by omega, rfl, Lib.hid rfl, HM, HB⟩
    case round =>
      clear HM HB
      obtain ⟨p, hp, rfl, HP, HM, HB⟩ := hrel
      have c8 : wr.cell? ⟨w.heap.size, 8, none⟩ = some (.int .i64 n) := HM.out.cell 8
      by_cases hlt : p < 7
      · have cd := ms_data HM.out p hlt
        have HS := Lib.hid (dataP_succ n (dL d0 d1 d2 d3 d4 d5 d6) p)
        have HZ := Lib.hid (fun h => unu_no (c := 16) (ki := ki) (ks := ks) (tg := tg) (la := la) (fa := fa) (su := su) (sz := sz) (n := n) (d0 := d0) (d1 := d1) (d2 := d2) (d3 := d3) (d4 := d4) (d5 := d5) (d6 := d6) (co := co) (sq := sq) (bl := bl) (sp := sp) (cr := cr) (p := p) h hlt)
        generalize (dL d0 d1 d2 d3 d4 d5 d6).getD p 0 = x at *
        by_cases hn : n ≤ (p : Int)
        · by_cases hx : x = 0
          · have HS1 : Hid (dataP n (dL d0 d1 d2 d3 d4 d5 d6) (p + 1) = true) := Lib.hid (by rw [HS.out, HP.out]; simp [hx])
            subst hx
            go_wp2_with fail
            all_goals exact ⟨⟨p + 1, by omega, by go_num, HS1, HM, HB⟩, by simp [intOf]; omega⟩
          · have HS1 : Hid (dataP n (dL d0 d1 d2 d3 d4 d5 d6) (p + 1) = false) := Lib.hid (by rw [HS.out, HP.out]; simp [hx, hn])
            have HU := Lib.hid (HZ.out HS1.out)
            go_wp2_with fail
            all_goals go_ret
            all_goals exact ⟨by first | (rw [HU.out]; done) | (rw [HU.out]; rfl), HB.out⟩
        · have HS1 : Hid (dataP n (dL d0 d1 d2 d3 d4 d5 d6) (p + 1) = true) := Lib.hid (by rw [HS.out, HP.out]; simp [hn])
          go_wp2_with fail
          all_goals exact ⟨⟨p + 1, by omega, by go_num, HS1, HM, HB⟩, by simp [intOf]; omega⟩
      · have HU : Hid (unuE 16 ki ks tg la fa su sz n d0 d1 d2 d3 d4 d5 d6 co sq bl sp cr = true) := Lib.hid (by
          have h7 : p = 7 := by omega
          unfold unuE
          rw [HFL.out]
          have := HP.out
          rw [h7] at this
          exact this)
        go_wp2_with fail
        all_goals go_ret
        all_goals exact ⟨by first | (rw [HU.out]; done) | (rw [HU.out]; rfl), HB.out⟩
set_option maxRecDepth 100000 in
theorem unu_17 (ki ks : Int) (tg la fa su : Bool) (sz n d0 d1 d2 d3 d4 d5 d6 co sq bl sp cr : Int) (w : World) : Calls Try.prog 26 #[.agg #[.int .i64 17, .int .i64 ki, .int .i64 ks, .bool tg, .bool la, .bool fa, .bool su, .int .i64 sz, .int .i64 n, .int .u8 d0, .int .u8 d1, .int .u8 d2, .int .u8 d3, .int .u8 d4, .int .u8 d5, .int .u8 d6, .int .i64 co, .int .i64 sq, .int .i64 bl, .int .i64 sp, .int .i64 cr], .agg (rowX 17)] w fun e w' => e = .returned (.bool (unuE 17 ki ks tg la fa su sz n d0 d1 d2 d3 d4 d5 d6 co sq bl sp cr)) ∧ Below w.heap.size w w' := by
  have e : rowX 17 = #[.int .i64 161, .bool false, .bool false, .bool false, .bool false, .bool false, .bool false, .bool false, .bool false, .bool false, .bool false] := rfl
  rw [e]
  clear e
  · skip
    go_enter Try.func26, Try.ntmps26
    go_upto_region 3 with fail
    generalize hx0 : ((w.alloc (.cells #[.int .i64 17, .int .i64 ki, .int .i64 ks, .bool tg, .bool la, .bool fa, .bool su, .int .i64 sz, .int .i64 n, .int .u8 d0, .int .u8 d1, .int .u8 d2, .int .u8 d3, .int .u8 d4, .int .u8 d5, .int .u8 d6, .int .i64 co, .int .i64 sq, .int .i64 bl, .int .i64 sp, .int .i64 cr] 30)).alloc (.cells #[.int .i64 161, .bool false, .bool false, .bool false, .bool false, .bool false, .bool false, .bool false, .bool false, .bool false, .bool false] 41)).alloc (.cells #[.int .i64 0, .int .i64 0] 26) = x0 at *
    obtain ⟨hm0, hrw, k0, k1, hb0⟩ := us_start hx0
    have HM : Hid (MsAt x0 w.heap.size 17 ki ks tg la fa su sz n d0 d1 d2 d3 d4 d5 d6 co sq bl sp cr) := Lib.hid hm0
    have HB := Lib.hid hb0
    obtain ⟨m0, m1, m2, m3, m4, m5, m6, m7, m8, m16, m17, m18, m19, m20⟩ := ms_cells HM.out
    obtain ⟨r0, r1, r2, r3, r4, r5, r6, r7, r8, r9, r10⟩ := rw_cells hrw
    clear hrw hm0 hx0 hb0
    go_wp2_with fail
    all_goals first
      | (go_ret
         have hF : flatU 17 ki ks tg la fa su sz n co sq bl sp cr = false := by clear m0 m1 m2 m3 m4 m5 m6 m7 m8 m16 m17 m18 m19 m20 r0 r1 r2 r3 r4 r5 r6 r7 r8 r9 r10 k0 k1; simp_all [flatU, keyC, fastC]
         exact ⟨by first | (rw [unu_flat hF]; done) | (rw [unu_flat hF]; rfl), HB.out⟩)
      | skip
    have HFL : Hid (flatU 17 ki ks tg la fa su sz n co sq bl sp cr = true) := Lib.hid (by simp_all [flatU, keyC, fastC])
    clear m0 m1 m2 m3 m4 m5 m6 m7 m8 m16 m17 m18 m19 m20 r0 r1 r2 r3 r4 r5 r6 r7 r8 r9 r10 k0 k1
    go_loopw [7] (fun t wr => ∃ p : Nat, p ≤ 7 ∧ t = .int .i64 p ∧ Hid (dataP n (dL d0 d1 d2 d3 d4 d5 d6) p = true) ∧ Hid (MsAt wr w.heap.size 17 ki ks tg la fa su sz n d0 d1 d2 d3 d4 d5 d6 co sq bl sp cr) ∧ Hid (Below w.heap.size w wr)) (fun t _ => 7 - (intOf t).toNat)
    case atStart => exact ⟨0, by omega, rfl, Lib.hid rfl, HM, HB⟩
    case round =>
      clear HM HB
      obtain ⟨p, hp, rfl, HP, HM, HB⟩ := hrel
      have c8 : wr.cell? ⟨w.heap.size, 8, none⟩ = some (.int .i64 n) := HM.out.cell 8
      by_cases hlt : p < 7
      · have cd := ms_data HM.out p hlt
        have HS := Lib.hid (dataP_succ n (dL d0 d1 d2 d3 d4 d5 d6) p)
        have HZ := Lib.hid (fun h => unu_no (c := 17) (ki := ki) (ks := ks) (tg := tg) (la := la) (fa := fa) (su := su) (sz := sz) (n := n) (d0 := d0) (d1 := d1) (d2 := d2) (d3 := d3) (d4 := d4) (d5 := d5) (d6 := d6) (co := co) (sq := sq) (bl := bl) (sp := sp) (cr := cr) (p := p) h hlt)
        generalize (dL d0 d1 d2 d3 d4 d5 d6).getD p 0 = x at *
        by_cases hn : n ≤ (p : Int)
        · by_cases hx : x = 0
          · have HS1 : Hid (dataP n (dL d0 d1 d2 d3 d4 d5 d6) (p + 1) = true) := Lib.hid (by rw [HS.out, HP.out]; simp [hx])
            subst hx
            go_wp2_with fail
            all_goals exact ⟨⟨p + 1, by omega, by go_num, HS1, HM, HB⟩, by simp [intOf]; omega⟩
          · have HS1 : Hid (dataP n (dL d0 d1 d2 d3 d4 d5 d6) (p + 1) = false) := Lib.hid (by rw [HS.out, HP.out]; simp [hx, hn])
            have HU := Lib.hid (HZ.out HS1.out)
            go_wp2_with fail
            all_goals go_ret
            all_goals exact ⟨by first | (rw [HU.out]; done) | (rw [HU.out]; rfl), HB.out⟩
        · have HS1 : Hid (dataP n (dL d0 d1 d2 d3 d4 d5 d6) (p + 1) = true) := Lib.hid (by rw [HS.out, HP.out]; simp [hn])
          go_wp2_with fail
          all_goals exact ⟨⟨p + 1, by omega, by go_num, HS1, HM, HB⟩, by simp [intOf]; omega⟩
      · have HU : Hid (unuE 17 ki ks tg la fa su sz n d0 d1 d2 d3 d4 d5 d6 co sq bl sp cr = true) := Lib.hid (by
          have h7 : p = 7 := by omega
          unfold unuE
          rw [HFL.out]
          have := HP.out
          rw [h7] at this
          exact this)
        go_wp2_with fail
        all_goals go_ret
        all_goals exact ⟨by first | (rw [HU.out]; done) | (rw [HU.out]; rfl), HB.out⟩
end Go.Proofs.Ytoamgdcjmkkmfaa
