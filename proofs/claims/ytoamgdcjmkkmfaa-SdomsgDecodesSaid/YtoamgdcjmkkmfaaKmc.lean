/- What the document's unused answers. -/
import Derived.Deep.CutBlock
import Derived.Test.YtoamgdcjmkkmfaaKz
import Derived.Test.YtoamgdcjmkkmfaaKl2
namespace Go.Proofs.Ytoamgdcjmkkmfaa
open Go.RowKit
set_option linter.unusedSimpArgs false
set_option linter.unusedVariables false
set_option maxHeartbeats 4000000

def keyC (c : Int) : Bool := decide (c = 1 ∨ c = 3 ∨ c = 5 ∨ c = 6 ∨ c = 8 ∨ c = 10 ∨ c = 12 ∨ c = 13 ∨ c = 14)
def fastC (c : Int) (fa : Bool) : Bool := decide (c = 1 ∨ c = 10) && fa
def flatU (c ki ks : Int) (tg la fa su : Bool) (sz n co sq bl sp cr : Int) : Bool :=
  (keyC c || decide (ki = 0 ∧ ks = 0)) && (decide (c = 2 ∨ c = 11 ∨ c = 4 ∨ c = 9) || !tg) && (decide (c = 2 ∨ c = 11) || !la) && (decide (c = 1 ∨ c = 10) || !fa) &&
  (decide (c = 5 ∨ c = 13 ∨ c = 6 ∨ c = 12) || !su) && ((decide (c = 1 ∨ c = 10 ∨ c = 5 ∨ c = 13) && !fastC c fa) || decide (sz = 0)) &&
  (decide (c = 2 ∨ c = 11) || fastC c fa || decide (n = 0)) && (decide (c = 14) || decide (co = 0)) && (decide (c = 6 ∨ c = 12 ∨ c = 15) || decide (bl = 0)) &&
  (decide (c = 15) || decide (sq = 0)) && (decide (c = 16) || decide (sp = 0 ∧ cr = 0))
def dataU (n : Int) (d : List Int) : Bool := (List.range 7).all fun i => decide (n ≤ (i : Int) → d.getD i 0 = 0)
def dataP (n : Int) (d : List Int) (p : Nat) : Bool := (List.range p).all fun i => decide (n ≤ (i : Int) → d.getD i 0 = 0)
theorem dataP_succ (n : Int) (d : List Int) (p : Nat) : dataP n d (p + 1) = (dataP n d p && decide (n ≤ (p : Int) → d.getD p 0 = 0)) := by simp [dataP, List.range_succ]
theorem dataP_no {n : Int} {d : List Int} {p : Nat} (h : dataP n d (p + 1) = false) (hp : p < 7) : dataU n d = false := by
  cases hh : dataU n d with
  | false => rfl
  | true =>
    unfold dataU at hh; unfold dataP at h
    have : (List.range (p + 1)).all (fun i => decide (n ≤ (i : Int) → d.getD i 0 = 0)) = true := List.all_eq_true.2 fun x hx => List.all_eq_true.1 hh x (List.mem_range.2 (by have := List.mem_range.1 hx; omega))
    rw [this] at h; cases h
def unuE (c ki ks : Int) (tg la fa su : Bool) (sz n d0 d1 d2 d3 d4 d5 d6 co sq bl sp cr : Int) : Bool := flatU c ki ks tg la fa su sz n co sq bl sp cr && dataU n (dL d0 d1 d2 d3 d4 d5 d6)

theorem ms_cells {x : World} {g : Nat} {c ki ks : Int} {tg la fa su : Bool} {sz n d0 d1 d2 d3 d4 d5 d6 co sq bl sp cr : Int} (h : MsAt x g c ki ks tg la fa su sz n d0 d1 d2 d3 d4 d5 d6 co sq bl sp cr) :
    x.cell? ⟨g, 0, none⟩ = some (.int .i64 c) ∧ x.cell? ⟨g, 1, none⟩ = some (.int .i64 ki) ∧ x.cell? ⟨g, 2, none⟩ = some (.int .i64 ks) ∧ x.cell? ⟨g, 3, none⟩ = some (.bool tg) ∧ x.cell? ⟨g, 4, none⟩ = some (.bool la) ∧ x.cell? ⟨g, 5, none⟩ = some (.bool fa) ∧ x.cell? ⟨g, 6, none⟩ = some (.bool su) ∧ x.cell? ⟨g, 7, none⟩ = some (.int .i64 sz) ∧ x.cell? ⟨g, 8, none⟩ = some (.int .i64 n) ∧
    x.cell? ⟨g, 16, none⟩ = some (.int .i64 co) ∧ x.cell? ⟨g, 17, none⟩ = some (.int .i64 sq) ∧ x.cell? ⟨g, 18, none⟩ = some (.int .i64 bl) ∧ x.cell? ⟨g, 19, none⟩ = some (.int .i64 sp) ∧ x.cell? ⟨g, 20, none⟩ = some (.int .i64 cr) :=
  ⟨h.cell 0, h.cell 1, h.cell 2, h.cell 3, h.cell 4, h.cell 5, h.cell 6, h.cell 7, h.cell 8, h.cell 16, h.cell 17, h.cell 18, h.cell 19, h.cell 20⟩
theorem rw_cells {x : World} {g : Nat} {b : Int} {k1 k2 k3 k4 k5 k6 k7 k8 k9 k0 : Bool} (h : x.heap[g]? = some (.cells #[.int .i64 b, .bool k1, .bool k2, .bool k3, .bool k4, .bool k5, .bool k6, .bool k7, .bool k8, .bool k9, .bool k0] 41 (0, 0))) :
    x.cell? ⟨g, 0, none⟩ = some (.int .i64 b) ∧ x.cell? ⟨g, 1, none⟩ = some (.bool k1) ∧ x.cell? ⟨g, 2, none⟩ = some (.bool k2) ∧ x.cell? ⟨g, 3, none⟩ = some (.bool k3) ∧ x.cell? ⟨g, 4, none⟩ = some (.bool k4) ∧ x.cell? ⟨g, 5, none⟩ = some (.bool k5) ∧ x.cell? ⟨g, 6, none⟩ = some (.bool k6) ∧ x.cell? ⟨g, 7, none⟩ = some (.bool k7) ∧ x.cell? ⟨g, 8, none⟩ = some (.bool k8) ∧ x.cell? ⟨g, 9, none⟩ = some (.bool k9) ∧ x.cell? ⟨g, 10, none⟩ = some (.bool k0) := by
  refine ⟨?_, ?_, ?_, ?_, ?_, ?_, ?_, ?_, ?_, ?_, ?_⟩ <;> (rw [cell_of_row _ _ _ _ _ _ h]; rfl)
theorem us_start {w x : World} {A R : Array Value} (hx : ((w.alloc (.cells A 30)).alloc (.cells R 41)).alloc (.cells #[.int .i64 0, .int .i64 0] 26) = x) :
    x.heap[w.heap.size]? = some (.cells A 30 (0, 0)) ∧ x.heap[w.heap.size + 1]? = some (.cells R 41 (0, 0)) ∧ x.cell? ⟨w.heap.size + 1 + 1, 0, none⟩ = some (.int .i64 0) ∧ x.cell? ⟨w.heap.size + 1 + 1, 1, none⟩ = some (.int .i64 0) ∧ Below w.heap.size w x := by
  subst hx
  have hky : (((w.alloc (.cells A 30)).alloc (.cells R 41)).alloc (.cells #[.int .i64 0, .int .i64 0] 26)).heap[w.heap.size + 1 + 1]? = some (.cells #[.int .i64 0, .int .i64 0] 26 (0, 0)) := by have := heap_alloc_new ((w.alloc (.cells A 30)).alloc (.cells R 41)) (.cells #[.int .i64 0, .int .i64 0] 26); simpa using this
  refine ⟨(heap_alloc_old _ _ (by simp; omega)).trans ((heap_alloc_old _ _ (by simp)).trans (heap_alloc_new w _)), ?_, ?_, ?_, (((Below.refl _ _).alloc (Nat.le_refl _) _).alloc (by simp) _).alloc (by simp; omega) _⟩
  · have := (heap_alloc_old ((w.alloc (.cells A 30)).alloc (.cells R 41)) (.cells #[.int .i64 0, .int .i64 0] 26) (by simp)).trans (heap_alloc_new (w.alloc (.cells A 30)) (.cells R 41)); simpa using this
  · rw [cell_of_row _ _ _ _ _ _ hky]; rfl
  · rw [cell_of_row _ _ _ _ _ _ hky]; rfl

theorem ms_data {w : World} {g : Nat} {c ki ks : Int} {tg la fa su : Bool} {sz n d0 d1 d2 d3 d4 d5 d6 co sq bl sp cr : Int} (h : MsAt w g c ki ks tg la fa su sz n d0 d1 d2 d3 d4 d5 d6 co sq bl sp cr) (p : Nat) (hp : p < 7) : w.cell? ⟨g, 9 + p, none⟩ = some (.int .u8 ((dL d0 d1 d2 d3 d4 d5 d6).getD p 0)) := by
  rw [h.cell]
  have : p = 0 ∨ p = 1 ∨ p = 2 ∨ p = 3 ∨ p = 4 ∨ p = 5 ∨ p = 6 := by omega
  rcases this with rfl | rfl | rfl | rfl | rfl | rfl | rfl <;> rfl
theorem unu_no {c ki ks : Int} {tg la fa su : Bool} {sz n d0 d1 d2 d3 d4 d5 d6 co sq bl sp cr : Int} {p : Nat} (h : dataP n (dL d0 d1 d2 d3 d4 d5 d6) (p + 1) = false) (hp : p < 7) : unuE c ki ks tg la fa su sz n d0 d1 d2 d3 d4 d5 d6 co sq bl sp cr = false := by
  unfold unuE; rw [dataP_no h hp, Bool.and_false]
theorem unu_flat {c ki ks : Int} {tg la fa su : Bool} {sz n d0 d1 d2 d3 d4 d5 d6 co sq bl sp cr : Int} (h : flatU c ki ks tg la fa su sz n co sq bl sp cr = false) : unuE c ki ks tg la fa su sz n d0 d1 d2 d3 d4 d5 d6 co sq bl sp cr = false := by
  unfold unuE; rw [h, Bool.false_and]
set_option maxRecDepth 100000 in
theorem unu_14 (ki ks : Int) (tg la fa su : Bool) (sz n d0 d1 d2 d3 d4 d5 d6 co sq bl sp cr : Int) (w : World) : Calls Try.prog 26 #[.agg #[.int .i64 14, .int .i64 ki, .int .i64 ks, .bool tg, .bool la, .bool fa, .bool su, .int .i64 sz, .int .i64 n, .int .u8 d0, .int .u8 d1, .int .u8 d2, .int .u8 d3, .int .u8 d4, .int .u8 d5, .int .u8 d6, .int .i64 co, .int .i64 sq, .int .i64 bl, .int .i64 sp, .int .i64 cr], .agg (rowX 14)] w fun e w' => e = .returned (.bool (unuE 14 ki ks tg la fa su sz n d0 d1 d2 d3 d4 d5 d6 co sq bl sp cr)) ∧ Below w.heap.size w w' := by
  have e : rowX 14 = #[.int .i64 128, .bool true, .bool false, .bool false, .bool false, .bool false, .bool false, .bool false, .bool true, .bool false, .bool false] := rfl
  rw [e]
  clear e
  · skip
    go_enter Try.func26, Try.ntmps26
    go_upto_region 3 with fail
    generalize hx0 : ((w.alloc (.cells #[.int .i64 14, .int .i64 ki, .int .i64 ks, .bool tg, .bool la, .bool fa, .bool su, .int .i64 sz, .int .i64 n, .int .u8 d0, .int .u8 d1, .int .u8 d2, .int .u8 d3, .int .u8 d4, .int .u8 d5, .int .u8 d6, .int .i64 co, .int .i64 sq, .int .i64 bl, .int .i64 sp, .int .i64 cr] 30)).alloc (.cells #[.int .i64 128, .bool true, .bool false, .bool false, .bool false, .bool false, .bool false, .bool false, .bool true, .bool false, .bool false] 41)).alloc (.cells #[.int .i64 0, .int .i64 0] 26) = x0 at *
    obtain ⟨hm0, hrw, k0, k1, hb0⟩ := us_start hx0
    have HM : Hid (MsAt x0 w.heap.size 14 ki ks tg la fa su sz n d0 d1 d2 d3 d4 d5 d6 co sq bl sp cr) := Lib.hid hm0
    have HB := Lib.hid hb0
    obtain ⟨m0, m1, m2, m3, m4, m5, m6, m7, m8, m16, m17, m18, m19, m20⟩ := ms_cells HM.out
    obtain ⟨r0, r1, r2, r3, r4, r5, r6, r7, r8, r9, r10⟩ := rw_cells hrw
    clear hrw hm0 hx0 hb0
    go_wp2_with fail
    all_goals first
      | (go_ret
         have hF : flatU 14 ki ks tg la fa su sz n co sq bl sp cr = false := by clear m0 m1 m2 m3 m4 m5 m6 m7 m8 m16 m17 m18 m19 m20 r0 r1 r2 r3 r4 r5 r6 r7 r8 r9 r10 k0 k1; simp_all [flatU, keyC, fastC]
         exact ⟨by first | (rw [unu_flat hF]; done) | (rw [unu_flat hF]; rfl), HB.out⟩)
      | skip
    have HFL : Hid (flatU 14 ki ks tg la fa su sz n co sq bl sp cr = true) := Lib.hid (by simp_all [flatU, keyC, fastC])
    clear m0 m1 m2 m3 m4 m5 m6 m7 m8 m16 m17 m18 m19 m20 r0 r1 r2 r3 r4 r5 r6 r7 r8 r9 r10 k0 k1
    go_loopw [7] (fun t wr => ∃ p : Nat, p ≤ 7 ∧ t = .int .i64 p ∧ Hid (dataP n (dL d0 d1 d2 d3 d4 d5 d6) p = true) ∧ Hid (MsAt wr w.heap.size 14 ki ks tg la fa su sz n d0 d1 d2 d3 d4 d5 d6 co sq bl sp cr) ∧ Hid (Below w.heap.size w wr)) (fun t _ => 7 - (intOf t).toNat)
    case atStart => exact ⟨0, by omega, rfl, Lib.hid rfl, HM, HB⟩
    case round =>
      clear HM HB
      obtain ⟨p, hp, rfl, HP, HM, HB⟩ := hrel
      have c8 : wr.cell? ⟨w.heap.size, 8, none⟩ = some (.int .i64 n) := HM.out.cell 8
      by_cases hlt : p < 7
      · have cd := ms_data HM.out p hlt
        have HS := Lib.hid (dataP_succ n (dL d0 d1 d2 d3 d4 d5 d6) p)
        have HZ := Lib.hid (fun h => unu_no (c := 14) (ki := ki) (ks := ks) (tg := tg) (la := la) (fa := fa) (su := su) (sz := sz) (n := n) (d0 := d0) (d1 := d1) (d2 := d2) (d3 := d3) (d4 := d4) (d5 := d5) (d6 := d6) (co := co) (sq := sq) (bl := bl) (sp := sp) (cr := cr) (p := p) h hlt)
        generalize (dL d0 d1 d2 d3 d4 d5 d6).getD p 0 = x at *
        by_cases hn : n ≤ (p : Int)
        · by_cases hx : x = 0
          · have HS1 : Hid (dataP n (dL d0 d1 d2 d3 d4 d5 d6) (p + 1) = true) := Lib.hid (by rw [HS.out, HP.out]; simp [hx])
            subst hx
            go_wp2_with fail
            all_goals exact ⟨⟨p + 1, by omega, by go_num, HS1, HM, HB⟩, by simp [intOf]; omega⟩
          · have HS1 : Hid (dataP n (dL d0 d1 d2 d3 d4 d5 d6) (p + 1) = false) := Lib.hid (by rw [HS.out, HP.out]; simp [hx, hn])
            have HU := Lib.hid (HZ.out HS1.out)
            go_wp2_with fail
            all_goals go_ret
            all_goals exact ⟨by first | (rw [HU.out]; done) | (rw [HU.out]; rfl), HB.out⟩
        · have HS1 : Hid (dataP n (dL d0 d1 d2 d3 d4 d5 d6) (p + 1) = true) := Lib.hid (by rw [HS.out, HP.out]; simp [hn])
          go_wp2_with fail
          all_goals exact ⟨⟨p + 1, by omega, by go_num, HS1, HM, HB⟩, by simp [intOf]; omega⟩
      · have HU : Hid (unuE 14 ki ks tg la fa su sz n d0 d1 d2 d3 d4 d5 d6 co sq bl sp cr = true) := Lib.hid (by
          have h7 : p = 7 := by omega
          unfold unuE
          rw [HFL.out]
          have := HP.out
          rw [h7] at this
          exact this)
        go_wp2_with fail
        all_goals go_ret
        all_goals exact ⟨by first | (rw [HU.out]; done) | (rw [HU.out]; rfl), HB.out⟩
end Go.Proofs.Ytoamgdcjmkkmfaa
