/- PmapUnpacks: the walk. -/
import Derived.Test.YtgaoplbocjadaaaYmo
import Derived.Test.YtgaoplbocjadaaaYmh
namespace Go.Proofs.Ytgaoplbocjadaaa
open Go.RowKit
set_option linter.unusedSimpArgs false
set_option linter.unusedVariables false
set_option maxRecDepth 100000 in
set_option maxHeartbeats 8000000 in
theorem unpacks_walk (w : World) (A : Option Addr) (m c : Nat) (l : List Int) (A2 : Option Addr) (n2 c2 : Nat) (fs : Nat → SlV) (hB : Byt w w.heap.size A m c l) (h2 : Els SlC 3 w w.heap.size A2 n2 c2 fs) :
    Calls Try.prog 6 #[.slice A m c, .slice A2 n2 c2] w fun e w' => e = .returned (.bool true) ∧ Below w.heap.size w w' := by
  have hcap := h2.cap
  have hmax := h2.max
  simp only [maxLen] at hmax
  obtain ⟨n, hn⟩ : ∃ n, n = min n2 12 := ⟨_, rfl⟩
  have hnI : min (n2 : Int) 12 = (n : Int) := by omega
  have hn2 : n ≤ n2 := by omega
  have hnc : n ≤ c2 := by omega
  have HL := Lib.hid (fun x (hx : Below w.heap.size w x) => (h2.take hn2).lowS hx)
  have HLB := Lib.hid (fun x (hx : Below w.heap.size w x) => (h2.take hn2).toB hx (Nat.le_refl _))
  have HY := Lib.hid (fun x (hx : Below w.heap.size w x) => hB.step hx)
  clear h2 hB hn
  go_enter Try.func6, Try.ntmps6
  go_wp2_with fail
  have hll := laid_any w
  unfold LaidP at hll
  refine hll.mono ?_
  rintro e w1 ⟨g, a, cR, R, rfl, hbo, hb1⟩
  have hba : Below w1.heap.size w1 (w1.alloc (.cells #[.slice a R.length cR, .int .i64 0] 33)) := (Below.refl _ _).alloc (Nat.le_refl _) _
  have HBo := Lib.hid (hbo.below hba)
  have HB2 := Lib.hid (kF hba hb1)
  have HR2 : Hid (RBox (w1.alloc (.cells #[.slice a R.length cR, .int .i64 0] 33)) w1.heap.size a R.length cR 0) := Lib.hid (heap_alloc_new w1 _)
  have HGR : Hid (w.heap.size ≤ w1.heap.size) := Lib.hid hb1.size
  clear hll hbo hb1 hba
  go_upto_region 3 with fail
  generalize w1.alloc (.cells #[.slice a R.length cR, .int .i64 0] 33) = w2 at *
  generalize w1.heap.size = gr at *
  obtain ⟨d0, d1⟩ := HR2.out.cells
  have fd0 := frozen_of_row _ _ 0 _ _ HR2.out
  have fd1 := frozen_of_row _ _ 1 _ _ HR2.out
  have hru := runpack_any (ch := 0) HBo.out.ref HB2.out.size HBo.out.tie (by omega) (HY.out w2 HB2.out) (HL.out w2 HB2.out)
  unfold RUnP at hru
  have HRU := Lib.hid hru
  clear hru
  go_wp2_with fail
  refine HRU.out.mono ?_
  rintro e w3 ⟨R', a', c', ch', rfl, ho3, ht3, -, hb3⟩
  have HR3 := Lib.hid (HR2.out.below hb3)
  have HD3 := Lib.hid (HBo.out.dict.below hb3)
  have HO3 := Lib.hid ho3
  have HT3 := Lib.hid ht3
  have HB3 := Lib.hid (kF hb3 HB2.out)
  clear ho3 ht3 hb3 HRU HR2 d0 d1 fd0 fd1
  obtain ⟨d0, d1⟩ := HR3.out.cells
  have fd0 := frozen_of_row _ _ 0 _ _ HR3.out
  have fd1 := frozen_of_row _ _ 1 _ _ HR3.out
  go_upto_region 4 with fail
  have HR4 := Lib.hid (HR3.out.two (a' := a') (n' := R'.length) (c' := c') (ch' := ch'))
  have HD4 := Lib.hid (dict_put2G HR3.out HD3.out a' R'.length c' (.int .i64 ch'))
  have HO4 := Lib.hid (own_put2 HR3.out HO3.out (.slice a' R'.length c') (.int .i64 ch'))
  have HB4 := Lib.hid (Below.setCell (p := ⟨gr, 1, none⟩) (Below.setCell (p := ⟨gr, 0, none⟩) HB3.out HGR.out (.slice a' R'.length c')) HGR.out (.int .i64 ch'))
  clear d0 d1 fd0 fd1 HR3 HD3 HO3 HB3
  generalize ((w3.setCell ⟨gr, 0, none⟩ (.slice a' R'.length c')).setCell ⟨gr, 1, none⟩ (.int .i64 ch')) = w4 at *
  go_wp2_with fail
  refine (live25_any w4).mono ?_
  rintro e w5 ⟨rfl, hb5⟩
  have HR5 := Lib.hid (HR4.out.below hb5)
  have HD5 := Lib.hid (HD4.out.below hb5)
  have HO5 := Lib.hid (own_below HO4.out hb5)
  have HB5 := Lib.hid (kF hb5 HB4.out)
  clear hb5 HR4 HD4 HO4 HB4
  have hup := unpack_any HD5.out TLD_good (by omega) (HY.out w5 HB5.out) (HLB.out w5 HB5.out)
  unfold UnpP at hup
  have HUP := Lib.hid hup
  clear hup
  generalize unE TLD fs n l = UE at *
  have hue : (UE == UE) = true := by simp
  go_wp2_with fail
  refine HUP.out.mono ?_
  rintro e w6 ⟨ch6, rfl, hd6, -, ho6⟩
  have HD6 := Lib.hid hd6
  have HR6 := Lib.hid (show RBox w6 gr a' R'.length c' ch' from ho6.2 _ _ _ _ HR5.out not3_D)
  have HO6 := Lib.hid (ho6.own HO5.out not3_R)
  have HB6 := Lib.hid (HB5.out.trans ho6.1)
  clear hd6 ho6 HUP HR5 HD5 HO5 HB5
  obtain ⟨d0, d1⟩ := HR6.out.cells
  go_wp2_with fail
  refine (same15_any _ _ _ g c' _ R' _ ch' a' HD6.out HT3.out HO6.out).mono ?_
  rintro e w7 ⟨rfl, hb7⟩
  have HB7 := Lib.hid (kF hb7 HB6.out)
  clear hb7 d0 d1
  go_wp2_with fail
  go_ret
  exact ⟨rfl, HB7.out⟩
end Go.Proofs.Ytgaoplbocjadaaa
