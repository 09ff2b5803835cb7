/- prod: what must be whatever is asked. -/
import Derived.Test.YtllaajkpobpeiaaOk
namespace Go.Proofs.Ytllaajkpobpeiaa
open Go.RowKit
set_option linter.unusedSimpArgs false
set_option linter.unusedVariables false

theorem bnew5 (w : World) : Byt (w.alloc (.cells #[.int .u8 5] 5)) (w.alloc (.cells #[.int .u8 5] 5)).heap.size (some ⟨w.heap.size, 0, none⟩) 1 1 [5] := by
  have h := Byt.new w 5 [5] (by simp) (by simp [maxLen])
  have e : (w.alloc (.cells #[.int .u8 5] 5)).heap.size = w.heap.size + 1 := by simp
  rw [e]
  exact h
theorem stepA {w x : World} {g : Nat} {A : Option Addr} {c : Nat} {TX : Array Value} (hT : chA (tabX 10) = TX) (h : MkS x g none 0) (hB : Byt x x.heap.size A 1 c [5]) (hb : Below w.heap.size w x) (hg : w.heap.size ≤ g) (he : sentS none 3 true (tabX 10) 1 = true) :
    Calls Try.prog 17 #[.pointer (some ⟨g, 0, none⟩), .int .i64 3, .bool true, .agg TX, .slice A 1 c] x fun e w' => ∃ q, x.heap.size ≤ q ∧ e = .returned (.slice (some ⟨q, 0, none⟩) 2 2) ∧ TwAt w' q 257 258 1 (dOf [5]) (dOf (flipL [5])) ∧ MkS w' g (some (tabX 10, 3)) 1 ∧ Below w.heap.size w w' := by
  rw [← hT]
  refine (pstepS 3 true (tabX 10) h hB (by omega) (fun _ h => by cases h) (by omega)).mono ?_
  rintro e w' ⟨F, rfl, hf, hm, ho⟩
  rw [he] at hf hm
  obtain ⟨q, hq, rfl, ht⟩ := hf
  exact ⟨q, hq, rfl, ht, hm, hb.trans (ho.from_ hg)⟩
theorem stepB {w x : World} {g q B : Nat} {A : Option Addr} {c : Nat} {TX : Array Value} {P Q : Int} {m : Nat} {d e : Nat → Int} (hT : chA (tabX 10) = TX) (h : MkS x g (some (tabX 10, 3)) 1) (hB : Byt x x.heap.size A 1 c [5]) (hb : Below w.heap.size w x) (hg : w.heap.size ≤ g) (ht : TwAt x q P Q m d e) (hq : B ≤ q) (he : sentS (some (tabX 10, 3)) 4 true (tabX 10) 1 = false) :
    Calls Try.prog 17 #[.pointer (some ⟨g, 0, none⟩), .int .i64 4, .bool true, .agg TX, .slice A 1 c] x fun e' w' => e' = .returned (.slice none 0 0) ∧ TwAt w' q P Q m d e ∧ MkS w' g (some (tabX 10, 3)) 1 ∧ Below w.heap.size w w' := by
  rw [← hT]
  refine (pstepS 4 true (tabX 10) h hB (by omega) (fun p h => by cases h; exact ⟨by show (0 : Int) ≤ 3; omega, by show (3 : Int) ≤ 4; omega⟩) (by omega)).mono ?_
  rintro e' w' ⟨F, rfl, hf, hm, ho⟩
  rw [he] at hf hm
  obtain rfl : F = _ := hf
  have hgq : ¬ q = g := by
    rintro rfl
    have h1 : x.heap[q]? = some (.cells (mkA true (tabX 10) 3 1) 100 (0, 0)) := h
    have h2 : x.heap[q]? = some (.cells _ 57 (0, 0)) := ht
    rw [h1] at h2
    simp only [Option.some.injEq, Obj.cells.injEq] at h2
    exact absurd h2.2.1 (by decide)
  have e1 : stepS (some (tabX 10, 3)) 4 true (tabX 10) 1 = some (tabX 10, 3) := rfl
  rw [e1] at hm
  exact ⟨rfl, (ho.oth q ht.lt hgq).trans ht, hm, hb.trans (ho.from_ hg)⟩
set_option maxRecDepth 100000 in
set_option maxHeartbeats 4000000 in
theorem live29_any (w : World) : Calls Try.prog 20 #[] w fun e w' => e = .returned (.bool true) ∧ Below w.heap.size w w' := by
  have HTA := Lib.hid (fun t w => table_any t w)
  have HNW := Lib.hid (pnew_any w)
  have he1 : sentS none 3 true (tabX 10) 1 = true := by decide +kernel
  have he2 : stepS none 3 true (tabX 10) 1 = some (tabX 10, 3) := rfl
  have he3 : sentS (some (tabX 10, 3)) 4 true (tabX 10) 1 = false := by decide +kernel
  have HE1 := Lib.hid he1
  have HE3 := Lib.hid he3
  have HSQ : Hid (∀ w, (Op.equalIn 9999 37 (.agg #[.int .u8 5, .int .u8 0, .int .u8 0, .int .u8 0, .int .u8 0, .int .u8 0, .int .u8 0, .int .u8 0]) (.agg #[.int .u8 5, .int .u8 0, .int .u8 0, .int .u8 0, .int .u8 0, .int .u8 0, .int .u8 0, .int .u8 0])).run Try.prog w = .ok true w) := Lib.hid (fun w => (run_eq_data w 9997 (dOf [5]) (dOf [5])).trans (by rfl))
  clear he1 he2 he3
  go_enter Try.func20, Try.ntmps20
  go_upto_region 2 with (go_at_call 14; refine (HNW.out).mono ?_; rintro e w1 ⟨g, hg, rfl, h1, b1⟩; have HM1 := Lib.hid (show MkS w1 g none 0 from h1); have HB1 := Lib.hid b1; have HG := Lib.hid hg; clear h1 b1 hg)
  go_wp2_with (first
    | (go_at_call 21; (with_reducible refine (HTA.out 10 w1).mono ?_); rintro e w2 ⟨rfl, b2⟩; have HB2 := Lib.hid (kF b2 HB1.out); have HM2 := Lib.hid (HM1.out.below b2); have hba := (Below.refl w2.heap.size w2).alloc (Nat.le_refl _) (.cells #[.int .u8 5] 5); have HB2a := Lib.hid (kF hba HB2.out); have HM2a := Lib.hid (HM2.out.below hba); have HY2 := Lib.hid (bnew5 w2); clear b2 hba)
    | (go_at_call 17; (with_reducible refine (stepA rfl HM2a.out HY2.out HB2a.out HG.out HE1.out).mono ?_); rintro e w3 ⟨q, hq, rfl, ht, hm, hb⟩; have HT3 := Lib.hid ht; have HM3 := Lib.hid hm; have HB3 := Lib.hid hb; have HQ := Lib.hid hq; clear hq ht hm hb)
    | (go_at_call 21; (with_reducible refine (HTA.out 10 w3).mono ?_); rintro e w4 ⟨rfl, b4⟩; have HB4 := Lib.hid (kF b4 HB3.out); have HM4 := Lib.hid (HM3.out.below b4); have HT4 := Lib.hid (HT3.out.below b4); have hba := (Below.refl w4.heap.size w4).alloc (Nat.le_refl _) (.cells #[.int .u8 5] 5); have HB4a := Lib.hid (kF hba HB4.out); have HM4a := Lib.hid (HM4.out.below hba); have HT4a := Lib.hid (HT4.out.below hba); have HY4 := Lib.hid (bnew5 w4); clear b4 hba)
    | (go_at_call 17; (with_reducible refine (stepB rfl HM4a.out HY4.out HB4a.out HG.out HT4a.out HQ.out HE3.out).mono ?_); rintro e w5 ⟨rfl, ht, hm, hb⟩; have HM5 := Lib.hid hm; have HB5 := Lib.hid hb; obtain ⟨t0, t1, t2, t3, t4, t5, t6, t7, t8, t9, t10⟩ := (show w5.cell? ⟨q, 0, none⟩ = some (.int .i64 257) ∧ w5.cell? ⟨q, 1, none⟩ = some (.bool false) ∧ w5.cell? ⟨q, 2, none⟩ = some (.int .i64 1) ∧ w5.cell? ⟨q, 3, none⟩ = some (.int .u8 5) ∧ w5.cell? ⟨q, 4, none⟩ = some (.int .u8 0) ∧ w5.cell? ⟨q, 5, none⟩ = some (.int .u8 0) ∧ w5.cell? ⟨q, 6, none⟩ = some (.int .u8 0) ∧ w5.cell? ⟨q, 7, none⟩ = some (.int .u8 0) ∧ w5.cell? ⟨q, 8, none⟩ = some (.int .u8 0) ∧ w5.cell? ⟨q, 9, none⟩ = some (.int .u8 0) ∧ w5.cell? ⟨q, 10, none⟩ = some (.int .u8 0) from ht.cells1); have hsq := HSQ.out; clear hm hb ht)
    | (go_at_call 18; (with_reducible refine (sentS_any HM5.out).mono ?_); rintro e w6 ⟨rfl, rfl⟩))
  go_ret
  exact ⟨rfl, HB5.out⟩
end Go.Proofs.Ytllaajkpobpeiaa
