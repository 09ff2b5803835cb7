/- Tables of channels: their cells, their sizes. -/
import Derived.Test.YtllaajkpobpeiaaOJb
import Derived.Lib.SmallJoins
import Derived.Deep.Slices
import Derived.Deep.CutBlock
import Derived.Deep.MidRow
namespace Go.Proofs.Ytllaajkpobpeiaa
open Go.RowKit
set_option linter.unusedSimpArgs false
set_option linter.unusedVariables false
theorem add_plainE (b o i : Nat) : (⟨b, o, none⟩ : Addr).add i = ⟨b, o + i, none⟩ := by unfold Addr.add; split <;> simp_all
/-- The slice '.slice A n c' of things of k cells reads as fs; C tells what a thing's cells are. -/
structure Els {D : Type} (C : World → Nat → Nat → D → Prop) (k : Nat) (w : World) (B : Nat) (A : Option Addr) (n c : Nat) (fs : Nat → D) : Prop where
  cap : n ≤ c
  max : c ≤ maxLen
  cells : 0 < n → ∃ b off, A = some ⟨b, off, none⟩ ∧ b < B ∧ ∀ i, i < n → C w b (off + i * k) (fs i)
theorem Els.below {D : Type} {C : World → Nat → Nat → D → Prop} {k : Nat} {w w' : World} {B : Nat} {A : Option Addr} {n c : Nat} {fs : Nat → D} (h : Els C k w B A n c fs)
    (hC : ∀ b o x, b < B → C w b o x → C w' b o x) : Els C k w' B A n c fs :=
  ⟨h.cap, h.max, fun hn => by
    obtain ⟨b, off, e, hlt, hc⟩ := h.cells hn
    exact ⟨b, off, e, hlt, fun i hi => hC _ _ _ hlt (hc i hi)⟩⟩
/-- A slot. -/
structure SlV where
  i : Int
  j : Int
  n : Int
structure SlC (w : World) (b o : Nat) (x : SlV) : Prop where
  c0 : w.cell? ⟨b, o, none⟩ = some (.int .i64 x.i)
  c1 : w.cell? ⟨b, o + 1, none⟩ = some (.int .i64 x.j)
  c2 : w.cell? ⟨b, o + 2, none⟩ = some (.int .i64 x.n)
theorem SlC.below {w w' : World} {B b o : Nat} {x : SlV} (h : SlC w b o x) (hlt : b < B) (hb : Below B w w') : SlC w' b o x :=
  ⟨(hb.cell (p := ⟨b, o, none⟩) hlt).trans h.c0, (hb.cell (p := ⟨b, o + 1, none⟩) hlt).trans h.c1, (hb.cell (p := ⟨b, o + 2, none⟩) hlt).trans h.c2⟩
def szF (fs : Nat → SlV) : Nat → Nat → Int → Int
  | 0, _, a => a
  | m + 1, i, a => if (fs i).n = 8 ∨ (fs i).n = 16 ∨ (fs i).n = 32 then szF fs m (i + 1) (a + (fs i).n / 8) else 0
def szE (fs : Nat → SlV) (n : Nat) : Int := if 8 < n then 0 else szF fs n 0 0
set_option maxRecDepth 100000 in
set_option maxHeartbeats 2000000 in
theorem psize_any (w : World) (A : Option Addr) (n c : Nat) (fs : Nat → SlV) (hL : Els SlC 3 w w.heap.size A n c fs) :
    Calls Try.prog 42 #[.slice A n c] w fun e w' => e = .returned (.int .i64 (szE fs n)) ∧ Below w.heap.size w w' := by
  have hcap := hL.cap
  have hmax := hL.max
  simp only [maxLen] at hmax
  have HC := Lib.hid (fun (x : World) (hx : Below w.heap.size w x) (h0 : 0 < n) => show ∃ b off, A = some ⟨b, off, none⟩ ∧ b < w.heap.size ∧ ∀ i, i < n → SlC x b (off + i * 3) (fs i) from by
    obtain ⟨b, off, e, hb, h⟩ := hL.cells h0
    exact ⟨b, off, e, hb, fun i hi => (h i hi).below hb hx⟩)
  clear hL
  by_cases h8 : 8 < n
  · have h8I : (8 : Int) < (n : Int) := by omega
    have HE : Hid (szE fs n = 0) := Lib.hid (if_pos h8)
    go_enter Try.func42, Try.ntmps42
    go_wp2_with fail
    go_ret
    exact ⟨by rw [HE.out]; rfl, Below.refl _ _⟩
  · have h8I : ¬ (8 : Int) < (n : Int) := by omega
    have HE : Hid (szE fs n = szF fs n 0 0) := Lib.hid (if_neg h8)
    go_enter Try.func42, Try.ntmps42
    go_wp2_with fail
    go_loopw [3, 11] (fun t3 t11 wr => ∃ (i : Nat) (b : Int), i ≤ n ∧ t3 = .int .i64 b ∧ t11 = .int .i64 i ∧ Hid (szE fs n = szF fs (n - i) i b) ∧ Hid (0 ≤ b ∧ b ≤ 4 * i) ∧ Hid (Below w.heap.size w wr)) (fun _ t _ => n - (intOf t).toNat)
    case atStart => exact ⟨0, 0, by omega, rfl, rfl, Lib.hid HE.out, Lib.hid (by omega), Lib.hid (Below.refl _ _)⟩
    case round =>
      clear HE
      obtain ⟨i, b, hi, rfl, rfl, HR, HB, HW⟩ := hrel
      by_cases hlt : i < n
      · have hiI : (i : Int) < (n : Int) := by omega
        obtain ⟨bk, off, rfl, hbk, hcs⟩ := HC.out wr HW.out (by omega)
        have hc := hcs i hlt
        have HRS : Hid (szE fs n = if (fs i).n = 8 ∨ (fs i).n = 16 ∨ (fs i).n = 32 then szF fs (n - (i + 1)) (i + 1) (b + (fs i).n / 8) else 0) := Lib.hid (by rw [HR.out, show n - i = (n - (i + 1)) + 1 by omega]; rfl)
        obtain ⟨c0, c1, c2⟩ := hc
        generalize fs i = s at *
        obtain ⟨si, sj, sn⟩ := s
        dsimp only at c0 c1 c2 HRS
        clear hcs HR
        have HBA : Hid (Below w.heap.size w (wr.alloc (.cells #[.int .i64 si, .int .i64 sj, .int .i64 sn] 26))) := Lib.hid (HW.out.alloc HW.out.size _)
        have hb0 := HB.out
        have e8 : sn = 8 ∨ sn = 16 ∨ sn = 32 ∨ (¬ sn = 8 ∧ ¬ sn = 16 ∧ ¬ sn = 32) := by omega
        rcases e8 with rfl | rfl | rfl | ⟨n1, n2, n3⟩
        · have HV : Hid (szE fs n = szF fs (n - (i + 1)) (i + 1) (b + 1)) := Lib.hid (by rw [HRS.out, if_pos (by simp)]; rfl)
          have HN : Hid (0 ≤ b + 1 ∧ b + 1 ≤ 4 * ((i + 1 : Nat) : Int)) := Lib.hid (by omega)
          have iw : IntKind.i64.wrap (b + 1) = b + 1 := IntWalk.i64_in _ (by omega)
          have i1 : IntKind.i64.wrap (1 : Int) = 1 := IntWalk.i64_in _ (by omega)
          clear hb0
          go_wp2_with fail
          exact ⟨⟨i + 1, b + 1, by omega, rfl, by go_num, HV, HN, HBA⟩, by simp [intOf]; omega⟩
        · have HV : Hid (szE fs n = szF fs (n - (i + 1)) (i + 1) (b + 2)) := Lib.hid (by rw [HRS.out, if_pos (by simp)]; rfl)
          have HN : Hid (0 ≤ b + 2 ∧ b + 2 ≤ 4 * ((i + 1 : Nat) : Int)) := Lib.hid (by omega)
          have iw : IntKind.i64.wrap (b + 2) = b + 2 := IntWalk.i64_in _ (by omega)
          have i1 : IntKind.i64.wrap (2 : Int) = 2 := IntWalk.i64_in _ (by omega)
          clear hb0
          go_wp2_with fail
          exact ⟨⟨i + 1, b + 2, by omega, rfl, by go_num, HV, HN, HBA⟩, by simp [intOf]; omega⟩
        · have HV : Hid (szE fs n = szF fs (n - (i + 1)) (i + 1) (b + 4)) := Lib.hid (by rw [HRS.out, if_pos (by simp)]; rfl)
          have HN : Hid (0 ≤ b + 4 ∧ b + 4 ≤ 4 * ((i + 1 : Nat) : Int)) := Lib.hid (by omega)
          have iw : IntKind.i64.wrap (b + 4) = b + 4 := IntWalk.i64_in _ (by omega)
          have i1 : IntKind.i64.wrap (4 : Int) = 4 := IntWalk.i64_in _ (by omega)
          clear hb0
          go_wp2_with fail
          exact ⟨⟨i + 1, b + 4, by omega, rfl, by go_num, HV, HN, HBA⟩, by simp [intOf]; omega⟩
        · have HV : Hid (szE fs n = 0) := Lib.hid (by rw [HRS.out, if_neg (by omega)])
          have m1 : (sn == 8) = false := by simp [n1]
          have m2 : (sn == 16) = false := by simp [n2]
          have m3 : (sn == 32) = false := by simp [n3]
          clear hb0
          go_wp2_with fail
          go_ret
          exact ⟨by rw [HV.out]; rfl, HBA.out⟩
      · have HV : Hid (szE fs n = b) := Lib.hid (by rw [HR.out, show n - i = 0 by omega]; rfl)
        go_wp2_with fail
        go_ret
        exact ⟨by rw [HV.out]; rfl, HW.out⟩
set_option maxRecDepth 100000 in
set_option maxHeartbeats 8000000 in
theorem rsize25_any (w : World) (A : Option Addr) (n c : Nat) (fs : Nat → SlV) (hL : Els SlC 3 w w.heap.size A n c fs) :
    Calls Try.prog 43 #[.slice A n c] w fun e w' => e = .returned (.int .i64 (szE fs n)) ∧ Below w.heap.size w w' := by
  have hcap := hL.cap
  have hmax := hL.max
  simp only [maxLen] at hmax
  have HC := Lib.hid (fun (h0 : 0 < n) => show ∃ b off, A = some ⟨b, off, none⟩ ∧ b < w.heap.size ∧ ∀ i, i < n → SlC w b (off + i * 3) (fs i) from hL.cells h0)
  clear hL
  have HE : Hid (n ≤ 8 → szE fs n = szF fs n 0 0) := Lib.hid (fun h => if_neg (by omega))
  have HE8 : Hid (8 < n → szE fs n = 0) := Lib.hid (fun h => if_pos h)
  go_enter Try.func43, Try.ntmps43
  go_wp2_with fail
  go_loopw [3, 4] (fun t3 t4 wr => ∃ (i : Nat) (b : Int), i ≤ n ∧ t3 = .int .i64 b ∧ t4 = .int .i64 i ∧ Hid (n ≤ 8 → szE fs n = szF fs (n - i) i b) ∧ Hid (0 < i → n ≤ 8) ∧ Hid (0 ≤ b ∧ b ≤ 4 * i) ∧ wr = w) (fun _ t _ => n - (intOf t).toNat)
  case atStart => exact ⟨0, 0, by omega, rfl, rfl, HE, Lib.hid (by omega), Lib.hid (by omega), rfl⟩
  case round =>
    clear HE
    obtain ⟨i, b, hi, rfl, rfl, HR, HP, HB, rfl⟩ := hrel
    by_cases hlt : i < n
    · have hiI : (i : Int) < (n : Int) := by omega
      obtain ⟨bk, off, rfl, hbk, hcs⟩ := HC.out (by omega)
      have hc := hcs i hlt
      have hb0 := HB.out
      by_cases h8 : 8 < n
      · have h8I : (8 : Int) < (n : Int) := by omega
        have HV : Hid (szE fs n = 0) := Lib.hid (HE8.out h8)
        clear hcs hc hb0
        go_wp2_with fail
        go_ret
        exact ⟨by rw [HV.out]; rfl, Below.refl _ _⟩
      · have h8I : ¬ (8 : Int) < (n : Int) := by omega
        have HRS : Hid (szE fs n = if (fs i).n = 8 ∨ (fs i).n = 16 ∨ (fs i).n = 32 then szF fs (n - (i + 1)) (i + 1) (b + (fs i).n / 8) else 0) := Lib.hid (by rw [HR.out (by omega), show n - i = (n - (i + 1)) + 1 by omega]; rfl)
        have HP2 : Hid (0 < i + 1 → n ≤ 8) := Lib.hid (fun _ => by omega)
        obtain ⟨c0, c1, c2⟩ := hc
        generalize fs i = s at *
        obtain ⟨si, sj, sn⟩ := s
        dsimp only at c0 c1 c2 HRS
        clear hcs HR
        have e8 : sn = 8 ∨ sn = 16 ∨ sn = 32 ∨ (¬ sn = 8 ∧ ¬ sn = 16 ∧ ¬ sn = 32) := by omega
        rcases e8 with rfl | rfl | rfl | ⟨n1, n2, n3⟩
        · have HV : Hid (n ≤ 8 → szE fs n = szF fs (n - (i + 1)) (i + 1) (b + 1)) := Lib.hid (fun _ => by rw [HRS.out, if_pos (by simp)]; rfl)
          have HN : Hid (0 ≤ b + 1 ∧ b + 1 ≤ 4 * ((i + 1 : Nat) : Int)) := Lib.hid (by omega)
          have iw : IntKind.i64.wrap (b + 1) = b + 1 := IntWalk.i64_in _ (by omega)
          have i1 : IntKind.i64.wrap (1 : Int) = 1 := IntWalk.i64_in _ (by omega)
          clear hb0
          go_wp2_with fail
          exact ⟨⟨i + 1, b + 1, by omega, rfl, by go_num, HV, HP2, HN, trivial⟩, by simp [intOf]; omega⟩
        · have HV : Hid (n ≤ 8 → szE fs n = szF fs (n - (i + 1)) (i + 1) (b + 2)) := Lib.hid (fun _ => by rw [HRS.out, if_pos (by simp)]; rfl)
          have HN : Hid (0 ≤ b + 2 ∧ b + 2 ≤ 4 * ((i + 1 : Nat) : Int)) := Lib.hid (by omega)
          have iw : IntKind.i64.wrap (b + 2) = b + 2 := IntWalk.i64_in _ (by omega)
          have i1 : IntKind.i64.wrap (2 : Int) = 2 := IntWalk.i64_in _ (by omega)
          clear hb0
          go_wp2_with fail
          exact ⟨⟨i + 1, b + 2, by omega, rfl, by go_num, HV, HP2, HN, trivial⟩, by simp [intOf]; omega⟩
        · have HV : Hid (n ≤ 8 → szE fs n = szF fs (n - (i + 1)) (i + 1) (b + 4)) := Lib.hid (fun _ => by rw [HRS.out, if_pos (by simp)]; rfl)
          have HN : Hid (0 ≤ b + 4 ∧ b + 4 ≤ 4 * ((i + 1 : Nat) : Int)) := Lib.hid (by omega)
          have iw : IntKind.i64.wrap (b + 4) = b + 4 := IntWalk.i64_in _ (by omega)
          have i1 : IntKind.i64.wrap (4 : Int) = 4 := IntWalk.i64_in _ (by omega)
          clear hb0
          go_wp2_with fail
          exact ⟨⟨i + 1, b + 4, by omega, rfl, by go_num, HV, HP2, HN, trivial⟩, by simp [intOf]; omega⟩
        · have HV : Hid (szE fs n = 0) := Lib.hid (by rw [HRS.out, if_neg (by omega)])
          have m1 : (sn != 8) = true := by simp [n1]
          have m2 : (sn != 16) = true := by simp [n2]
          have m3 : (sn != 32) = true := by simp [n3]
          clear hb0
          go_wp2_with fail
          go_ret
          exact ⟨by rw [HV.out]; rfl, Below.refl _ _⟩
    · have HV : Hid (szE fs n = b) := Lib.hid (by
        by_cases h8 : n ≤ 8
        · rw [HR.out h8, show n - i = 0 by omega]; rfl
        · have := HP.out; omega)
      go_wp2_with fail
      go_ret
      exact ⟨by rw [HV.out]; rfl, Below.refl _ _⟩
/-- A channel's table. -/
structure ChV where
  dir : Int
  time : Int
  gap : Int
  plain : Int
  turned : Int
  n : Int
  s : Nat → SlV
def chA (x : ChV) : Array Value := #[.int .i64 x.dir, .int .i64 x.time, .int .i64 x.gap, .int .i64 x.plain, .int .i64 x.turned, .int .i64 x.n, .int .i64 (x.s 0).i, .int .i64 (x.s 0).j, .int .i64 (x.s 0).n, .int .i64 (x.s 1).i, .int .i64 (x.s 1).j, .int .i64 (x.s 1).n, .int .i64 (x.s 2).i, .int .i64 (x.s 2).j, .int .i64 (x.s 2).n, .int .i64 (x.s 3).i, .int .i64 (x.s 3).j, .int .i64 (x.s 3).n, .int .i64 (x.s 4).i, .int .i64 (x.s 4).j, .int .i64 (x.s 4).n, .int .i64 (x.s 5).i, .int .i64 (x.s 5).j, .int .i64 (x.s 5).n, .int .i64 (x.s 6).i, .int .i64 (x.s 6).j, .int .i64 (x.s 6).n, .int .i64 (x.s 7).i, .int .i64 (x.s 7).j, .int .i64 (x.s 7).n]
theorem chA_size (x : ChV) : (chA x).size = 30 := rfl
theorem chA_one (x : ChV) : (chA x).all (·.oneCell') = true := by simp [chA, Value.oneCell']
theorem info_chan : (Try.prog.info? 29).map (·.size) = some 30 := by kernel_rfl
def ChAt (w : World) (g : Nat) (x : ChV) : Prop := w.heap[g]? = some (.cells (chA x) 29 (0, 0))
theorem ChAt.below {w w' : World} {g : Nat} {x : ChV} (h : ChAt w g x) (hb : Below w.heap.size w w') : ChAt w' g x := (hb.block _ (Array.getElem?_eq_some_iff.1 h).1).trans h
theorem ChAt.cells {w : World} {g : Nat} {x : ChV} (h : ChAt w g x) : w.cell? ⟨g, 0, none⟩ = some (.int .i64 x.dir) ∧ w.cell? ⟨g, 1, none⟩ = some (.int .i64 x.time) ∧ w.cell? ⟨g, 2, none⟩ = some (.int .i64 x.gap) ∧ w.cell? ⟨g, 3, none⟩ = some (.int .i64 x.plain) ∧ w.cell? ⟨g, 4, none⟩ = some (.int .i64 x.turned) ∧ w.cell? ⟨g, 5, none⟩ = some (.int .i64 x.n) := by
  refine ⟨?_, ?_, ?_, ?_, ?_, ?_⟩ <;> (rw [cell_of_row _ _ _ _ _ _ h]; rfl)
theorem ChAt.slot {w : World} {g : Nat} {x : ChV} (h : ChAt w g x) {i : Nat} (hi : i < 8) : SlC w g (6 + i * 3) (x.s i) := by
  have : i = 0 ∨ i = 1 ∨ i = 2 ∨ i = 3 ∨ i = 4 ∨ i = 5 ∨ i = 6 ∨ i = 7 := by omega
  rcases this with rfl | rfl | rfl | rfl | rfl | rfl | rfl | rfl <;> (refine ⟨?_, ?_, ?_⟩ <;> (rw [cell_of_row _ _ _ _ _ _ h]; rfl))
theorem ChAt.els {w : World} {g : Nat} {x : ChV} (h : ChAt w g x) {k : Nat} (hk : k ≤ 8) : Els SlC 3 w w.heap.size (some ⟨g, 6, none⟩) k 8 x.s :=
  ⟨hk, by simp [maxLen], fun _ => ⟨g, 6, rfl, (Array.getElem?_eq_some_iff.1 h).1, fun i hi => h.slot (by omega)⟩⟩
end Go.Proofs.Ytllaajkpobpeiaa
