/- Els: a slice of anything. -/
import Derived.Test.YtgaoplbocjadaaaYDRa
import Derived.Lib.SmallJoins
import Derived.Deep.Slices
import Derived.Test.YtgaoplbocjadaaaYDzl
import Derived.Test.YtgaoplbocjadaaaYDzp
import Derived.Test.YtgaoplbocjadaaaYDo
import Derived.Deep.CutBlock
namespace Go.Proofs.Ytgaoplbocjadaaa
open Go.RowKit Go.Joins Go.ChangeShapes Go.WideShapes Go.Deep
set_option linter.unusedSimpArgs false
set_option linter.unusedVariables false

theorem add_plainE (b o i : Nat) : (⟨b, o, none⟩ : Addr).add i = ⟨b, o + i, none⟩ := by unfold Addr.add; split <;> simp_all
/-- The slice '.slice A n c' of things of k cells reads as fs; C tells what a thing's cells are. -/
structure Els {D : Type} (C : World → Nat → Nat → D → Prop) (k : Nat) (w : World) (B : Nat) (A : Option Addr) (n c : Nat) (fs : Nat → D) : Prop where
  cap : n ≤ c
  max : c ≤ maxLen
  cells : 0 < n → ∃ b off, A = some ⟨b, off, none⟩ ∧ b < B ∧ ∀ i, i < n → C w b (off + i * k) (fs i)
theorem Els.below {D : Type} {C : World → Nat → Nat → D → Prop} {k : Nat} {w w' : World} {B : Nat} {A : Option Addr} {n c : Nat} {fs : Nat → D} (h : Els C k w B A n c fs)
    (hC : ∀ b o x, b < B → C w b o x → C w' b o x) : Els C k w' B A n c fs :=
  ⟨h.cap, h.max, fun hn => by
    obtain ⟨b, off, e, hlt, hc⟩ := h.cells hn
    exact ⟨b, off, e, hlt, fun i hi => hC _ _ _ hlt (hc i hi)⟩⟩
theorem els_of_trod {H : Type} {enc : TypeId × Value → H} {P : Program} {w : World} {T E : TypeId} (hT : P.underlying T = some (.slice E)) {k : Nat} (hk : P.cellsOf E = k) (hk0 : 0 < k)
    {D : Type} (x0 : D) (C : World → Nat → Nat → D → Prop)
    (hC : ∀ fuel cs (x : DataW H × List MemPlace) b o, DataW.trod enc P w 0 (fun _ => true) true fuel E cs = some x → cs.length = k → (∀ j, j < k → w.cell? ⟨b, o + j, none⟩ = cs[j]?) → ∃ f, C w b o f)
    {fuel : Nat} {A : Option Addr} {n c : Nat} {x : DataW H × List MemPlace} (h : DataW.trod enc P w 0 (fun _ => true) true fuel T [.slice A n c] = some x) : ∃ fs, Els C k w w.heap.size A n c fs := by
  rcases open_slice hT h with ⟨hcs, _⟩ | ⟨a, len, cap, m, n', D, Pl, hcs, _, hl, hm, hmm, _, hi⟩
  · simp at hcs
    obtain ⟨rfl, rfl, rfl⟩ := hcs
    exact ⟨fun _ => x0, Nat.le_refl _, by simp [maxLen], fun h => absurd h (by omega)⟩
  · simp at hcs
    obtain ⟨rfl, rfl, rfl⟩ := hcs
    simp at hmm
    subst hmm
    rw [hk] at hi
    rcases Nat.eq_zero_or_pos n with h0 | h0
    · subst h0
      exact ⟨fun _ => x0, hl, hm, fun h => absurd h (by omega)⟩
    · obtain ⟨b, off, spot⟩ := a
      obtain ⟨cs0, hc0, ht0⟩ := hi 0 (by omega)
      obtain ⟨_, hcl0, hat0⟩ := World.cells?_some hc0
      have k0 := hat0 0 (by omega)
      rw [List.getElem?_eq_getElem (by omega)] at k0
      have hspot : spot = none := by simpa [Addr.add] using World.cell?_spot k0
      subst hspot
      have hb : b < w.heap.size := by have := block_lt_of_cell k0; simpa [Addr.add] using this
      have hex : ∀ i, ∃ f, i < n → C w b (off + i * k) f := fun i => by
        by_cases hin : i < n
        · obtain ⟨cs, hc, ht⟩ := hi i (by omega)
          obtain ⟨_, hcl, hat⟩ := World.cells?_some hc
          obtain ⟨f, hf⟩ := hC _ cs _ b (off + i * k) ht hcl (fun j hj => by
            have := hat j hj
            rw [add_plainE, add_plainE] at this
            exact this)
          exact ⟨f, fun _ => hf⟩
        · exact ⟨x0, fun h => absurd h hin⟩
      exact ⟨fun i => Classical.choose (hex i), hl, hm, fun _ => ⟨b, off, rfl, hb, fun i hi => Classical.choose_spec (hex i) hi⟩⟩
end Go.Proofs.Ytgaoplbocjadaaa
namespace Go.Proofs.Ytgaoplbocjadaaa
open Go.RowKit
set_option linter.unusedSimpArgs false
set_option linter.unusedVariables false
/-- A slot. -/
structure SlV where
  i : Int
  j : Int
  n : Int
structure SlC (w : World) (b o : Nat) (x : SlV) : Prop where
  c0 : w.cell? ⟨b, o, none⟩ = some (.int .i64 x.i)
  c1 : w.cell? ⟨b, o + 1, none⟩ = some (.int .i64 x.j)
  c2 : w.cell? ⟨b, o + 2, none⟩ = some (.int .i64 x.n)
theorem SlC.below {w w' : World} {B b o : Nat} {x : SlV} (h : SlC w b o x) (hlt : b < B) (hb : Below B w w') : SlC w' b o x :=
  ⟨(hb.cell (p := ⟨b, o, none⟩) hlt).trans h.c0, (hb.cell (p := ⟨b, o + 1, none⟩) hlt).trans h.c1, (hb.cell (p := ⟨b, o + 2, none⟩) hlt).trans h.c2⟩
def SlV.q (s : SlV) : Int := numI s.i s.j
def entS (T : List (Int × Ent)) (s : SlV) : Ent := thI e0 s.q T
def mapB (T : List (Int × Ent)) (s : SlV) : Bool := decide (hasI s.q T = true ∧ 0 < kSize (entS T s).k ∧ kSize (entS T s).k * 8 = s.n ∧ ¬ (entS T s).a = 4)
theorem mapB_iff {T : List (Int × Ent)} {s : SlV} : mapB T s = true ↔ hasI s.q T = true ∧ 0 < kSize (entS T s).k ∧ kSize (entS T s).k * 8 = s.n ∧ ¬ (entS T s).a = 4 := decide_eq_true_iff
theorem size_in (k : Int) : kSize k = 0 ∨ kSize k = 1 ∨ kSize k = 2 ∨ kSize k = 4 := by
  unfold kSize
  repeat' split
  all_goals omega
theorem mapB_bits {T : List (Int × Ent)} {s : SlV} (h : mapB T s = true) : s.n = 8 ∨ s.n = 16 ∨ s.n = 32 := by
  obtain ⟨_, h1, h2, _⟩ := mapB_iff.1 h
  have := size_in (entS T s).k
  omega
theorem th_good {T : List (Int × Ent)} (hG : Good T) {q : Int} (h : hasI q T = true) : okE (q, thI e0 q T) := by
  obtain ⟨x, hx, rfl⟩ := (hasI_iff hG.rise).1 h
  rw [thI_of hG.rise hx]
  exact hG.ok x hx
theorem mapB_len {T : List (Int × Ent)} (hG : Good T) {s : SlV} (h : mapB T s = true) : ((entS T s).b.length : Int) * 8 = s.n := by
  obtain ⟨h0, h1, h2, _⟩ := mapB_iff.1 h
  have hk := th_good hG h0
  have hk8 : ¬ (entS T s).k = 8 := fun e => by rw [e] at h1; exact absurd h1 (by decide)
  have h3 : ((entS T s).b.length : Int) = kSize (entS T s).k := (fits_len hk.2.1).2.2 hk8
  omega
def chkG (mp : SlV → Bool) (fs : Nat → SlV) : Nat → Nat → Int → Int
  | 0, _, _ => 0
  | m + 1, i, b => if mp (fs i) = false then 100925505 else if 64 < b + (fs i).n then 100925506 else chkG mp fs m (i + 1) (b + (fs i).n)
def chkE (mp : SlV → Bool) (fs : Nat → SlV) (n : Nat) : Int := if 8 < n then 100925506 else chkG mp fs n 0 0
def szF (fs : Nat → SlV) : Nat → Nat → Int → Int
  | 0, _, a => a
  | m + 1, i, a => if (fs i).n = 8 ∨ (fs i).n = 16 ∨ (fs i).n = 32 then szF fs m (i + 1) (a + (fs i).n / 8) else 0
def szE (fs : Nat → SlV) (n : Nat) : Int := if 8 < n then 0 else szF fs n 0 0
def pkF (T : List (Int × Ent)) (fs : Nat → SlV) : Nat → Nat → List Int
  | 0, _ => []
  | m + 1, i => (entS T (fs i)).b ++ pkF T fs m (i + 1)
theorem chkG_in (T : List (Int × Ent)) (fs : Nat → SlV) : ∀ (m i : Nat) (b : Int), chkG (mapB T) fs m i b = 0 → ∀ j, i ≤ j → j < i + m → mapB T (fs j) = true
  | 0, i, b, _, j, h1, h2 => by omega
  | m + 1, i, b, h, j, h1, h2 => by
    unfold chkG at h
    split at h
    · cases h
    split at h
    · cases h
    rename_i hm hb
    by_cases hj : j = i
    · subst hj
      simpa using hm
    · exact chkG_in T fs m (i + 1) _ h j (by omega) (by omega)
theorem chkG_len {T : List (Int × Ent)} (hG : Good T) (fs : Nat → SlV) : ∀ (m i : Nat) (b : Int), chkG (mapB T) fs m i b = 0 → b ≤ 64 → b + 8 * ((pkF T fs m i).length : Int) ≤ 64
  | 0, i, b, _, hb => by simp [pkF]; omega
  | m + 1, i, b, h, hb => by
    unfold chkG at h
    split at h
    · cases h
    split at h
    · cases h
    rename_i hm hb2
    have hl := mapB_len hG (s := fs i) (by simpa using hm)
    have := chkG_len hG fs m (i + 1) _ h (by omega)
    simp only [pkF, List.length_append]
    omega
theorem szF_len {T : List (Int × Ent)} (hG : Good T) (fs : Nat → SlV) : ∀ (m i : Nat) (a : Int), (∀ j, i ≤ j → j < i + m → mapB T (fs j) = true) → szF fs m i a = a + ((pkF T fs m i).length : Int)
  | 0, i, a, _ => by simp [szF, pkF]
  | m + 1, i, a, h => by
    have hm := h i (by omega) (by omega)
    have hl := mapB_len hG hm
    have hb := mapB_bits hm
    unfold szF
    rw [if_pos hb, szF_len hG fs m (i + 1) _ (fun j h1 h2 => h j (by omega) (by omega))]
    simp only [pkF, List.length_append]
    omega
theorem chkE_zero {T : List (Int × Ent)} {fs : Nat → SlV} {n : Nat} (h : chkE (mapB T) fs n = 0) : n ≤ 8 ∧ chkG (mapB T) fs n 0 0 = 0 := by
  unfold chkE at h
  split at h
  · cases h
  · exact ⟨by omega, h⟩
theorem chkE_sz {T : List (Int × Ent)} (hG : Good T) {fs : Nat → SlV} {n : Nat} (h : chkE (mapB T) fs n = 0) : szE fs n = ((pkF T fs n 0).length : Int) ∧ (pkF T fs n 0).length ≤ 8 := by
  obtain ⟨h8, hc⟩ := chkE_zero h
  have h1 := szF_len hG fs n 0 0 (fun j _ hj => chkG_in T fs n 0 0 hc j (by omega) (by omega))
  have h2 := chkG_len hG fs n 0 0 hc (by omega)
  refine ⟨?_, by omega⟩
  unfold szE
  rw [if_neg (by omega), h1]
  omega
theorem pkF_rng {T : List (Int × Ent)} (hG : Good T) (fs : Nat → SlV) : ∀ (m i : Nat), ∀ y ∈ pkF T fs m i, 0 ≤ y ∧ y ≤ 255
  | 0, i, y, h => by simp [pkF] at h
  | m + 1, i, y, h => by
    simp only [pkF, List.mem_append] at h
    rcases h with h | h
    · exact (th_ok hG _).1 y h
    · exact pkF_rng hG fs m (i + 1) y h
theorem pkF_snoc (T : List (Int × Ent)) (fs : Nat → SlV) : ∀ (m i : Nat), pkF T fs (m + 1) i = pkF T fs m i ++ (entS T (fs (i + m))).b
  | 0, i => by simp [pkF]
  | m + 1, i => by
    show (entS T (fs i)).b ++ pkF T fs (m + 1) (i + 1) = ((entS T (fs i)).b ++ pkF T fs m (i + 1)) ++ _
    rw [pkF_snoc T fs m (i + 1), List.append_assoc, show i + 1 + m = i + (m + 1) by omega]
end Go.Proofs.Ytgaoplbocjadaaa
namespace Go.Proofs.Ytgaoplbocjadaaa
open Go.RowKit
set_option linter.unusedSimpArgs false
set_option linter.unusedVariables false
def Sl3 (w : World) (g : Nat) (i j n : Int) : Prop := w.heap[g]? = some (.cells #[.int .i64 i, .int .i64 j, .int .i64 n] 26 (0, 0))
theorem Sl3.below {w w' : World} {g : Nat} {i j n : Int} (h : Sl3 w g i j n) (hb : Below w.heap.size w w') : Sl3 w' g i j n := (hb.block _ (Array.getElem?_eq_some_iff.1 h).1).trans h
theorem Sl3.cells {w : World} {g : Nat} {i j n : Int} (h : Sl3 w g i j n) : w.cell? ⟨g, 0, none⟩ = some (.int .i64 i) ∧ w.cell? ⟨g, 1, none⟩ = some (.int .i64 j) ∧ w.cell? ⟨g, 2, none⟩ = some (.int .i64 n) := by
  refine ⟨?_, ?_, ?_⟩ <;> (rw [cell_of_row _ _ _ _ _ _ h]; rfl)
def mpB (E : Ent) (b : Bool) (n : Int) : Bool := decide (b = true ∧ 0 < kSize E.k ∧ kSize E.k * 8 = n ∧ ¬ E.a = 4)
def SpecC (w : World) (P : Option Addr) (i j : Int) (E : Ent) (b : Bool) : Prop := ∀ x, Below w.heap.size w x → Calls Try.prog 74 #[.pointer P, .agg #[.int .i64 i, .int .i64 j]] x fun e w' => e = .returned (.tuple #[.agg #[.int .i64 E.k, .int .i64 E.a, .int .i64 E.lo, .int .i64 E.hi], .bool b]) ∧ Below x.heap.size x w'
set_option maxRecDepth 100000 in
set_option maxHeartbeats 2000000 in
theorem mapped_any (w : World) (P : Option Addr) (si sj sn : Int) (E : Ent) (b : Bool) (hS : SpecC w P si sj E b) :
    Calls Try.prog 70 #[.pointer P, .agg #[.int .i64 si, .int .i64 sj, .int .i64 sn]] w fun e w' => e = .returned (.bool (mpB E b sn)) ∧ Below w.heap.size w w' := by
  have hb0 : Below w.heap.size w (w.alloc (.cells #[.int .i64 si, .int .i64 sj, .int .i64 sn] 26)) := (Below.refl _ _).alloc (Nat.le_refl _) _
  have hx0 : Sl3 (w.alloc (.cells #[.int .i64 si, .int .i64 sj, .int .i64 sn] 26)) w.heap.size si sj sn := heap_alloc_new w _
  obtain ⟨ek, ea, el, eh, eb⟩ := E
  unfold SpecC at hS
  dsimp only at hS
  have HS := Lib.hid hS
  have HB0 := Lib.hid hb0
  have HX0 := Lib.hid hx0
  obtain ⟨s0, s1, s2⟩ := hx0.cells
  have HSZ := Lib.hid (fun w => size_any ek w)
  have HSI := Lib.hid (size_in ek)
  generalize hv : mpB ⟨ek, ea, el, eh, eb⟩ b sn = v
  unfold mpB at hv
  dsimp only at hv
  generalize kSize ek = KS at *
  have HV := Lib.hid hv
  clear hv
  clear hS hb0 hx0
  go_enter Try.func70, Try.ntmps70
  go_wp2_with fail
  generalize (w.alloc (.cells #[.int .i64 si, .int .i64 sj, .int .i64 sn] 26)) = w0 at *
  refine (HS.out w0 HB0.out).mono ?_
  rintro e w1 ⟨rfl, hb1⟩
  have hba : Below w1.heap.size w1 (w1.alloc (.cells #[.int .i64 ek, .int .i64 ea, .int .i64 el, .int .i64 eh] 75)) := (Below.refl _ _).alloc (Nat.le_refl _) _
  have HB2 := Lib.hid (kF hba (kF hb1 HB0.out))
  have HX2 := Lib.hid ((HX0.out.below hb1).below hba)
  have HP2 : Hid (Spc (w1.alloc (.cells #[.int .i64 ek, .int .i64 ea, .int .i64 el, .int .i64 eh] 75)) w1.heap.size ek ea el eh) := Lib.hid (heap_alloc_new w1 _)
  clear hb1 hba s0 s1 s2 HS HX0 HB0
  obtain ⟨p0, p1, p2, p3⟩ := HP2.out.cells
  go_wp2_with fail
  generalize w1.alloc (.cells #[.int .i64 ek, .int .i64 ea, .int .i64 el, .int .i64 eh] 75) = w2 at *
  generalize w1.heap.size = g1 at *
  refine (HSZ.out w2).mono ?_
  rintro e w3 ⟨rfl, hb3⟩
  have HB3 := Lib.hid (kF hb3 HB2.out)
  obtain ⟨s0, s1, s2⟩ := (HX2.out.below hb3).cells
  clear p0 p1 p2 p3
  obtain ⟨p0, p1, p2, p3⟩ := (HP2.out.below hb3).cells
  clear hb3 HB2 HX2 HP2 HSZ
  have iw : IntKind.i64.wrap (KS * 8) = KS * 8 := IntWalk.i64_in _ (by have := HSI.out; omega)
  cases b with
  | false =>
    have HVv : Hid (v = false) := Lib.hid (by rw [← HV.out]; exact decide_eq_false (fun h => by cases h.1))
    go_wp2_with fail
    go_ret
    exact ⟨by rw [HVv.out]; rfl, HB3.out⟩
  | true =>
    by_cases h0 : 0 < KS
    · by_cases h1 : KS * 8 = sn
      · have h1b : (KS * 8 == sn) = true := by simp [h1]
        by_cases h2 : ea = 4
        · have e4 : (ea != 4) = false := by simp [h2]
          have HVv : Hid (v = false) := Lib.hid (by rw [← HV.out]; exact decide_eq_false (fun h => h.2.2.2 h2))
          clear h1
          go_wp2_with fail
          go_ret
          exact ⟨by rw [HVv.out]; rfl, HB3.out⟩
        · have e4 : (ea != 4) = true := by simp [h2]
          have HVv : Hid (v = true) := Lib.hid (by rw [← HV.out]; exact decide_eq_true ⟨rfl, h0, h1, h2⟩)
          clear h1
          go_wp2_with fail
          go_ret
          exact ⟨by rw [HVv.out]; rfl, HB3.out⟩
      · have h1b : (KS * 8 == sn) = false := by simp [h1]
        have HVv : Hid (v = false) := Lib.hid (by rw [← HV.out]; exact decide_eq_false (fun h => h1 h.2.2.1))
        go_wp2_with fail
        go_ret
        exact ⟨by rw [HVv.out]; rfl, HB3.out⟩
    · have HVv : Hid (v = false) := Lib.hid (by rw [← HV.out]; exact decide_eq_false (fun h => h0 h.2.1))
      go_wp2_with fail
      go_ret
      exact ⟨by rw [HVv.out]; rfl, HB3.out⟩
set_option maxRecDepth 100000 in
set_option maxHeartbeats 2000000 in
theorem check_any (w : World) (P A : Option Addr) (n c : Nat) (fs : Nat → SlV) (mp : SlV → Bool) (hL : Els SlC 3 w w.heap.size A n c fs) (hmp : ∀ s, mp s = true → s.n = 8 ∨ s.n = 16 ∨ s.n = 32)
    (hM : ∀ (x : World) (s : SlV), Below w.heap.size w x → Calls Try.prog 70 #[.pointer P, .agg #[.int .i64 s.i, .int .i64 s.j, .int .i64 s.n]] x fun e w' => e = .returned (.bool (mp s)) ∧ Below x.heap.size x w') :
    Calls Try.prog 24 #[.pointer P, .slice A n c] w fun e w' => e = .returned (.int .i64 (chkE mp fs n)) ∧ Below w.heap.size w w' := by
  have hcap := hL.cap
  have hmax := hL.max
  simp only [maxLen] at hmax
  have HC := Lib.hid (fun (x : World) (hx : Below w.heap.size w x) (h0 : 0 < n) => show ∃ b off, A = some ⟨b, off, none⟩ ∧ b < w.heap.size ∧ ∀ i, i < n → SlC x b (off + i * 3) (fs i) from by
    obtain ⟨b, off, e, hb, h⟩ := hL.cells h0
    exact ⟨b, off, e, hb, fun i hi => (h i hi).below hb hx⟩)
  have HM := Lib.hid hM
  have HMP := Lib.hid hmp
  clear hM hmp hL
  by_cases h8 : 8 < n
  · have h8I : (8 : Int) < (n : Int) := by omega
    have HE : Hid (chkE mp fs n = 100925506) := Lib.hid (if_pos h8)
    go_enter Try.func24, Try.ntmps24
    go_wp2_with fail
    go_ret
    exact ⟨by rw [HE.out]; rfl, Below.refl _ _⟩
  · have h8I : ¬ (8 : Int) < (n : Int) := by omega
    have HE : Hid (chkE mp fs n = chkG mp fs n 0 0) := Lib.hid (if_neg h8)
    go_enter Try.func24, Try.ntmps24
    go_wp2_with fail
    go_loopw [5, 13] (fun t5 t13 wr => ∃ (i : Nat) (b : Int), i ≤ n ∧ t5 = .int .i64 b ∧ t13 = .int .i64 i ∧ Hid (chkE mp fs n = chkG mp fs (n - i) i b) ∧ Hid (0 ≤ b ∧ b ≤ 64) ∧ Hid (Below w.heap.size w wr)) (fun _ t _ => n - (intOf t).toNat)
    case atStart => exact ⟨0, 0, by omega, rfl, rfl, Lib.hid HE.out, Lib.hid (by omega), Lib.hid (Below.refl _ _)⟩
    case round =>
      clear HE
      obtain ⟨i, b, hi, rfl, rfl, HR, HB, HW⟩ := hrel
      by_cases hlt : i < n
      · have hiI : (i : Int) < (n : Int) := by omega
        obtain ⟨bk, off, rfl, hbk, hcs⟩ := HC.out wr HW.out (by omega)
        have hc := hcs i hlt
        have HRS : Hid (chkE mp fs n = if mp (fs i) = false then 100925505 else if 64 < b + (fs i).n then 100925506 else chkG mp fs (n - (i + 1)) (i + 1) (b + (fs i).n)) := Lib.hid (by rw [HR.out, show n - i = (n - (i + 1)) + 1 by omega]; rfl)
        have HMx := Lib.hid (HM.out)
        have HMB := Lib.hid (HMP.out (fs i))
        obtain ⟨c0, c1, c2⟩ := hc
        generalize fs i = s at *
        have HMs := Lib.hid (fun x hx => HM.out x s hx)
        generalize mp s = ms at *
        obtain ⟨si, sj, sn⟩ := s
        dsimp only at c0 c1 c2 HMs HRS HMB
        clear hcs HR
        go_wp2_with fail
        have hba : Below w.heap.size w (wr.alloc (.cells #[.int .i64 si, .int .i64 sj, .int .i64 sn] 26)) := HW.out.alloc HW.out.size _
        have hx0 : Sl3 (wr.alloc (.cells #[.int .i64 si, .int .i64 sj, .int .i64 sn] 26)) wr.heap.size si sj sn := heap_alloc_new wr _
        have HBA := Lib.hid hba
        have HX0 := Lib.hid hx0
        clear hba hx0 c0 c1 c2
        generalize wr.alloc (.cells #[.int .i64 si, .int .i64 sj, .int .i64 sn] 26) = w1 at *
        generalize wr.heap.size = g1 at *
        obtain ⟨s0, s1, s2⟩ := HX0.out.cells
        go_wp2_with fail
        refine (HMs.out w1 HBA.out).mono ?_
        rintro e w2 ⟨rfl, hb2⟩
        have HB2 : Hid (Below w.heap.size w w2) := Lib.hid (HBA.out.trans (hb2.mono HBA.out.size))
        have HX2 := Lib.hid (HX0.out.below hb2)
        clear hb2 s0 s1 s2 HBA HX0
        obtain ⟨s0, s1, s2⟩ := HX2.out.cells
        cases ms with
        | false =>
          have HV : Hid (chkE mp fs n = 100925505) := Lib.hid (by rw [HRS.out, if_pos rfl])
          go_wp2_with fail
          go_ret
          exact ⟨by rw [HV.out]; rfl, HB2.out⟩
        | true =>
          have h32 := HMB.out rfl
          have hb0 := HB.out
          have iw : IntKind.i64.wrap (b + sn) = b + sn := IntWalk.i64_in _ (by omega)
          have hnx : Hid (0 ≤ b + sn) := Lib.hid (by omega)
          by_cases h64 : 64 < b + sn
          · have HV : Hid (chkE mp fs n = 100925506) := Lib.hid (by rw [HRS.out, if_neg (by simp), if_pos h64])
            clear h32 hb0
            go_wp2_with fail
            go_ret
            exact ⟨by rw [HV.out]; rfl, HB2.out⟩
          · have HV : Hid (chkE mp fs n = chkG mp fs (n - (i + 1)) (i + 1) (b + sn)) := Lib.hid (by rw [HRS.out, if_neg (by simp), if_neg h64])
            have HN : Hid (0 ≤ b + sn ∧ b + sn ≤ 64) := Lib.hid (by omega)
            clear h32 hb0
            go_wp2_with fail
            exact ⟨⟨i + 1, b + sn, by omega, rfl, by go_num, HV, HN, HB2⟩, by simp [intOf]; omega⟩
      · have HV : Hid (chkE mp fs n = 0) := Lib.hid (by rw [HR.out, show n - i = 0 by omega]; rfl)
        go_wp2_with fail
        go_ret
        exact ⟨by rw [HV.out]; rfl, HW.out⟩
set_option maxRecDepth 100000 in
set_option maxHeartbeats 2000000 in
theorem psize_any (w : World) (A : Option Addr) (n c : Nat) (fs : Nat → SlV) (hL : Els SlC 3 w w.heap.size A n c fs) :
    Calls Try.prog 26 #[.slice A n c] w fun e w' => e = .returned (.int .i64 (szE fs n)) ∧ Below w.heap.size w w' := by
  have hcap := hL.cap
  have hmax := hL.max
  simp only [maxLen] at hmax
  have HC := Lib.hid (fun (x : World) (hx : Below w.heap.size w x) (h0 : 0 < n) => show ∃ b off, A = some ⟨b, off, none⟩ ∧ b < w.heap.size ∧ ∀ i, i < n → SlC x b (off + i * 3) (fs i) from by
    obtain ⟨b, off, e, hb, h⟩ := hL.cells h0
    exact ⟨b, off, e, hb, fun i hi => (h i hi).below hb hx⟩)
  clear hL
  by_cases h8 : 8 < n
  · have h8I : (8 : Int) < (n : Int) := by omega
    have HE : Hid (szE fs n = 0) := Lib.hid (if_pos h8)
    go_enter Try.func26, Try.ntmps26
    go_wp2_with fail
    go_ret
    exact ⟨by rw [HE.out]; rfl, Below.refl _ _⟩
  · have h8I : ¬ (8 : Int) < (n : Int) := by omega
    have HE : Hid (szE fs n = szF fs n 0 0) := Lib.hid (if_neg h8)
    go_enter Try.func26, Try.ntmps26
    go_wp2_with fail
    go_loopw [3, 11] (fun t3 t11 wr => ∃ (i : Nat) (b : Int), i ≤ n ∧ t3 = .int .i64 b ∧ t11 = .int .i64 i ∧ Hid (szE fs n = szF fs (n - i) i b) ∧ Hid (0 ≤ b ∧ b ≤ 4 * i) ∧ Hid (Below w.heap.size w wr)) (fun _ t _ => n - (intOf t).toNat)
    case atStart => exact ⟨0, 0, by omega, rfl, rfl, Lib.hid HE.out, Lib.hid (by omega), Lib.hid (Below.refl _ _)⟩
    case round =>
      clear HE
      obtain ⟨i, b, hi, rfl, rfl, HR, HB, HW⟩ := hrel
      by_cases hlt : i < n
      · have hiI : (i : Int) < (n : Int) := by omega
        obtain ⟨bk, off, rfl, hbk, hcs⟩ := HC.out wr HW.out (by omega)
        have hc := hcs i hlt
        have HRS : Hid (szE fs n = if (fs i).n = 8 ∨ (fs i).n = 16 ∨ (fs i).n = 32 then szF fs (n - (i + 1)) (i + 1) (b + (fs i).n / 8) else 0) := Lib.hid (by rw [HR.out, show n - i = (n - (i + 1)) + 1 by omega]; rfl)
        obtain ⟨c0, c1, c2⟩ := hc
        generalize fs i = s at *
        obtain ⟨si, sj, sn⟩ := s
        dsimp only at c0 c1 c2 HRS
        clear hcs HR
        have HBA : Hid (Below w.heap.size w (wr.alloc (.cells #[.int .i64 si, .int .i64 sj, .int .i64 sn] 26))) := Lib.hid (HW.out.alloc HW.out.size _)
        have hb0 := HB.out
        have e8 : sn = 8 ∨ sn = 16 ∨ sn = 32 ∨ (¬ sn = 8 ∧ ¬ sn = 16 ∧ ¬ sn = 32) := by omega
        rcases e8 with rfl | rfl | rfl | ⟨n1, n2, n3⟩
        · have HV : Hid (szE fs n = szF fs (n - (i + 1)) (i + 1) (b + 1)) := Lib.hid (by rw [HRS.out, if_pos (by simp)]; rfl)
          have HN : Hid (0 ≤ b + 1 ∧ b + 1 ≤ 4 * ((i + 1 : Nat) : Int)) := Lib.hid (by omega)
          have iw : IntKind.i64.wrap (b + 1) = b + 1 := IntWalk.i64_in _ (by omega)
          have i1 : IntKind.i64.wrap (1 : Int) = 1 := IntWalk.i64_in _ (by omega)
          clear hb0
          go_wp2_with fail
          exact ⟨⟨i + 1, b + 1, by omega, rfl, by go_num, HV, HN, HBA⟩, by simp [intOf]; omega⟩
        · have HV : Hid (szE fs n = szF fs (n - (i + 1)) (i + 1) (b + 2)) := Lib.hid (by rw [HRS.out, if_pos (by simp)]; rfl)
          have HN : Hid (0 ≤ b + 2 ∧ b + 2 ≤ 4 * ((i + 1 : Nat) : Int)) := Lib.hid (by omega)
          have iw : IntKind.i64.wrap (b + 2) = b + 2 := IntWalk.i64_in _ (by omega)
          have i1 : IntKind.i64.wrap (2 : Int) = 2 := IntWalk.i64_in _ (by omega)
          clear hb0
          go_wp2_with fail
          exact ⟨⟨i + 1, b + 2, by omega, rfl, by go_num, HV, HN, HBA⟩, by simp [intOf]; omega⟩
        · have HV : Hid (szE fs n = szF fs (n - (i + 1)) (i + 1) (b + 4)) := Lib.hid (by rw [HRS.out, if_pos (by simp)]; rfl)
          have HN : Hid (0 ≤ b + 4 ∧ b + 4 ≤ 4 * ((i + 1 : Nat) : Int)) := Lib.hid (by omega)
          have iw : IntKind.i64.wrap (b + 4) = b + 4 := IntWalk.i64_in _ (by omega)
          have i1 : IntKind.i64.wrap (4 : Int) = 4 := IntWalk.i64_in _ (by omega)
          clear hb0
          go_wp2_with fail
          exact ⟨⟨i + 1, b + 4, by omega, rfl, by go_num, HV, HN, HBA⟩, by simp [intOf]; omega⟩
        · have HV : Hid (szE fs n = 0) := Lib.hid (by rw [HRS.out, if_neg (by omega)])
          have m1 : (sn == 8) = false := by simp [n1]
          have m2 : (sn == 16) = false := by simp [n2]
          have m3 : (sn == 32) = false := by simp [n3]
          clear hb0
          go_wp2_with fail
          go_ret
          exact ⟨by rw [HV.out]; rfl, HBA.out⟩
      · have HV : Hid (szE fs n = b) := Lib.hid (by rw [HR.out, show n - i = 0 by omega]; rfl)
        go_wp2_with fail
        go_ret
        exact ⟨by rw [HV.out]; rfl, HW.out⟩
end Go.Proofs.Ytgaoplbocjadaaa
