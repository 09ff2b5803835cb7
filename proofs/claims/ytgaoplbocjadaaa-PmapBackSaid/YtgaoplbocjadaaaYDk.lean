/- Add. -/
import Derived.Test.YtgaoplbocjadaaaYDj
namespace Go.Proofs.Ytgaoplbocjadaaa
open Go.RowKit
set_option linter.unusedSimpArgs false
set_option linter.unusedVariables false
def firA (k a lo hi : Int) (l : List Int) : List Int := if l = [] then firL k a lo hi else l
def addE (i j k a lo hi : Int) (l : List Int) (T : List (Int × Ent)) : Int :=
  if okN i j = false ∨ mayB k a lo hi = false then 2 else if ¬ fitsA k a lo hi (firA k a lo hi l) = 0 then 14 else if hasI (numI i j) T = true then 8 else if 512 ≤ T.length then 6 else 0
def addT (i j k a lo hi : Int) (l : List Int) (T : List (Int × Ent)) : List (Int × Ent) :=
  if addE i j k a lo hi l T = 0 then putI (numI i j) ⟨k, a, lo, hi, firA k a lo hi l⟩ T else T
set_option maxRecDepth 100000 in
set_option maxHeartbeats 2000000 in
theorem add_bad (w : World) (base g s : Nat) (T : List (Int × Ent)) (ch : Int) (v : Value) (i j k a lo hi : Int) (l : List Int) (A : Option Addr) (n c : Nat) (hx : okN i j = false ∨ mayB k a lo hi = false) :
    Calls Try.prog 41 #[.pointer (some ⟨g, 0, none⟩), .agg #[.int .i64 i, .int .i64 j], .agg #[.int .i64 k, .int .i64 a, .int .i64 lo, .int .i64 hi], .slice A n c] w fun e w' => e = .returned (.int .i64 2) ∧ Below w.heap.size w w' := by
  have hz := numI_zero i j
  have hb0 : Below w.heap.size w ((w.alloc (.cells #[.int .i64 i, .int .i64 j] 24)).alloc (.cells #[.int .i64 k, .int .i64 a, .int .i64 lo, .int .i64 hi] 75)) := ((Below.refl _ _).alloc (Nat.le_refl _) _).alloc (by simp) _
  have hk0 : Key2 ((w.alloc (.cells #[.int .i64 i, .int .i64 j] 24)).alloc (.cells #[.int .i64 k, .int .i64 a, .int .i64 lo, .int .i64 hi] 75)) w.heap.size i j := heap_alloc2_old w _ _
  have hp0 : Spc ((w.alloc (.cells #[.int .i64 i, .int .i64 j] 24)).alloc (.cells #[.int .i64 k, .int .i64 a, .int .i64 lo, .int .i64 hi] 75)) (w.heap.size + 1) k a lo hi := heap_alloc2_new w _ _
  have HB0 := Lib.hid hb0
  have HK0 := Lib.hid hk0
  have HP0 := Lib.hid hp0
  obtain ⟨c0, c1⟩ := hk0.cells
  obtain ⟨p0, p1, p2, p3⟩ := hp0.cells
  have HNU := Lib.hid (fun x => number_any i j x)
  have HMA := Lib.hid (fun x => may_any k a lo hi x)
  cases ho : okN i j with
  | false =>
    rw [ho] at hz
    generalize numI i j = q at hz HNU
    have hz' : (q == 0) = true := by simpa using hz
    clear hx ho hb0 hk0 hp0 hz
    go_enter Try.func41, Try.ntmps41
    go_wp2_with fail
    generalize ((w.alloc (.cells #[.int .i64 i, .int .i64 j] 24)).alloc (.cells #[.int .i64 k, .int .i64 a, .int .i64 lo, .int .i64 hi] 75)) = w0 at *
    refine (HNU.out _).mono ?_
    rintro e w1 ⟨rfl, hb1⟩
    have HB1 := Lib.hid (kF hb1 HB0.out)
    clear hb1 c0 c1 p0 p1 p2 p3
    go_wp2_with fail
    go_ret
    exact ⟨rfl, HB1.out⟩
  | true =>
    rw [ho] at hz
    have hm : mayB k a lo hi = false := hx.resolve_left (by simp [ho])
    rw [hm] at HMA
    generalize numI i j = q at hz HNU
    have hz' : (q == 0) = false := by simpa using hz
    clear hx ho hb0 hk0 hp0 hz hm
    go_enter Try.func41, Try.ntmps41
    go_wp2_with fail
    generalize ((w.alloc (.cells #[.int .i64 i, .int .i64 j] 24)).alloc (.cells #[.int .i64 k, .int .i64 a, .int .i64 lo, .int .i64 hi] 75)) = w0 at *
    refine (HNU.out _).mono ?_
    rintro e w1 ⟨rfl, hb1⟩
    have HB1 := Lib.hid (kF hb1 HB0.out)
    have HP1 := Lib.hid (HP0.out.below hb1)
    clear hb1 c0 c1 p0 p1 p2 p3
    obtain ⟨p0, p1, p2, p3⟩ := HP1.out.cells
    go_wp2_with fail
    refine (HMA.out _).mono ?_
    rintro e w2 ⟨rfl, hb2⟩
    have HB2 := Lib.hid (kF hb2 HB1.out)
    clear hb2 p0 p1 p2 p3
    go_wp2_with fail
    go_ret
    exact ⟨rfl, HB2.out⟩
/-- What comes of a name, a spec that may be, and first bytes. -/
def AddP (w : World) (base g s : Nat) (T : List (Int × Ent)) (ch : Int) (v : Value) (q num : Int) (hb : Bool) (E : Ent) (e : Ending) (w' : World) : Prop :=
  ((¬ q = 0 ∧ e = .returned (.int .i64 14)) ∨ (q = 0 ∧ hb = true ∧ e = .returned (.int .i64 8)) ∨ (q = 0 ∧ hb = false ∧ 512 ≤ T.length ∧ e = .returned (.int .i64 6)) ∨ (q = 0 ∧ hb = false ∧ ¬ 512 ≤ T.length ∧ e = .returned (.int .i64 0))) ∧
    GoD w base g s (if q = 0 ∧ hb = false ∧ ¬ 512 ≤ T.length then putI num E T else T) ch v w'
set_option maxRecDepth 100000 in
set_option maxHeartbeats 8000000 in
theorem add_ok (w : World) (base g s : Nat) (T : List (Int × Ent)) (ch : Int) (v : Value) (i j k a lo hi : Int) (l : List Int) (A : Option Addr) (n c : Nat) (F : List Int) (h : DiI w base g s T ch v) (hbase : base ≤ w.heap.size) (hT : T.length ≤ 900) (hs : Rise T) (hB : Byt w w.heap.size A n c l) (ho : okN i j = true) (hm : mayB k a lo hi = true) (hF : F = firA k a lo hi l) :
    Calls Try.prog 41 #[.pointer (some ⟨g, 0, none⟩), .agg #[.int .i64 i, .int .i64 j], .agg #[.int .i64 k, .int .i64 a, .int .i64 lo, .int .i64 hi], .slice A n c] w (AddP w base g s T ch v (fitsA k a lo hi F) (numI i j) (hasI (numI i j) T) ⟨k, a, lo, hi, F⟩) := by
  have hz := numI_zero i j
  rw [ho] at hz
  have hz' : (numI i j == 0) = false := by simpa using hz
  have hb0 : Below w.heap.size w ((w.alloc (.cells #[.int .i64 i, .int .i64 j] 24)).alloc (.cells #[.int .i64 k, .int .i64 a, .int .i64 lo, .int .i64 hi] 75)) := ((Below.refl _ _).alloc (Nat.le_refl _) _).alloc (by simp) _
  have hk0 : Key2 ((w.alloc (.cells #[.int .i64 i, .int .i64 j] 24)).alloc (.cells #[.int .i64 k, .int .i64 a, .int .i64 lo, .int .i64 hi] 75)) w.heap.size i j := heap_alloc2_old w _ _
  have hp0 : Spc ((w.alloc (.cells #[.int .i64 i, .int .i64 j] 24)).alloc (.cells #[.int .i64 k, .int .i64 a, .int .i64 lo, .int .i64 hi] 75)) (w.heap.size + 1) k a lo hi := heap_alloc2_new w _ _
  have HB0 := Lib.hid hb0
  have HK0 := Lib.hid hk0
  have HP0 := Lib.hid hp0
  obtain ⟨c0, c1⟩ := hk0.cells
  obtain ⟨p0, p1, p2, p3⟩ := hp0.cells
  have HNU0 := fun x => number_any i j x
  have HMA := fun x => may_any k a lo hi x
  rw [hm] at HMA
  have HMA := Lib.hid HMA
  have HGT0 := fun x (hx : Below w.heap.size w x) => dget_any x base g s T ch v i j (h.below hx) (by omega) hs
  have HPU0 := fun x (hx : Below w.heap.size w x) => tputE x base s T v (numI i j) ⟨k, a, lo, hi, F⟩ (h.sh.below hx) (by have := hx.size; omega) (by omega) hs
  have HFT0 := fun x A n c (hx : Byt x x.heap.size A n c F) => vfits_any k a lo hi x A n c F hx
  have HLN := Lib.hid (fun x (hx : Below w.heap.size w x) => dlen_any x base g s T ch v (h.below hx))
  have HH := Lib.hid (fun x (hx : Below w.heap.size w x) => (h.below hx).cells.1)
  have HOF := Lib.hid (fun x (hx : Below w.heap.size w x) => GoD.of_below h hx)
  have HFI0 := fun (w1 w2 : World) (v2 : Value) (hb : Below w.heap.size w w1) (hx : Sh 184 202 w2 base s (putI (numI i j) ⟨k, a, lo, hi, F⟩ T).length (fe (putI (numI i j) ⟨k, a, lo, hi, F⟩ T)) v2) (ho : v2.ownBlock = v.ownBlock ∨ ∃ b, v2.ownBlock = some b ∧ w1.heap.size ≤ b) (ht : Tch w1 w2 s v) => GoD.put h hb hx ho ht
  generalize fitsA k a lo hi F = q at HFT0 ⊢
  generalize numI i j = NQ at hz' HNU0 HGT0 HPU0 HFI0 ⊢
  generalize hasI NQ T = HBv at HGT0 HPU0 ⊢
  generalize thI e0 NQ T = E at HGT0
  obtain ⟨ek, ea, el, eh, eb⟩ := E
  dsimp only [entV] at HGT0 HPU0
  generalize strOfNums eb = ES at HGT0
  have HNU := Lib.hid HNU0
  have HGT := Lib.hid HGT0
  have HPU := Lib.hid HPU0
  have HFT := Lib.hid HFT0
  have HFI := Lib.hid HFI0
  have hgl := h.lt
  have hw0 : w.heap.size + 1 < ((w.alloc (.cells #[.int .i64 i, .int .i64 j] 24)).alloc (.cells #[.int .i64 k, .int .i64 a, .int .i64 lo, .int .i64 hi] 75)).heap.size := by simp
  have HKC := Lib.hid (fun x (hx : Below ((w.alloc (.cells #[.int .i64 i, .int .i64 j] 24)).alloc (.cells #[.int .i64 k, .int .i64 a, .int .i64 lo, .int .i64 hi] 75)).heap.size ((w.alloc (.cells #[.int .i64 i, .int .i64 j] 24)).alloc (.cells #[.int .i64 k, .int .i64 a, .int .i64 lo, .int .i64 hi] 75)) x) => (hk0.below hx).cells)
  have HPC := Lib.hid (fun x (hx : Below ((w.alloc (.cells #[.int .i64 i, .int .i64 j] 24)).alloc (.cells #[.int .i64 k, .int .i64 a, .int .i64 lo, .int .i64 hi] 75)).heap.size ((w.alloc (.cells #[.int .i64 i, .int .i64 j] 24)).alloc (.cells #[.int .i64 k, .int .i64 a, .int .i64 lo, .int .i64 hi] 75)) x) => (hp0.below hx).cells)
  have hB0 := Lib.hid (hB.step hb0)
  have hln := hB.len
  have hbm := byt_max hB
  clear h hs ho hm hz hb0 hk0 hp0 HNU0 HGT0 HPU0 HFT0 HFI0 hbase
  by_cases hn : n = 0
  · subst hn
    obtain rfl := List.eq_nil_of_length_eq_zero hln
    have hF' : F = firL k a lo hi := hF.trans (if_pos rfl)
    have HFL := vfirst_any k a lo hi
    unfold FirPost at HFL
    rw [← hF'] at HFL
    have HFL := Lib.hid HFL
    clear hF hF' hln hB
    go_enter Try.func41, Try.ntmps41
    go_wp2_with fail
    generalize ((w.alloc (.cells #[.int .i64 i, .int .i64 j] 24)).alloc (.cells #[.int .i64 k, .int .i64 a, .int .i64 lo, .int .i64 hi] 75)) = w0 at *
    refine (HNU.out _).mono ?_
    rintro e w1 ⟨rfl, hb1⟩
    have HB1 := Lib.hid hb1
    clear hb1 c0 c1 p0 p1 p2 p3
    obtain ⟨p0, p1, p2, p3⟩ := HPC.out _ HB1.out
    go_wp2_with fail
    refine (HMA.out _).mono ?_
    rintro e w2 ⟨rfl, hb2⟩
    have HB2 := Lib.hid (kF hb2 HB1.out)
    clear hb2 p0 p1 p2 p3
    obtain ⟨p0, p1, p2, p3⟩ := HPC.out _ HB2.out
    go_wp2_with fail
    refine (HFL.out _).mono ?_
    rintro e w4 ⟨A1, c1, rfl, hby, hb4⟩
    have HB4 := Lib.hid (kF hb4 HB2.out)
    have HFT4 := Lib.hid (HFT.out _ _ _ _ hby)
    have HY4 := Lib.hid hby
    generalize F.length = n1 at *
    clear hb4 hby p0 p1 p2 p3
    obtain ⟨p0, p1, p2, p3⟩ := HPC.out _ HB4.out
    have HCV := Lib.hid (fun x (hx : Below w4.heap.size w4 x) => conv_any (HY4.out.step hx))
    go_wp2_with fail
    refine HFT4.out.mono ?_
    rintro e w5 ⟨rfl, hb5⟩
    have HB5 := Lib.hid hb5
    clear hb5 p0 p1 p2 p3 HFT4
    by_cases hq : q = 0
    · have tq : (q != 0) = false := by simp [hq]
      have HQ := Lib.hid hq
      clear hq
      obtain ⟨c0, c1⟩ := HKC.out w5 (kF HB5.out HB4.out)
      go_wp2_with fail
      refine (HGT.out w5 (kF (kF HB5.out HB4.out) HB0.out)).mono ?_
      rintro e w6 ⟨rfl, hb6⟩
      have HB6 := Lib.hid (kF (kA hb6 (.cells #[.int .i64 ek, .int .i64 ea, .int .i64 el, .int .i64 eh, .string ES] 132)) HB5.out)
      clear hb6 c0 c1
      cases HBv
      · go_wp2_with fail
        generalize w6.alloc (.cells #[.int .i64 ek, .int .i64 ea, .int .i64 el, .int .i64 eh, .string ES] 132) = w7 at HB6 ⊢
        have HB7 := HB6
        refine (HLN.out w7 (kF (kF HB7.out HB4.out) HB0.out)).mono ?_
        rintro e w7' ⟨rfl, hw7⟩
        rw [hw7]
        clear hw7 w7'
        by_cases h5 : 512 ≤ T.length
        · have h5' : (512 : Int) ≤ (T.length : Int) := by omega
          have HT5 := Lib.hid h5
          clear h5
          go_wp2_with fail
          go_ret
          exact ⟨.inr (.inr (.inl ⟨HQ.out, rfl, HT5.out, rfl⟩)), by rw [if_neg (fun h => h.2.2 HT5.out)]; exact HOF.out w7 (kF (kF HB7.out HB4.out) HB0.out)⟩
        · have h5' : ¬ (512 : Int) ≤ (T.length : Int) := by omega
          have HT5 := Lib.hid h5
          have hS : ∀ x, Below w7.heap.size w7 x → x.cell? ⟨g, 0, none⟩ = some (.pointer (some ⟨s, 0, none⟩)) ∧ x.cell? ⟨w.heap.size, 0, none⟩ = some (.int .i64 i) ∧ x.cell? ⟨w.heap.size, 1, none⟩ = some (.int .i64 j) ∧ x.cell? ⟨w.heap.size + 1, 0, none⟩ = some (.int .i64 k) ∧ x.cell? ⟨w.heap.size + 1, 1, none⟩ = some (.int .i64 a) ∧ x.cell? ⟨w.heap.size + 1, 2, none⟩ = some (.int .i64 lo) ∧ x.cell? ⟨w.heap.size + 1, 3, none⟩ = some (.int .i64 hi) ∧ (convert 58 9 (.slice A1 n1 c1)).run Try.prog x = .ok (.string (strOfNums F)) x := fun x hx => ⟨HH.out x (kF (kF (kF hx HB7.out) HB4.out) HB0.out), (HKC.out x (kF (kF hx HB7.out) HB4.out)).1, (HKC.out x (kF (kF hx HB7.out) HB4.out)).2, (HPC.out x (kF (kF hx HB7.out) HB4.out)).1, (HPC.out x (kF (kF hx HB7.out) HB4.out)).2.1, (HPC.out x (kF (kF hx HB7.out) HB4.out)).2.2.1, (HPC.out x (kF (kF hx HB7.out) HB4.out)).2.2.2, HCV.out x (kF hx HB7.out)⟩
          have HS := Lib.hid hS
          clear hS h5
          go_wp2_with fail
          refine wp_region_last (fun w' => w'.cell? ⟨g, 0, none⟩ = some (.pointer (some ⟨s, 0, none⟩)) ∧ w'.cell? ⟨w.heap.size, 0, none⟩ = some (.int .i64 i) ∧ w'.cell? ⟨w.heap.size, 1, none⟩ = some (.int .i64 j) ∧ w'.cell? ⟨w.heap.size + 1, 0, none⟩ = some (.int .i64 k) ∧ w'.cell? ⟨w.heap.size + 1, 1, none⟩ = some (.int .i64 a) ∧ w'.cell? ⟨w.heap.size + 1, 2, none⟩ = some (.int .i64 lo) ∧ w'.cell? ⟨w.heap.size + 1, 3, none⟩ = some (.int .i64 hi) ∧ (convert 58 9 (.slice A1 n1 c1)).run Try.prog w' = .ok (.string (strOfNums F)) w') 10 (by kernel_rfl) (HS.out _ (kD _)) (fun hHeld => ?_)
          refine wpAnyL_take (i := 0) (v := ?_) rfl (by kernel_rfl) (by kernel_rfl) (by kernel_rfl) (by kernel_rfl) (by kernel_rfl) (fun _ _ _ h => h) (Or.inl ⟨by rfl, ?_⟩) (by assumption) ?_
          rotate_left
          · intro wq hSw; (try dsimp only at hSw); first | (go_simp; done) | (go_simp; with_reducible rfl) | with_reducible rfl
          try simp only [Act.put, List.setIfInBounds_toArray, List.set_cons_zero, List.set_cons_succ]
          refine wpAnyL_take (i := 1) (v := ?_) rfl (by kernel_rfl) (by kernel_rfl) (by kernel_rfl) (by kernel_rfl) (by kernel_rfl) (fun _ _ _ h => h) (Or.inl ⟨by rfl, ?_⟩) (by assumption) ?_
          rotate_left
          · intro wq hSw; (try dsimp only at hSw); first | (go_simp; done) | (go_simp; with_reducible rfl) | with_reducible rfl
          try simp only [Act.put, List.setIfInBounds_toArray, List.set_cons_zero, List.set_cons_succ]
          refine wpAnyL_take (i := 2) (v := ?_) rfl (by kernel_rfl) (by kernel_rfl) (by kernel_rfl) (by kernel_rfl) (by kernel_rfl) (fun _ _ _ h => h) (Or.inl ⟨by rfl, ?_⟩) (by assumption) ?_
          rotate_left
          · intro wq hSw; (try dsimp only at hSw); first | (go_simp; done) | (go_simp; with_reducible rfl) | with_reducible rfl
          try simp only [Act.put, List.setIfInBounds_toArray, List.set_cons_zero, List.set_cons_succ]
          refine wpAnyL_take (i := 3) (v := ?_) rfl (by kernel_rfl) (by kernel_rfl) (by kernel_rfl) (by kernel_rfl) (by kernel_rfl) (fun _ _ _ h => h) (Or.inl ⟨by rfl, ?_⟩) (by assumption) ?_
          rotate_left
          · intro wq hSw; (try dsimp only at hSw); first | (go_simp; done) | (go_simp; with_reducible rfl) | with_reducible rfl
          try simp only [Act.put, List.setIfInBounds_toArray, List.set_cons_zero, List.set_cons_succ]
          refine wpAnyL_take (i := 4) (v := ?_) rfl (by kernel_rfl) (by kernel_rfl) (by kernel_rfl) (by kernel_rfl) (by kernel_rfl) (fun _ _ _ h => h) (Or.inl ⟨by rfl, ?_⟩) (by assumption) ?_
          rotate_left
          · intro wq hSw; (try dsimp only at hSw); first | (go_simp; done) | (go_simp; with_reducible rfl) | with_reducible rfl
          try simp only [Act.put, List.setIfInBounds_toArray, List.set_cons_zero, List.set_cons_succ]
          refine wpAnyL_take (i := 6) (v := ?_) rfl (by kernel_rfl) (by kernel_rfl) (by kernel_rfl) (by kernel_rfl) (by kernel_rfl) (fun _ _ _ h => h) (Or.inl ⟨by rfl, ?_⟩) (by assumption) ?_
          rotate_left
          · intro wq hSw; (try dsimp only at hSw); first | (go_simp; done) | (go_simp; with_reducible rfl) | with_reducible rfl
          try simp only [Act.put, List.setIfInBounds_toArray, List.set_cons_zero, List.set_cons_succ]
          refine wpAnyL_take (i := 7) (v := ?_) rfl (by kernel_rfl) (by kernel_rfl) (by kernel_rfl) (by kernel_rfl) (by kernel_rfl) (fun _ _ _ h => h) (Or.inl ⟨by rfl, ?_⟩) (by assumption) ?_
          rotate_left
          · intro wq hSw; (try dsimp only at hSw); first | (go_simp; done) | (go_simp; with_reducible rfl) | with_reducible rfl
          try simp only [Act.put, List.setIfInBounds_toArray, List.set_cons_zero, List.set_cons_succ]
          refine wpAnyL_take (i := 8) (v := ?_) rfl (by kernel_rfl) (by kernel_rfl) (by kernel_rfl) (by kernel_rfl) (by kernel_rfl) (fun _ _ _ h => h) (Or.inl ⟨by rfl, ?_⟩) (by assumption) ?_
          rotate_left
          · intro wq hSw; (try dsimp only at hSw); first | (go_simp; done) | (go_simp; with_reducible rfl) | with_reducible rfl
          try simp only [Act.put, List.setIfInBounds_toArray, List.set_cons_zero, List.set_cons_succ]
          refine wpAnyL_take (i := 9) (v := ?_) rfl (by kernel_rfl) (by kernel_rfl) (by kernel_rfl) (by kernel_rfl) (by kernel_rfl) (fun _ _ _ h => h) (Or.inl ⟨by rfl, ?_⟩) (by assumption) ?_
          rotate_left
          · intro wq hSw; (try dsimp only at hSw); first | (go_simp; done) | (go_simp; with_reducible rfl) | with_reducible rfl
          try simp only [Act.put, List.setIfInBounds_toArray, List.set_cons_zero, List.set_cons_succ]
          refine wpAnyL_ready (rs := [5]) (by kernel_rfl) (by simp) ?_
          refine (AllReadyL.cons rfl (fun K hK => ?_) AllReadyL.nil)
          go_simp
          go_wp2_with (go_at_call 91; refine (HNU.out _).mono ?_; rintro e w8 ⟨rfl, hb8⟩; have HB8 := Lib.hid (kF hb8 (kD w7)); clear hb8)
          refine hK.out _ _ ?_ (fun hHeld => ?_)
          · (try dsimp only); exact HS.out _ HB8.out
          clear hK K
          refine wpAnyL_ready (rs := [10]) (by kernel_rfl) (by simp) ?_
          refine AllReadyL.last rfl (fun K hK => ?_)
          go_simp
          go_wp2_with (go_at_call 94; refine (HPU.out w8 (kF (kF (kF HB8.out HB7.out) HB4.out) HB0.out)).mono ?_; rintro e w9 ⟨rfl, ⟨v2, hx2, ho2⟩, ht2⟩; have HG9 := Lib.hid (HFI.out _ _ _ (kF (kF (kF HB8.out HB7.out) HB4.out) HB0.out) hx2 ho2 ht2); clear hx2 ho2 ht2)
          refine hK.out _ _ ?_
          clear hK K
          refine wpAnyL_done (by kernel_rfl) ?_ _
          clear hHeld
          go_wp2_with fail
          go_ret
          exact ⟨.inr (.inr (.inr ⟨HQ.out, rfl, HT5.out, rfl⟩)), by rw [if_pos ⟨HQ.out, rfl, HT5.out⟩]; exact HG9.out⟩
      · go_wp2_with fail
        go_ret
        exact ⟨.inr (.inl ⟨HQ.out, rfl, rfl⟩), by rw [if_neg (fun h => by cases h.2.1)]; exact HOF.out _ (kF (kF HB6.out HB4.out) HB0.out)⟩
    · have tq : (q != 0) = true := by simp [hq]
      have HQ := Lib.hid hq
      clear hq
      go_wp2_with fail
      go_ret
      exact ⟨.inl ⟨HQ.out, rfl⟩, by rw [if_neg (fun h => HQ.out h.1)]; exact HOF.out w5 (kF (kF HB5.out HB4.out) HB0.out)⟩
  · obtain rfl : F = l := hF.trans (if_neg (fun e => hn (by rw [← hln, e]; rfl)))
    have tn : ((n : Int) == 0) = false := by simp; omega
    clear hF
    go_enter Try.func41, Try.ntmps41
    go_wp2_with fail
    generalize ((w.alloc (.cells #[.int .i64 i, .int .i64 j] 24)).alloc (.cells #[.int .i64 k, .int .i64 a, .int .i64 lo, .int .i64 hi] 75)) = w0 at *
    refine (HNU.out _).mono ?_
    rintro e w1 ⟨rfl, hb1⟩
    have HB1 := Lib.hid hb1
    clear hb1 c0 c1 p0 p1 p2 p3
    obtain ⟨p0, p1, p2, p3⟩ := HPC.out _ HB1.out
    go_wp2_with fail
    refine (HMA.out _).mono ?_
    rintro e w4 ⟨rfl, hb2⟩
    have HB4 := Lib.hid (kF hb2 HB1.out)
    have HY4 := Lib.hid (hB0.out.step HB4.out)
    have HFT4 := Lib.hid (HFT.out _ _ _ _ HY4.out)
    clear hb2 p0 p1 p2 p3
    obtain ⟨p0, p1, p2, p3⟩ := HPC.out _ HB4.out
    have HCV := Lib.hid (fun x (hx : Below w4.heap.size w4 x) => conv_any (HY4.out.step hx))
    go_wp2_with fail
    refine HFT4.out.mono ?_
    rintro e w5 ⟨rfl, hb5⟩
    have HB5 := Lib.hid hb5
    clear hb5 p0 p1 p2 p3 HFT4
    by_cases hq : q = 0
    · have tq : (q != 0) = false := by simp [hq]
      have HQ := Lib.hid hq
      clear hq
      obtain ⟨c0, c1⟩ := HKC.out w5 (kF HB5.out HB4.out)
      go_wp2_with fail
      refine (HGT.out w5 (kF (kF HB5.out HB4.out) HB0.out)).mono ?_
      rintro e w6 ⟨rfl, hb6⟩
      have HB6 := Lib.hid (kF (kA hb6 (.cells #[.int .i64 ek, .int .i64 ea, .int .i64 el, .int .i64 eh, .string ES] 132)) HB5.out)
      clear hb6 c0 c1
      cases HBv
      · go_wp2_with fail
        generalize w6.alloc (.cells #[.int .i64 ek, .int .i64 ea, .int .i64 el, .int .i64 eh, .string ES] 132) = w7 at HB6 ⊢
        have HB7 := HB6
        refine (HLN.out w7 (kF (kF HB7.out HB4.out) HB0.out)).mono ?_
        rintro e w7' ⟨rfl, hw7⟩
        rw [hw7]
        clear hw7 w7'
        by_cases h5 : 512 ≤ T.length
        · have h5' : (512 : Int) ≤ (T.length : Int) := by omega
          have HT5 := Lib.hid h5
          clear h5
          go_wp2_with fail
          go_ret
          exact ⟨.inr (.inr (.inl ⟨HQ.out, rfl, HT5.out, rfl⟩)), by rw [if_neg (fun h => h.2.2 HT5.out)]; exact HOF.out w7 (kF (kF HB7.out HB4.out) HB0.out)⟩
        · have h5' : ¬ (512 : Int) ≤ (T.length : Int) := by omega
          have HT5 := Lib.hid h5
          have hS : ∀ x, Below w7.heap.size w7 x → x.cell? ⟨g, 0, none⟩ = some (.pointer (some ⟨s, 0, none⟩)) ∧ x.cell? ⟨w.heap.size, 0, none⟩ = some (.int .i64 i) ∧ x.cell? ⟨w.heap.size, 1, none⟩ = some (.int .i64 j) ∧ x.cell? ⟨w.heap.size + 1, 0, none⟩ = some (.int .i64 k) ∧ x.cell? ⟨w.heap.size + 1, 1, none⟩ = some (.int .i64 a) ∧ x.cell? ⟨w.heap.size + 1, 2, none⟩ = some (.int .i64 lo) ∧ x.cell? ⟨w.heap.size + 1, 3, none⟩ = some (.int .i64 hi) ∧ (convert 58 9 (.slice A n c)).run Try.prog x = .ok (.string (strOfNums F)) x := fun x hx => ⟨HH.out x (kF (kF (kF hx HB7.out) HB4.out) HB0.out), (HKC.out x (kF (kF hx HB7.out) HB4.out)).1, (HKC.out x (kF (kF hx HB7.out) HB4.out)).2, (HPC.out x (kF (kF hx HB7.out) HB4.out)).1, (HPC.out x (kF (kF hx HB7.out) HB4.out)).2.1, (HPC.out x (kF (kF hx HB7.out) HB4.out)).2.2.1, (HPC.out x (kF (kF hx HB7.out) HB4.out)).2.2.2, HCV.out x (kF hx HB7.out)⟩
          have HS := Lib.hid hS
          clear hS h5
          go_wp2_with fail
          refine wp_region_last (fun w' => w'.cell? ⟨g, 0, none⟩ = some (.pointer (some ⟨s, 0, none⟩)) ∧ w'.cell? ⟨w.heap.size, 0, none⟩ = some (.int .i64 i) ∧ w'.cell? ⟨w.heap.size, 1, none⟩ = some (.int .i64 j) ∧ w'.cell? ⟨w.heap.size + 1, 0, none⟩ = some (.int .i64 k) ∧ w'.cell? ⟨w.heap.size + 1, 1, none⟩ = some (.int .i64 a) ∧ w'.cell? ⟨w.heap.size + 1, 2, none⟩ = some (.int .i64 lo) ∧ w'.cell? ⟨w.heap.size + 1, 3, none⟩ = some (.int .i64 hi) ∧ (convert 58 9 (.slice A n c)).run Try.prog w' = .ok (.string (strOfNums F)) w') 10 (by kernel_rfl) (HS.out _ (kD _)) (fun hHeld => ?_)
          refine wpAnyL_take (i := 0) (v := ?_) rfl (by kernel_rfl) (by kernel_rfl) (by kernel_rfl) (by kernel_rfl) (by kernel_rfl) (fun _ _ _ h => h) (Or.inl ⟨by rfl, ?_⟩) (by assumption) ?_
          rotate_left
          · intro wq hSw; (try dsimp only at hSw); first | (go_simp; done) | (go_simp; with_reducible rfl) | with_reducible rfl
          try simp only [Act.put, List.setIfInBounds_toArray, List.set_cons_zero, List.set_cons_succ]
          refine wpAnyL_take (i := 1) (v := ?_) rfl (by kernel_rfl) (by kernel_rfl) (by kernel_rfl) (by kernel_rfl) (by kernel_rfl) (fun _ _ _ h => h) (Or.inl ⟨by rfl, ?_⟩) (by assumption) ?_
          rotate_left
          · intro wq hSw; (try dsimp only at hSw); first | (go_simp; done) | (go_simp; with_reducible rfl) | with_reducible rfl
          try simp only [Act.put, List.setIfInBounds_toArray, List.set_cons_zero, List.set_cons_succ]
          refine wpAnyL_take (i := 2) (v := ?_) rfl (by kernel_rfl) (by kernel_rfl) (by kernel_rfl) (by kernel_rfl) (by kernel_rfl) (fun _ _ _ h => h) (Or.inl ⟨by rfl, ?_⟩) (by assumption) ?_
          rotate_left
          · intro wq hSw; (try dsimp only at hSw); first | (go_simp; done) | (go_simp; with_reducible rfl) | with_reducible rfl
          try simp only [Act.put, List.setIfInBounds_toArray, List.set_cons_zero, List.set_cons_succ]
          refine wpAnyL_take (i := 3) (v := ?_) rfl (by kernel_rfl) (by kernel_rfl) (by kernel_rfl) (by kernel_rfl) (by kernel_rfl) (fun _ _ _ h => h) (Or.inl ⟨by rfl, ?_⟩) (by assumption) ?_
          rotate_left
          · intro wq hSw; (try dsimp only at hSw); first | (go_simp; done) | (go_simp; with_reducible rfl) | with_reducible rfl
          try simp only [Act.put, List.setIfInBounds_toArray, List.set_cons_zero, List.set_cons_succ]
          refine wpAnyL_take (i := 4) (v := ?_) rfl (by kernel_rfl) (by kernel_rfl) (by kernel_rfl) (by kernel_rfl) (by kernel_rfl) (fun _ _ _ h => h) (Or.inl ⟨by rfl, ?_⟩) (by assumption) ?_
          rotate_left
          · intro wq hSw; (try dsimp only at hSw); first | (go_simp; done) | (go_simp; with_reducible rfl) | with_reducible rfl
          try simp only [Act.put, List.setIfInBounds_toArray, List.set_cons_zero, List.set_cons_succ]
          refine wpAnyL_take (i := 6) (v := ?_) rfl (by kernel_rfl) (by kernel_rfl) (by kernel_rfl) (by kernel_rfl) (by kernel_rfl) (fun _ _ _ h => h) (Or.inl ⟨by rfl, ?_⟩) (by assumption) ?_
          rotate_left
          · intro wq hSw; (try dsimp only at hSw); first | (go_simp; done) | (go_simp; with_reducible rfl) | with_reducible rfl
          try simp only [Act.put, List.setIfInBounds_toArray, List.set_cons_zero, List.set_cons_succ]
          refine wpAnyL_take (i := 7) (v := ?_) rfl (by kernel_rfl) (by kernel_rfl) (by kernel_rfl) (by kernel_rfl) (by kernel_rfl) (fun _ _ _ h => h) (Or.inl ⟨by rfl, ?_⟩) (by assumption) ?_
          rotate_left
          · intro wq hSw; (try dsimp only at hSw); first | (go_simp; done) | (go_simp; with_reducible rfl) | with_reducible rfl
          try simp only [Act.put, List.setIfInBounds_toArray, List.set_cons_zero, List.set_cons_succ]
          refine wpAnyL_take (i := 8) (v := ?_) rfl (by kernel_rfl) (by kernel_rfl) (by kernel_rfl) (by kernel_rfl) (by kernel_rfl) (fun _ _ _ h => h) (Or.inl ⟨by rfl, ?_⟩) (by assumption) ?_
          rotate_left
          · intro wq hSw; (try dsimp only at hSw); first | (go_simp; done) | (go_simp; with_reducible rfl) | with_reducible rfl
          try simp only [Act.put, List.setIfInBounds_toArray, List.set_cons_zero, List.set_cons_succ]
          refine wpAnyL_take (i := 9) (v := ?_) rfl (by kernel_rfl) (by kernel_rfl) (by kernel_rfl) (by kernel_rfl) (by kernel_rfl) (fun _ _ _ h => h) (Or.inl ⟨by rfl, ?_⟩) (by assumption) ?_
          rotate_left
          · intro wq hSw; (try dsimp only at hSw); first | (go_simp; done) | (go_simp; with_reducible rfl) | with_reducible rfl
          try simp only [Act.put, List.setIfInBounds_toArray, List.set_cons_zero, List.set_cons_succ]
          refine wpAnyL_ready (rs := [5]) (by kernel_rfl) (by simp) ?_
          refine (AllReadyL.cons rfl (fun K hK => ?_) AllReadyL.nil)
          go_simp
          go_wp2_with (go_at_call 91; refine (HNU.out _).mono ?_; rintro e w8 ⟨rfl, hb8⟩; have HB8 := Lib.hid (kF hb8 (kD w7)); clear hb8)
          refine hK.out _ _ ?_ (fun hHeld => ?_)
          · (try dsimp only); exact HS.out _ HB8.out
          clear hK K
          refine wpAnyL_ready (rs := [10]) (by kernel_rfl) (by simp) ?_
          refine AllReadyL.last rfl (fun K hK => ?_)
          go_simp
          go_wp2_with (go_at_call 94; refine (HPU.out w8 (kF (kF (kF HB8.out HB7.out) HB4.out) HB0.out)).mono ?_; rintro e w9 ⟨rfl, ⟨v2, hx2, ho2⟩, ht2⟩; have HG9 := Lib.hid (HFI.out _ _ _ (kF (kF (kF HB8.out HB7.out) HB4.out) HB0.out) hx2 ho2 ht2); clear hx2 ho2 ht2)
          refine hK.out _ _ ?_
          clear hK K
          refine wpAnyL_done (by kernel_rfl) ?_ _
          clear hHeld
          go_wp2_with fail
          go_ret
          exact ⟨.inr (.inr (.inr ⟨HQ.out, rfl, HT5.out, rfl⟩)), by rw [if_pos ⟨HQ.out, rfl, HT5.out⟩]; exact HG9.out⟩
      · go_wp2_with fail
        go_ret
        exact ⟨.inr (.inl ⟨HQ.out, rfl, rfl⟩), by rw [if_neg (fun h => by cases h.2.1)]; exact HOF.out _ (kF (kF HB6.out HB4.out) HB0.out)⟩
    · have tq : (q != 0) = true := by simp [hq]
      have HQ := Lib.hid hq
      clear hq
      go_wp2_with fail
      go_ret
      exact ⟨.inl ⟨HQ.out, rfl⟩, by rw [if_neg (fun h => HQ.out h.1)]; exact HOF.out w5 (kF (kF HB5.out HB4.out) HB0.out)⟩
end Go.Proofs.Ytgaoplbocjadaaa