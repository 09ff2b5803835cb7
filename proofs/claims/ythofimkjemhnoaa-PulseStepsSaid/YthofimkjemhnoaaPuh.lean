/- The walk of PulseMakes. -/
import Derived.Test.YthofimkjemhnoaaPug
import Derived.Deep.CutBlock
namespace Go.Proofs.Ythofimkjemhnoaa
open Go.RowKit Go.Joins Go.ChangeShapes Go.WideShapes Go.Deep
set_option linter.unusedSimpArgs false
set_option linter.unusedVariables false

/-- A tick: how many later; whether a period is set; the period; an overflow. -/
def TkC (w : World) (b o : Nat) (x : Int × Bool × Int × Int) : Prop := w.cell? ⟨b, o, none⟩ = some (.int .u16 x.1) ∧ w.cell? ⟨b, o + 1, none⟩ = some (.bool x.2.1) ∧ w.cell? ⟨b, o + 2, none⟩ = some (.int .i64 x.2.2.1) ∧ w.cell? ⟨b, o + 3, none⟩ = some (.int .i64 x.2.2.2) ∧ 0 ≤ x.1 ∧ x.1 ≤ 65535
theorem TkC.below {w w' : World} {B b o : Nat} {x : Int × Bool × Int × Int} (h : TkC w b o x) (hlt : b < B) (hb : Below B w w') : TkC w' b o x :=
  ⟨(hb.cell (p := ⟨b, _, none⟩) hlt).trans h.1, (hb.cell (p := ⟨b, _, none⟩) hlt).trans h.2.1, (hb.cell (p := ⟨b, _, none⟩) hlt).trans h.2.2.1, (hb.cell (p := ⟨b, _, none⟩) hlt).trans h.2.2.2.1, h.2.2.2.2⟩
theorem cells_tickT : Try.prog.cellsOf 39 = 4 := by kernel_rfl
theorem cells_u16T : Try.prog.cellsOf 37 = 1 := by kernel_rfl
theorem cells_boolT : Try.prog.cellsOf 4 = 1 := by kernel_rfl
theorem cells_intT : Try.prog.cellsOf 3 = 1 := by kernel_rfl
theorem list4T {α : Type} {l : List α} (h : l.length = 4) : ∃ c0 c1 c2 c3, l = [c0, c1, c2, c3] := by
  match l, h with
  | [c0, c1, c2, c3], _ => exact ⟨c0, c1, c2, c3, rfl⟩
theorem u16_wf {i : Int} (h : (Lit.int .u16 i).wf = true) : 0 ≤ i ∧ i ≤ 65535 := by
  simp only [Lit.wf, Bool.and_eq_true, decide_eq_true_eq] at h
  have e0 : IntKind.u16.min = 0 := by rfl
  have e1 : IntKind.u16.max = 65535 := by rfl
  omega
theorem ticks_of_trod {H : Type} {enc : TypeId × Value → H} {w : World} {fuel : Nat} {A : Option Addr} {n c : Nat} {x : DataW H × List MemPlace} (h : DataW.trod enc Try.prog w 0 (fun _ => true) true fuel 30 [.slice A n c] = some x) : ∃ fs, Els TkC 4 w w.heap.size A n c fs :=
  els_of_trod Try.underlying30 cells_tickT (by omega) (0, false, 0, 0) TkC (fun fuel cs x b o hf hl hc => by
    obtain ⟨c0, c1, c2, c3, rfl⟩ := list4T hl
    obtain ⟨y0, y1, y2, y3, m, _, _, h0, h1, h2, h3⟩ := trod_struct4 Try.underlying39 hf
    simp only [cells_u16T, cells_boolT, cells_intT] at h0 h1 h2 h3
    obtain ⟨i, e0, _, w0⟩ := DataW.trod_int Try.underlying37 h0
    obtain ⟨q, e1, _⟩ := DataW.trod_bool Try.underlying4 h1
    obtain ⟨j, e2, _, _⟩ := DataW.trod_int Try.underlying3 h2
    obtain ⟨k, e3, _, _⟩ := DataW.trod_int Try.underlying3 h3
    simp at e0 e1 e2 e3
    subst e0 e1 e2 e3
    have := u16_wf w0
    exact ⟨(i, q, j, k), hc 0 (by omega), hc 1 (by omega), hc 2 (by omega), hc 3 (by omega), this.1, this.2⟩) h
/-- What the maker has and what the document's has, of one period. -/
def Rel (o : Option Int) (rd per : Int) : Prop := (o = none ∧ rd = -1) ∨ ∃ x, o = some x ∧ 0 ≤ x ∧ 1 ≤ per ∧ ((x ≤ 2147483647 ∧ rd = x) ∨ (2147483647 < x ∧ rd = -1))
theorem rel_set {p now : Int} (hp0 : 0 ≤ p) (hp1 : p ≤ 2147483647) (hn0 : 0 ≤ now) : Rel (oSet p now) (dueE now p now) p := by
  have e : nextE now p now = now + p := by unfold nextE; rw [if_neg (by omega)]; simp
  unfold oSet dueE
  rw [e]
  by_cases hz : 0 < p
  · rw [if_pos hz, if_neg (show ¬ p = 0 by omega)]
    refine .inr ⟨now + p, rfl, by omega, by omega, ?_⟩
    by_cases h : 2147483647 < now + p
    · exact .inr ⟨h, if_pos h⟩
    · exact .inl ⟨by omega, if_neg h⟩
  · rw [if_neg hz, if_pos (show p = 0 by omega)]
    exact .inl ⟨rfl, rfl⟩
theorem rel_due {x p now : Int} (h0 : 0 ≤ x) (h1 : x ≤ now) (hp0 : 1 ≤ p) : Rel (oDue x p now) (dueE x p now) p := by
  have hb := next_bd h0 hp0 h1
  unfold oDue
  by_cases hz : dueE x p now = -1
  · rw [if_pos hz]; exact .inl ⟨rfl, hz⟩
  · rw [if_neg hz]
    have hd : dueE x p now = if 2147483647 < nextE x p now then -1 else nextE x p now := if_neg (by omega)
    by_cases hl : 2147483647 < nextE x p now
    · rw [hd, if_pos hl] at hz; exact absurd rfl hz
    · rw [if_neg hl] at hd
      exact .inr ⟨_, rfl, by omega, hp0, .inl ⟨by omega, rfl⟩⟩
theorem rel_not {o : Option Int} {rd per now : Int} (h : Rel o rd per) (hn : now ≤ 2147483647) : (notDue o now ∧ (rd < 0 ∨ now < rd)) ∨ ∃ x, o = some x ∧ 0 ≤ x ∧ x ≤ now ∧ 1 ≤ per ∧ rd = x := by
  rcases h with ⟨rfl, rfl⟩ | ⟨x, rfl, h0, h1, h2⟩
  · exact .inl ⟨.inl rfl, .inl (by omega)⟩
  · by_cases hx : x ≤ now
    · rcases h2 with ⟨_, e⟩ | ⟨h3, _⟩
      · exact .inr ⟨x, rfl, h0, hx, h1, e⟩
      · omega
    · refine .inl ⟨.inr ⟨x, rfl, by omega⟩, ?_⟩
      rcases h2 with ⟨_, e⟩ | ⟨_, e⟩ <;> omega

def ctE (n o : Int) : Int := if o = 0 then 0 else n % o + 1
theorem ct_next {n o : Int} (ho : isOv o = true) (h0 : 0 ≤ n) : bhE (ctE n o) o = ctE (n + 1) o := by
  unfold bhE ctE
  rcases ov_in ho with rfl | ⟨h, _⟩
  · rfl
  · rw [if_neg (by omega), if_neg (by omega), if_neg (by omega), Int.add_emod (n % o) 1 o, Int.emod_emod_of_dvd n (Int.dvd_refl o), ← Int.add_emod]
theorem ct_may {n o : Int} (ho : isOv o = true) : mayP (ctE n o) o = true := by
  unfold mayP ctE
  rw [ho]
  rcases ov_in ho with rfl | ⟨h, _⟩
  · rfl
  · have t1 := Int.emod_nonneg n (show o ≠ 0 by omega)
    have t2 := Int.emod_lt_of_pos n (show 0 < o by omega)
    rw [if_neg (by omega), ct_some (by omega)]
    simp; omega
theorem may_renc (ct ov : Int) (h : mayP ct ov = true) (w : World) : Calls Try.prog 8 #[.int .i64 ct, .int .i64 ov] w fun e w' => e = .returned (.tuple #[.agg #[.int .i64 128, .bool false, .int .i64 (if ov = 0 then 0 else 1), .int .u8 ct, .int .u8 0, .int .u8 0, .int .u8 0, .int .u8 0, .int .u8 0, .int .u8 0, .int .u8 0], .int .i64 0]) ∧ Below w.heap.size w w' := by
  have := renc_any ct ov w
  unfold pI pN pC pE at this
  rw [h] at this
  simpa using this
structure LpS (w : World) (q c gr : Nat) (per ov ct rd n : Int) (o : Option Int) (x : World) : Prop where
  m : PmAt w q c per ov ct o x
  r : RpAt x gr per rd ov n
  g : w.heap.size ≤ gr
section
variable {w x y : World} {q c gr : Nat} {per ov ct rd n : Int} {o : Option Int}
theorem LpS.below (h : LpS w q c gr per ov ct rd n o x) (hb : Below x.heap.size x y) : LpS w q c gr per ov ct rd n o y := ⟨h.m.below hb, h.r.below hb h.r.lt, h.g⟩
theorem LpS.bel (h : LpS w q c gr per ov ct rd n o x) : Below w.heap.size w x := h.m.bel
theorem LpS.rowf (h : LpS w q c gr per ov ct rd n o x) {g : Nat} {id k : Int} {r : Bool} {d : Nat → Int} (hf : FrAt x g id r k d) (hg : w.heap.size ≤ g) (cs : Array Value) : LpS w q c gr per ov ct rd n o (x.setRow g cs) :=
  ⟨h.m.frame hf hg cs, h.r.row_of (fun e => by subst e; have := h.r; unfold RpAt at this; unfold FrAt at hf; rw [hf] at this; cases this) cs, h.g⟩
theorem LpS.rowr (h : LpS w q c gr per ov ct rd n o x) (per' rd' ov' n' : Int) {per2 ov2 ct2 : Int} {o2 : Option Int} (hm : PmAt w q c per2 ov2 ct2 o2 x) (e1 : per2 = per') (e2 : ov2 = ov') : LpS w q c gr per' ov' ct2 rd' n' o2 (x.setRow gr #[.int .i64 per', .int .i64 rd', .int .i64 ov', .int .i64 n']) := by
  subst e1 e2
  exact ⟨hm.row h.r h.g (by decide) (by decide) (by decide) (by decide) (by decide) _, h.r.row _ _ _ _, h.g⟩
theorem LpS.oth (h : LpS w q c gr per ov ct rd n o x) {per2 ct2 : Int} {o2 : Option Int} (hm : PmAt w q c per ov ct2 o2 y) (ho : OthP x y) : LpS w q c gr per ov ct2 rd n o2 y := ⟨hm, h.r.othp ho, h.g⟩
end
set_option maxRecDepth 200000 in
set_option maxHeartbeats 8000000 in
theorem makes_walk (A : Option Addr) (N cc : Nat) (fs : Nat → Int × Bool × Int × Int) (w : World) (h : Els TkC 4 w w.heap.size A N cc fs) :
    Calls Try.prog 4 #[.slice A N cc] w fun e w' => e = .returned (.bool true) ∧ Below w.heap.size w w' := by
  have hcap := h.cap
  have hmax := h.max
  simp only [maxLen] at hmax
  have HL := Lib.hid h
  have HNW := Lib.hid (pm_new w w (Below.refl _ _))
  clear h
  go_enter Try.func4, Try.ntmps4
  go_upto_region 3 with (first
    | (go_at_call 10; refine (HNW.out).mono ?_; rintro e w1 ⟨q, c, rfl, hm1, hq1, hb1⟩; have hba : Below w1.heap.size w1 (w1.alloc (.cells #[.int .i64 0, .int .i64 0, .int .i64 0, .int .i64 0] 36)) := (Below.refl _ _).alloc (Nat.le_refl _) _; have HL1 := Lib.hid (show LpS w q c w1.heap.size 0 0 0 0 0 none (w1.alloc (.cells #[.int .i64 0, .int .i64 0, .int .i64 0, .int .i64 0] 36)) from ⟨hm1.below hba, heap_alloc_new w1 _, hb1.size⟩); clear hm1 hq1 hb1 hba)
    | (refine wpList_store_row rfl _ (.tmp 4) (.tmp 17) rfl w1.heap.size _ rfl rfl _ _ HL1.out.r info_rp rfl (one_rp _ _ _ _) ?_))
  have HL2 := Lib.hid (HL1.out.rowr 0 (-1) 0 0 HL1.out.m rfl rfl)
  clear HNW HL1
  generalize (w1.alloc (.cells #[.int .i64 0, .int .i64 0, .int .i64 0, .int .i64 0] 36)).setRow w1.heap.size #[.int .i64 0, .int .i64 (-1), .int .i64 0, .int .i64 0] = w2 at *
  generalize w1.heap.size = gr at *
  go_wp2_with fail
  go_loopw [5, 6] (fun now i wr => ∃ (j : Nat) (nw per ov ct rd n : Int) (o : Option Int), j ≤ N ∧ j ≤ 60 ∧ now = .int .i64 nw ∧ i = .int .i64 j ∧ 0 ≤ nw ∧ nw ≤ j * 65535 ∧ Hid (LpS w q c gr per ov ct rd n o wr) ∧ Hid (Rel o rd per) ∧ Hid (ct = ctE n ov) ∧ Hid (isOv ov = true) ∧ 0 ≤ per ∧ per ≤ 2147483647 ∧ 0 ≤ n ∧ n ≤ j) (fun _ i _ => 60 - (intOf i).toNat)
  case atStart => exact ⟨0, 0, 0, 0, 0, -1, 0, none, by omega, by omega, rfl, rfl, by omega, by omega, HL2, Lib.hid (.inl ⟨rfl, rfl⟩), Lib.hid rfl, Lib.hid ov_zero, by omega, by omega, by omega, by omega⟩
  case round =>
    clear HL2
    obtain ⟨j, nw, per, ov, ct, rd, n, o, hj, hj6, rfl, rfl, hn0, hn1, HLr, HRel, HCt, HOv, hp0, hp1, hk0, hk1⟩ := hrel
    by_cases hlt : j < N ∧ j < 60
    · obtain ⟨hlt, hl6⟩ := hlt
      have hjI : (j : Int) < 60 := by omega
      have hltI : (j : Int) < (N : Int) := by omega
      obtain ⟨bb, off, rfl, hbb, hcell⟩ := HL.out.cells (by omega)
      have HD := Lib.hid (fun y (hy : Below w.heap.size w y) => (hcell j hlt).below hbb hy)
      clear hcell HL
      generalize fs j = xx at *
      obtain ⟨ib, sq, m, v⟩ := xx
      obtain ⟨d0, d1, d2, d3, v0, v1⟩ := HD.out wr HLr.out.bel
      simp only at d0 d1 d2 d3 v0 v1
      have e1 : IntKind.i64.wrap ib = ib := IntWalk.i64_in _ (by omega)
      have e2 : IntKind.i64.wrap (nw + ib) = nw + ib := IntWalk.i64_in _ (by omega)
      have HOV := Lib.hid (fun w => rov_any v w)
      cases sq with
      | true =>
        have HY := Lib.hid (show isNu (nw + ib) = true from isU_yes (by omega) (by omega))
        by_cases hu : isNu m = true
        · obtain ⟨hu0, hu1⟩ := isU_in hu
          have hz0 : ¬ m < 0 := by omega
          have hz1 : ¬ 2147483647 < m := by omega
          cases hv : isOv v with
          | true =>
            have HU := Lib.hid hu
            have HV := Lib.hid hv
            rw [hv] at HOV
            clear hu hv
            go_upto_region 9 with fail
            refine wp_region_last (fun x => x.cell? ⟨bb, off + j * 4 + 2, none⟩ = some (.int .i64 m) ∧ x.cell? ⟨bb, off + j * 4 + 3, none⟩ = some (.int .i64 v)) 13 (by kernel_rfl) ⟨(HD.out wr HLr.out.bel).2.2.1, (HD.out wr HLr.out.bel).2.2.2.1⟩ (fun hHeld => ?_)
            replace HLr := Lib.hid (HLr.out.below (kD wr))
            generalize wr.drew = wr at *
            clear d0 d1 d2 d3
            refine wpAnyL_take (i := 0) (v := ?_) rfl (by kernel_rfl) (by kernel_rfl) (by kernel_rfl) (by kernel_rfl) (by kernel_rfl) (fun _ _ _ h => h) (Or.inl ⟨by rfl, ?_⟩) (by assumption) ?_
            rotate_left
            · intro wq hSw; (try dsimp only at hSw); first | (go_simp; done) | (go_simp; with_reducible rfl) | with_reducible rfl
            try simp only [Act.put, List.setIfInBounds_toArray, List.set_cons_zero, List.set_cons_succ, List.getElem_toArray, List.getElem_cons_zero, List.getElem_cons_succ]
            refine wpAnyL_take (i := 1) (v := ?_) rfl (by kernel_rfl) (by kernel_rfl) (by kernel_rfl) (by kernel_rfl) (by kernel_rfl) (fun _ _ _ h => h) (Or.inl ⟨by rfl, ?_⟩) (by assumption) ?_
            rotate_left
            · intro wq hSw; (try dsimp only at hSw); first | (go_simp; done) | (go_simp; with_reducible rfl) | with_reducible rfl
            try simp only [Act.put, List.setIfInBounds_toArray, List.set_cons_zero, List.set_cons_succ, List.getElem_toArray, List.getElem_cons_zero, List.getElem_cons_succ]
            refine wpAnyL_take (i := 2) (v := ?_) rfl (by kernel_rfl) (by kernel_rfl) (by kernel_rfl) (by kernel_rfl) (by kernel_rfl) (fun _ _ _ h => h) (Or.inl ⟨by rfl, ?_⟩) (by assumption) ?_
            rotate_left
            · intro wq hSw; (try dsimp only at hSw); first | (go_simp; done) | (go_simp; with_reducible rfl) | with_reducible rfl
            try simp only [Act.put, List.setIfInBounds_toArray, List.set_cons_zero, List.set_cons_succ, List.getElem_toArray, List.getElem_cons_zero, List.getElem_cons_succ]
            refine wpAnyL_take (i := 3) (v := ?_) rfl (by kernel_rfl) (by kernel_rfl) (by kernel_rfl) (by kernel_rfl) (by kernel_rfl) (fun _ _ _ h => h) (Or.inl ⟨by rfl, ?_⟩) (by assumption) ?_
            rotate_left
            · intro wq hSw; (try dsimp only at hSw); first | (go_simp; done) | (go_simp; with_reducible rfl) | with_reducible rfl
            try simp only [Act.put, List.setIfInBounds_toArray, List.set_cons_zero, List.set_cons_succ, List.getElem_toArray, List.getElem_cons_zero, List.getElem_cons_succ]
            refine wpAnyL_take (i := 4) (v := ?_) rfl (by kernel_rfl) (by kernel_rfl) (by kernel_rfl) (by kernel_rfl) (by kernel_rfl) (fun _ _ _ h => h) (Or.inl ⟨by rfl, ?_⟩) (by assumption) ?_
            rotate_left
            · intro wq hSw; (try dsimp only at hSw); first | (go_simp; done) | (go_simp; with_reducible rfl) | with_reducible rfl
            try simp only [Act.put, List.setIfInBounds_toArray, List.set_cons_zero, List.set_cons_succ, List.getElem_toArray, List.getElem_cons_zero, List.getElem_cons_succ]
            refine wpAnyL_take (i := 5) (v := .int .i64 m) rfl (by kernel_rfl) (by kernel_rfl) (by kernel_rfl) (by kernel_rfl) (by kernel_rfl) (fun _ _ _ h => h) (Or.inl ⟨by rfl, ?_⟩) (by assumption) ?_
            · intro wq hSw; (try dsimp only at hSw); first | (go_simp; done) | (go_simp; with_reducible rfl) | with_reducible rfl
            try simp only [Act.put, List.setIfInBounds_toArray, List.set_cons_zero, List.set_cons_succ, List.getElem_toArray, List.getElem_cons_zero, List.getElem_cons_succ]
            refine wpAnyL_take (i := 6) (v := ?_) rfl (by kernel_rfl) (by kernel_rfl) (by kernel_rfl) (by kernel_rfl) (by kernel_rfl) (fun _ _ _ h => h) (Or.inl ⟨by rfl, ?_⟩) (by assumption) ?_
            rotate_left
            · intro wq hSw; (try dsimp only at hSw); first | (go_simp; done) | (go_simp; with_reducible rfl) | with_reducible rfl
            try simp only [Act.put, List.setIfInBounds_toArray, List.set_cons_zero, List.set_cons_succ, List.getElem_toArray, List.getElem_cons_zero, List.getElem_cons_succ]
            refine wpAnyL_take (i := 7) (v := ?_) rfl (by kernel_rfl) (by kernel_rfl) (by kernel_rfl) (by kernel_rfl) (by kernel_rfl) (fun _ _ _ h => h) (Or.inl ⟨by rfl, ?_⟩) (by assumption) ?_
            rotate_left
            · intro wq hSw; (try dsimp only at hSw); first | (go_simp; done) | (go_simp; with_reducible rfl) | with_reducible rfl
            try simp only [Act.put, List.setIfInBounds_toArray, List.set_cons_zero, List.set_cons_succ, List.getElem_toArray, List.getElem_cons_zero, List.getElem_cons_succ]
            refine wpAnyL_take (i := 8) (v := ?_) rfl (by kernel_rfl) (by kernel_rfl) (by kernel_rfl) (by kernel_rfl) (by kernel_rfl) (fun _ _ _ h => h) (Or.inl ⟨by rfl, ?_⟩) (by assumption) ?_
            rotate_left
            · intro wq hSw; (try dsimp only at hSw); first | (go_simp; done) | (go_simp; with_reducible rfl) | with_reducible rfl
            try simp only [Act.put, List.setIfInBounds_toArray, List.set_cons_zero, List.set_cons_succ, List.getElem_toArray, List.getElem_cons_zero, List.getElem_cons_succ]
            refine wpAnyL_take (i := 9) (v := ?_) rfl (by kernel_rfl) (by kernel_rfl) (by kernel_rfl) (by kernel_rfl) (by kernel_rfl) (fun _ _ _ h => h) (Or.inl ⟨by rfl, ?_⟩) (by assumption) ?_
            rotate_left
            · intro wq hSw; (try dsimp only at hSw); first | (go_simp; done) | (go_simp; with_reducible rfl) | with_reducible rfl
            try simp only [Act.put, List.setIfInBounds_toArray, List.set_cons_zero, List.set_cons_succ, List.getElem_toArray, List.getElem_cons_zero, List.getElem_cons_succ]
            refine wpAnyL_take (i := 10) (v := .int .i64 v) rfl (by kernel_rfl) (by kernel_rfl) (by kernel_rfl) (by kernel_rfl) (by kernel_rfl) (fun _ _ _ h => h) (Or.inl ⟨by rfl, ?_⟩) (by assumption) ?_
            · intro wq hSw; (try dsimp only at hSw); first | (go_simp; done) | (go_simp; with_reducible rfl) | with_reducible rfl
            try simp only [Act.put, List.setIfInBounds_toArray, List.set_cons_zero, List.set_cons_succ, List.getElem_toArray, List.getElem_cons_zero, List.getElem_cons_succ]
            refine wpAnyL_take (i := 11) (v := ?_) rfl (by kernel_rfl) (by kernel_rfl) (by kernel_rfl) (by kernel_rfl) (by kernel_rfl) (fun _ _ _ h => h) (Or.inl ⟨by rfl, ?_⟩) (by assumption) ?_
            rotate_left
            · intro wq hSw; (try dsimp only at hSw); first | (go_simp; done) | (go_simp; with_reducible rfl) | with_reducible rfl
            try simp only [Act.put, List.setIfInBounds_toArray, List.set_cons_zero, List.set_cons_succ, List.getElem_toArray, List.getElem_cons_zero, List.getElem_cons_succ]
            refine wpAnyL_ready (rs := [12]) (by kernel_rfl) (by simp) ?_
            refine (AllReadyL.cons rfl (fun K hK => ?_) AllReadyL.nil)
            go_simp
            go_wp2_with fail
            refine (pset_ok w _ q c per ov ct m v (nw + ib) o HLr.out.m HU.out HY.out HV.out).mono ?_
            rintro e w1 ⟨rfl, hm1, ho1⟩
            have HM1 := Lib.hid hm1
            have HR1 := Lib.hid (HLr.out.r.othp ho1)
            have HG1 := Lib.hid HLr.out.g
            clear hm1 ho1
            refine hK.out _ _ ?_ (fun hHeld => ?_)
            · (try dsimp only); exact ⟨(HD.out w1 HM1.out.bel).2.2.1, (HD.out w1 HM1.out.bel).2.2.2.1⟩
            clear hK K
            refine wpAnyL_ready (rs := [13]) (by kernel_rfl) (by simp) ?_
            refine AllReadyL.last rfl (fun K hK => ?_)
            go_simp
            refine hK.out _ _ ?_
            clear hK K
            refine wpAnyL_done (by kernel_rfl) ?_ _
            clear hHeld
            go_simp
            obtain ⟨d0, d1, d2, d3, _, _⟩ := HD.out w1 HM1.out.bel; simp only at d0 d1 d2 d3
            go_upto_region 13 with (go_at_call 12; refine (HOV.out _).mono ?_; rintro e w3 ⟨rfl, rfl⟩)
            refine wp_region_last (fun x => x.cell? ⟨bb, off + j * 4 + 2, none⟩ = some (.int .i64 m) ∧ x.cell? ⟨bb, off + j * 4 + 3, none⟩ = some (.int .i64 v)) 13 (by kernel_rfl) ⟨(HD.out w1 HM1.out.bel).2.2.1, (HD.out w1 HM1.out.bel).2.2.2.1⟩ (fun hHeld => ?_)
            have HM2 := Lib.hid HM1.out.drew
            have HR2 : Hid (RpAt w1.drew gr per rd ov n) := HR1
            clear HM1 HR1 d0 d1 d2 d3
            generalize w1.drew = w2 at *
            refine wpAnyL_take (i := 0) (v := ?_) rfl (by kernel_rfl) (by kernel_rfl) (by kernel_rfl) (by kernel_rfl) (by kernel_rfl) (fun _ _ _ h => h) (Or.inl ⟨by rfl, ?_⟩) (by assumption) ?_
            rotate_left
            · intro wq hSw; (try dsimp only at hSw); first | (go_simp; done) | (go_simp; with_reducible rfl) | with_reducible rfl
            try simp only [Act.put, List.setIfInBounds_toArray, List.set_cons_zero, List.set_cons_succ, List.getElem_toArray, List.getElem_cons_zero, List.getElem_cons_succ]
            refine wpAnyL_take (i := 1) (v := ?_) rfl (by kernel_rfl) (by kernel_rfl) (by kernel_rfl) (by kernel_rfl) (by kernel_rfl) (fun _ _ _ h => h) (Or.inl ⟨by rfl, ?_⟩) (by assumption) ?_
            rotate_left
            · intro wq hSw; (try dsimp only at hSw); first | (go_simp; done) | (go_simp; with_reducible rfl) | with_reducible rfl
            try simp only [Act.put, List.setIfInBounds_toArray, List.set_cons_zero, List.set_cons_succ, List.getElem_toArray, List.getElem_cons_zero, List.getElem_cons_succ]
            refine wpAnyL_take (i := 2) (v := ?_) rfl (by kernel_rfl) (by kernel_rfl) (by kernel_rfl) (by kernel_rfl) (by kernel_rfl) (fun _ _ _ h => h) (Or.inl ⟨by rfl, ?_⟩) (by assumption) ?_
            rotate_left
            · intro wq hSw; (try dsimp only at hSw); first | (go_simp; done) | (go_simp; with_reducible rfl) | with_reducible rfl
            try simp only [Act.put, List.setIfInBounds_toArray, List.set_cons_zero, List.set_cons_succ, List.getElem_toArray, List.getElem_cons_zero, List.getElem_cons_succ]
            refine wpAnyL_take (i := 3) (v := ?_) rfl (by kernel_rfl) (by kernel_rfl) (by kernel_rfl) (by kernel_rfl) (by kernel_rfl) (fun _ _ _ h => h) (Or.inl ⟨by rfl, ?_⟩) (by assumption) ?_
            rotate_left
            · intro wq hSw; (try dsimp only at hSw); first | (go_simp; done) | (go_simp; with_reducible rfl) | with_reducible rfl
            try simp only [Act.put, List.setIfInBounds_toArray, List.set_cons_zero, List.set_cons_succ, List.getElem_toArray, List.getElem_cons_zero, List.getElem_cons_succ]
            refine wpAnyL_take (i := 4) (v := .int .i64 m) rfl (by kernel_rfl) (by kernel_rfl) (by kernel_rfl) (by kernel_rfl) (by kernel_rfl) (fun _ _ _ h => h) (Or.inl ⟨by rfl, ?_⟩) (by assumption) ?_
            · intro wq hSw; (try dsimp only at hSw); first | (go_simp; done) | (go_simp; with_reducible rfl) | with_reducible rfl
            try simp only [Act.put, List.setIfInBounds_toArray, List.set_cons_zero, List.set_cons_succ, List.getElem_toArray, List.getElem_cons_zero, List.getElem_cons_succ]
            refine wpAnyL_take (i := 5) (v := ?_) rfl (by kernel_rfl) (by kernel_rfl) (by kernel_rfl) (by kernel_rfl) (by kernel_rfl) (fun _ _ _ h => h) (Or.inl ⟨by rfl, ?_⟩) (by assumption) ?_
            rotate_left
            · intro wq hSw; (try dsimp only at hSw); first | (go_simp; done) | (go_simp; with_reducible rfl) | with_reducible rfl
            try simp only [Act.put, List.setIfInBounds_toArray, List.set_cons_zero, List.set_cons_succ, List.getElem_toArray, List.getElem_cons_zero, List.getElem_cons_succ]
            refine wpAnyL_take (i := 7) (v := ?_) rfl (by kernel_rfl) (by kernel_rfl) (by kernel_rfl) (by kernel_rfl) (by kernel_rfl) (fun _ _ _ h => h) (Or.inl ⟨by rfl, ?_⟩) (by assumption) ?_
            rotate_left
            · intro wq hSw; (try dsimp only at hSw); first | (go_simp; done) | (go_simp; with_reducible rfl) | with_reducible rfl
            try simp only [Act.put, List.setIfInBounds_toArray, List.set_cons_zero, List.set_cons_succ, List.getElem_toArray, List.getElem_cons_zero, List.getElem_cons_succ]
            refine wpAnyL_take (i := 8) (v := ?_) rfl (by kernel_rfl) (by kernel_rfl) (by kernel_rfl) (by kernel_rfl) (by kernel_rfl) (fun _ _ _ h => h) (Or.inl ⟨by rfl, ?_⟩) (by assumption) ?_
            rotate_left
            · intro wq hSw; (try dsimp only at hSw); first | (go_simp; done) | (go_simp; with_reducible rfl) | with_reducible rfl
            try simp only [Act.put, List.setIfInBounds_toArray, List.set_cons_zero, List.set_cons_succ, List.getElem_toArray, List.getElem_cons_zero, List.getElem_cons_succ]
            refine wpAnyL_take (i := 9) (v := ?_) rfl (by kernel_rfl) (by kernel_rfl) (by kernel_rfl) (by kernel_rfl) (by kernel_rfl) (fun _ _ _ h => h) (Or.inl ⟨by rfl, ?_⟩) (by assumption) ?_
            rotate_left
            · intro wq hSw; (try dsimp only at hSw); first | (go_simp; done) | (go_simp; with_reducible rfl) | with_reducible rfl
            try simp only [Act.put, List.setIfInBounds_toArray, List.set_cons_zero, List.set_cons_succ, List.getElem_toArray, List.getElem_cons_zero, List.getElem_cons_succ]
            refine wpAnyL_take (i := 10) (v := ?_) rfl (by kernel_rfl) (by kernel_rfl) (by kernel_rfl) (by kernel_rfl) (by kernel_rfl) (fun _ _ _ h => h) (Or.inl ⟨by rfl, ?_⟩) (by assumption) ?_
            rotate_left
            · intro wq hSw; (try dsimp only at hSw); first | (go_simp; done) | (go_simp; with_reducible rfl) | with_reducible rfl
            try simp only [Act.put, List.setIfInBounds_toArray, List.set_cons_zero, List.set_cons_succ, List.getElem_toArray, List.getElem_cons_zero, List.getElem_cons_succ]
            refine wpAnyL_take (i := 11) (v := .int .i64 v) rfl (by kernel_rfl) (by kernel_rfl) (by kernel_rfl) (by kernel_rfl) (by kernel_rfl) (fun _ _ _ h => h) (Or.inl ⟨by rfl, ?_⟩) (by assumption) ?_
            · intro wq hSw; (try dsimp only at hSw); first | (go_simp; done) | (go_simp; with_reducible rfl) | with_reducible rfl
            try simp only [Act.put, List.setIfInBounds_toArray, List.set_cons_zero, List.set_cons_succ, List.getElem_toArray, List.getElem_cons_zero, List.getElem_cons_succ]
            refine wpAnyL_ready (rs := [6]) (by kernel_rfl) (by simp) ?_
            refine (AllReadyL.cons rfl (fun K hK => ?_) AllReadyL.nil)
            go_simp
            go_wp2_with fail
            refine (rset_any m (nw + ib) _ (by omega) (by omega) (by omega) (by omega)).mono ?_
            rintro e w4 ⟨rfl, hb4⟩
            have HM4 := Lib.hid (HM2.out.below hb4)
            have HR4 := Lib.hid (HR2.out.below hb4 HR2.out.lt)
            clear hb4 HM2 HR2
            refine hK.out _ _ ?_ (fun hHeld => ?_)
            · (try dsimp only); exact ⟨(HD.out w4 HM4.out.bel).2.2.1, (HD.out w4 HM4.out.bel).2.2.2.1⟩
            clear hK K
            refine wpAnyL_take (i := 12) (v := .agg #[.int .i64 m, .int .i64 (dueE (nw + ib) m (nw + ib)), .int .i64 v, .int .i64 0]) rfl (by kernel_rfl) (by kernel_rfl) (by kernel_rfl) (by kernel_rfl) (by kernel_rfl) (fun _ _ _ h => h) (Or.inl ⟨by rfl, ?_⟩) (by assumption) ?_
            · intro wq hSw; (try dsimp only at hSw); first | (go_simp; done) | (go_simp; with_reducible rfl) | with_reducible rfl
            try simp only [Act.put, List.setIfInBounds_toArray, List.set_cons_zero, List.set_cons_succ, List.getElem_toArray, List.getElem_cons_zero, List.getElem_cons_succ]
            refine wpAnyL_ready (rs := [13]) (by kernel_rfl) (by simp) ?_
            refine AllReadyL.last rfl (fun K hK => ?_)
            refine Eq.mpr (if_pos (by kernel_rfl)) ?_
            refine wp_store_row 36 (.tmp 4) (.tmp 91) rfl gr #[.int .i64 m, .int .i64 (dueE (nw + ib) m (nw + ib)), .int .i64 v, .int .i64 0] rfl rfl _ _ HR4.out info_rp rfl (one_rp _ _ _ _) ?_
            have HL5 := Lib.hid (show LpS w q c gr m v (bhE 0 v) (dueE (nw + ib) m (nw + ib)) 0 (oSet m (nw + ib)) (w4.setRow gr #[.int .i64 m, .int .i64 (dueE (nw + ib) m (nw + ib)), .int .i64 v, .int .i64 0]) from ⟨HM4.out.row HR4.out HG1.out (by decide) (by decide) (by decide) (by decide) (by decide) _, HR4.out.row _ _ _ _, HG1.out⟩)
            refine hK.out _ _ ?_
            clear hK K HM4 HR4
            refine wpAnyL_done (by kernel_rfl) ?_ _
            clear hHeld
            go_simp
            generalize w4.setRow gr #[.int .i64 m, .int .i64 (dueE (nw + ib) m (nw + ib)), .int .i64 v, .int .i64 0] = w5 at *
            go_wp2_with fail
            go_roundw
            case rel => exact ⟨j + 1, (nw + ib), m, v, (bhE 0 v), (dueE (nw + ib) m (nw + ib)), 0, (oSet m (nw + ib)), by omega, by omega, rfl, by go_num, by omega, by omega, HL5, Lib.hid (rel_set (by omega) (by omega) (by omega)), Lib.hid rfl, HV, by omega, by omega, by omega, by omega⟩
            case measure => simp [intOf]; omega
          | false =>
            have HU := Lib.hid (show (isNu m && isNu (nw + ib) && isOv v) = false by simp [hv])
            rw [hv] at HOV
            clear hu hv
            go_upto_region 9 with fail
            refine wp_region_last (fun x => x.cell? ⟨bb, off + j * 4 + 2, none⟩ = some (.int .i64 m) ∧ x.cell? ⟨bb, off + j * 4 + 3, none⟩ = some (.int .i64 v)) 13 (by kernel_rfl) ⟨(HD.out wr HLr.out.bel).2.2.1, (HD.out wr HLr.out.bel).2.2.2.1⟩ (fun hHeld => ?_)
            replace HLr := Lib.hid (HLr.out.below (kD wr))
            generalize wr.drew = wr at *
            clear d0 d1 d2 d3
            refine wpAnyL_take (i := 0) (v := ?_) rfl (by kernel_rfl) (by kernel_rfl) (by kernel_rfl) (by kernel_rfl) (by kernel_rfl) (fun _ _ _ h => h) (Or.inl ⟨by rfl, ?_⟩) (by assumption) ?_
            rotate_left
            · intro wq hSw; (try dsimp only at hSw); first | (go_simp; done) | (go_simp; with_reducible rfl) | with_reducible rfl
            try simp only [Act.put, List.setIfInBounds_toArray, List.set_cons_zero, List.set_cons_succ, List.getElem_toArray, List.getElem_cons_zero, List.getElem_cons_succ]
            refine wpAnyL_take (i := 1) (v := ?_) rfl (by kernel_rfl) (by kernel_rfl) (by kernel_rfl) (by kernel_rfl) (by kernel_rfl) (fun _ _ _ h => h) (Or.inl ⟨by rfl, ?_⟩) (by assumption) ?_
            rotate_left
            · intro wq hSw; (try dsimp only at hSw); first | (go_simp; done) | (go_simp; with_reducible rfl) | with_reducible rfl
            try simp only [Act.put, List.setIfInBounds_toArray, List.set_cons_zero, List.set_cons_succ, List.getElem_toArray, List.getElem_cons_zero, List.getElem_cons_succ]
            refine wpAnyL_take (i := 2) (v := ?_) rfl (by kernel_rfl) (by kernel_rfl) (by kernel_rfl) (by kernel_rfl) (by kernel_rfl) (fun _ _ _ h => h) (Or.inl ⟨by rfl, ?_⟩) (by assumption) ?_
            rotate_left
            · intro wq hSw; (try dsimp only at hSw); first | (go_simp; done) | (go_simp; with_reducible rfl) | with_reducible rfl
            try simp only [Act.put, List.setIfInBounds_toArray, List.set_cons_zero, List.set_cons_succ, List.getElem_toArray, List.getElem_cons_zero, List.getElem_cons_succ]
            refine wpAnyL_take (i := 3) (v := ?_) rfl (by kernel_rfl) (by kernel_rfl) (by kernel_rfl) (by kernel_rfl) (by kernel_rfl) (fun _ _ _ h => h) (Or.inl ⟨by rfl, ?_⟩) (by assumption) ?_
            rotate_left
            · intro wq hSw; (try dsimp only at hSw); first | (go_simp; done) | (go_simp; with_reducible rfl) | with_reducible rfl
            try simp only [Act.put, List.setIfInBounds_toArray, List.set_cons_zero, List.set_cons_succ, List.getElem_toArray, List.getElem_cons_zero, List.getElem_cons_succ]
            refine wpAnyL_take (i := 4) (v := ?_) rfl (by kernel_rfl) (by kernel_rfl) (by kernel_rfl) (by kernel_rfl) (by kernel_rfl) (fun _ _ _ h => h) (Or.inl ⟨by rfl, ?_⟩) (by assumption) ?_
            rotate_left
            · intro wq hSw; (try dsimp only at hSw); first | (go_simp; done) | (go_simp; with_reducible rfl) | with_reducible rfl
            try simp only [Act.put, List.setIfInBounds_toArray, List.set_cons_zero, List.set_cons_succ, List.getElem_toArray, List.getElem_cons_zero, List.getElem_cons_succ]
            refine wpAnyL_take (i := 5) (v := .int .i64 m) rfl (by kernel_rfl) (by kernel_rfl) (by kernel_rfl) (by kernel_rfl) (by kernel_rfl) (fun _ _ _ h => h) (Or.inl ⟨by rfl, ?_⟩) (by assumption) ?_
            · intro wq hSw; (try dsimp only at hSw); first | (go_simp; done) | (go_simp; with_reducible rfl) | with_reducible rfl
            try simp only [Act.put, List.setIfInBounds_toArray, List.set_cons_zero, List.set_cons_succ, List.getElem_toArray, List.getElem_cons_zero, List.getElem_cons_succ]
            refine wpAnyL_take (i := 6) (v := ?_) rfl (by kernel_rfl) (by kernel_rfl) (by kernel_rfl) (by kernel_rfl) (by kernel_rfl) (fun _ _ _ h => h) (Or.inl ⟨by rfl, ?_⟩) (by assumption) ?_
            rotate_left
            · intro wq hSw; (try dsimp only at hSw); first | (go_simp; done) | (go_simp; with_reducible rfl) | with_reducible rfl
            try simp only [Act.put, List.setIfInBounds_toArray, List.set_cons_zero, List.set_cons_succ, List.getElem_toArray, List.getElem_cons_zero, List.getElem_cons_succ]
            refine wpAnyL_take (i := 7) (v := ?_) rfl (by kernel_rfl) (by kernel_rfl) (by kernel_rfl) (by kernel_rfl) (by kernel_rfl) (fun _ _ _ h => h) (Or.inl ⟨by rfl, ?_⟩) (by assumption) ?_
            rotate_left
            · intro wq hSw; (try dsimp only at hSw); first | (go_simp; done) | (go_simp; with_reducible rfl) | with_reducible rfl
            try simp only [Act.put, List.setIfInBounds_toArray, List.set_cons_zero, List.set_cons_succ, List.getElem_toArray, List.getElem_cons_zero, List.getElem_cons_succ]
            refine wpAnyL_take (i := 8) (v := ?_) rfl (by kernel_rfl) (by kernel_rfl) (by kernel_rfl) (by kernel_rfl) (by kernel_rfl) (fun _ _ _ h => h) (Or.inl ⟨by rfl, ?_⟩) (by assumption) ?_
            rotate_left
            · intro wq hSw; (try dsimp only at hSw); first | (go_simp; done) | (go_simp; with_reducible rfl) | with_reducible rfl
            try simp only [Act.put, List.setIfInBounds_toArray, List.set_cons_zero, List.set_cons_succ, List.getElem_toArray, List.getElem_cons_zero, List.getElem_cons_succ]
            refine wpAnyL_take (i := 9) (v := ?_) rfl (by kernel_rfl) (by kernel_rfl) (by kernel_rfl) (by kernel_rfl) (by kernel_rfl) (fun _ _ _ h => h) (Or.inl ⟨by rfl, ?_⟩) (by assumption) ?_
            rotate_left
            · intro wq hSw; (try dsimp only at hSw); first | (go_simp; done) | (go_simp; with_reducible rfl) | with_reducible rfl
            try simp only [Act.put, List.setIfInBounds_toArray, List.set_cons_zero, List.set_cons_succ, List.getElem_toArray, List.getElem_cons_zero, List.getElem_cons_succ]
            refine wpAnyL_take (i := 10) (v := .int .i64 v) rfl (by kernel_rfl) (by kernel_rfl) (by kernel_rfl) (by kernel_rfl) (by kernel_rfl) (fun _ _ _ h => h) (Or.inl ⟨by rfl, ?_⟩) (by assumption) ?_
            · intro wq hSw; (try dsimp only at hSw); first | (go_simp; done) | (go_simp; with_reducible rfl) | with_reducible rfl
            try simp only [Act.put, List.setIfInBounds_toArray, List.set_cons_zero, List.set_cons_succ, List.getElem_toArray, List.getElem_cons_zero, List.getElem_cons_succ]
            refine wpAnyL_take (i := 11) (v := ?_) rfl (by kernel_rfl) (by kernel_rfl) (by kernel_rfl) (by kernel_rfl) (by kernel_rfl) (fun _ _ _ h => h) (Or.inl ⟨by rfl, ?_⟩) (by assumption) ?_
            rotate_left
            · intro wq hSw; (try dsimp only at hSw); first | (go_simp; done) | (go_simp; with_reducible rfl) | with_reducible rfl
            try simp only [Act.put, List.setIfInBounds_toArray, List.set_cons_zero, List.set_cons_succ, List.getElem_toArray, List.getElem_cons_zero, List.getElem_cons_succ]
            refine wpAnyL_ready (rs := [12]) (by kernel_rfl) (by simp) ?_
            refine (AllReadyL.cons rfl (fun K hK => ?_) AllReadyL.nil)
            go_simp
            go_wp2_with fail
            refine (pset_bad _ q m v (nw + ib) HU.out).mono ?_
            rintro e w1 ⟨rfl, rfl⟩
            refine hK.out _ _ ?_ (fun hHeld => ?_)
            · (try dsimp only); exact ⟨(HD.out wr HLr.out.bel).2.2.1, (HD.out wr HLr.out.bel).2.2.2.1⟩
            clear hK K
            refine wpAnyL_ready (rs := [13]) (by kernel_rfl) (by simp) ?_
            refine AllReadyL.last rfl (fun K hK => ?_)
            go_simp
            refine hK.out _ _ ?_
            clear hK K
            refine wpAnyL_done (by kernel_rfl) ?_ _
            clear hHeld
            go_simp
            obtain ⟨d0, d1, d2, d3, _, _⟩ := HD.out wr HLr.out.bel; simp only at d0 d1 d2 d3
            go_wp2_with (go_at_call 12; refine (HOV.out _).mono ?_; rintro e w3 ⟨rfl, rfl⟩)
            go_roundw
            case rel => exact ⟨j + 1, (nw + ib), per, ov, ct, rd, n, o, by omega, by omega, rfl, by go_num, by omega, by omega, HLr, HRel, HCt, HOv, by omega, by omega, by omega, by omega⟩
            case measure => simp [intOf]; omega
        · have HU := Lib.hid (show (isNu m && isNu (nw + ib) && isOv v) = false by simp [hu])
          have hc : m < 0 ∨ (¬ m < 0 ∧ 2147483647 < m) := by
            by_cases a : m < 0
            · exact .inl a
            · by_cases b : 2147483647 < m
              · exact .inr ⟨a, b⟩
              · exact absurd (isU_yes (by omega) (by omega)) hu
          clear hu
          rcases hc with hc | ⟨hc, hc2⟩
          all_goals
            go_upto_region 9 with fail
            refine wp_region_last (fun x => x.cell? ⟨bb, off + j * 4 + 2, none⟩ = some (.int .i64 m) ∧ x.cell? ⟨bb, off + j * 4 + 3, none⟩ = some (.int .i64 v)) 13 (by kernel_rfl) ⟨(HD.out wr HLr.out.bel).2.2.1, (HD.out wr HLr.out.bel).2.2.2.1⟩ (fun hHeld => ?_)
            replace HLr := Lib.hid (HLr.out.below (kD wr))
            generalize wr.drew = wr at *
            clear d0 d1 d2 d3
            refine wpAnyL_take (i := 0) (v := ?_) rfl (by kernel_rfl) (by kernel_rfl) (by kernel_rfl) (by kernel_rfl) (by kernel_rfl) (fun _ _ _ h => h) (Or.inl ⟨by rfl, ?_⟩) (by assumption) ?_
            rotate_left
            · intro wq hSw; (try dsimp only at hSw); first | (go_simp; done) | (go_simp; with_reducible rfl) | with_reducible rfl
            try simp only [Act.put, List.setIfInBounds_toArray, List.set_cons_zero, List.set_cons_succ, List.getElem_toArray, List.getElem_cons_zero, List.getElem_cons_succ]
            refine wpAnyL_take (i := 1) (v := ?_) rfl (by kernel_rfl) (by kernel_rfl) (by kernel_rfl) (by kernel_rfl) (by kernel_rfl) (fun _ _ _ h => h) (Or.inl ⟨by rfl, ?_⟩) (by assumption) ?_
            rotate_left
            · intro wq hSw; (try dsimp only at hSw); first | (go_simp; done) | (go_simp; with_reducible rfl) | with_reducible rfl
            try simp only [Act.put, List.setIfInBounds_toArray, List.set_cons_zero, List.set_cons_succ, List.getElem_toArray, List.getElem_cons_zero, List.getElem_cons_succ]
            refine wpAnyL_take (i := 2) (v := ?_) rfl (by kernel_rfl) (by kernel_rfl) (by kernel_rfl) (by kernel_rfl) (by kernel_rfl) (fun _ _ _ h => h) (Or.inl ⟨by rfl, ?_⟩) (by assumption) ?_
            rotate_left
            · intro wq hSw; (try dsimp only at hSw); first | (go_simp; done) | (go_simp; with_reducible rfl) | with_reducible rfl
            try simp only [Act.put, List.setIfInBounds_toArray, List.set_cons_zero, List.set_cons_succ, List.getElem_toArray, List.getElem_cons_zero, List.getElem_cons_succ]
            refine wpAnyL_take (i := 3) (v := ?_) rfl (by kernel_rfl) (by kernel_rfl) (by kernel_rfl) (by kernel_rfl) (by kernel_rfl) (fun _ _ _ h => h) (Or.inl ⟨by rfl, ?_⟩) (by assumption) ?_
            rotate_left
            · intro wq hSw; (try dsimp only at hSw); first | (go_simp; done) | (go_simp; with_reducible rfl) | with_reducible rfl
            try simp only [Act.put, List.setIfInBounds_toArray, List.set_cons_zero, List.set_cons_succ, List.getElem_toArray, List.getElem_cons_zero, List.getElem_cons_succ]
            refine wpAnyL_take (i := 4) (v := ?_) rfl (by kernel_rfl) (by kernel_rfl) (by kernel_rfl) (by kernel_rfl) (by kernel_rfl) (fun _ _ _ h => h) (Or.inl ⟨by rfl, ?_⟩) (by assumption) ?_
            rotate_left
            · intro wq hSw; (try dsimp only at hSw); first | (go_simp; done) | (go_simp; with_reducible rfl) | with_reducible rfl
            try simp only [Act.put, List.setIfInBounds_toArray, List.set_cons_zero, List.set_cons_succ, List.getElem_toArray, List.getElem_cons_zero, List.getElem_cons_succ]
            refine wpAnyL_take (i := 5) (v := .int .i64 m) rfl (by kernel_rfl) (by kernel_rfl) (by kernel_rfl) (by kernel_rfl) (by kernel_rfl) (fun _ _ _ h => h) (Or.inl ⟨by rfl, ?_⟩) (by assumption) ?_
            · intro wq hSw; (try dsimp only at hSw); first | (go_simp; done) | (go_simp; with_reducible rfl) | with_reducible rfl
            try simp only [Act.put, List.setIfInBounds_toArray, List.set_cons_zero, List.set_cons_succ, List.getElem_toArray, List.getElem_cons_zero, List.getElem_cons_succ]
            refine wpAnyL_take (i := 6) (v := ?_) rfl (by kernel_rfl) (by kernel_rfl) (by kernel_rfl) (by kernel_rfl) (by kernel_rfl) (fun _ _ _ h => h) (Or.inl ⟨by rfl, ?_⟩) (by assumption) ?_
            rotate_left
            · intro wq hSw; (try dsimp only at hSw); first | (go_simp; done) | (go_simp; with_reducible rfl) | with_reducible rfl
            try simp only [Act.put, List.setIfInBounds_toArray, List.set_cons_zero, List.set_cons_succ, List.getElem_toArray, List.getElem_cons_zero, List.getElem_cons_succ]
            refine wpAnyL_take (i := 7) (v := ?_) rfl (by kernel_rfl) (by kernel_rfl) (by kernel_rfl) (by kernel_rfl) (by kernel_rfl) (fun _ _ _ h => h) (Or.inl ⟨by rfl, ?_⟩) (by assumption) ?_
            rotate_left
            · intro wq hSw; (try dsimp only at hSw); first | (go_simp; done) | (go_simp; with_reducible rfl) | with_reducible rfl
            try simp only [Act.put, List.setIfInBounds_toArray, List.set_cons_zero, List.set_cons_succ, List.getElem_toArray, List.getElem_cons_zero, List.getElem_cons_succ]
            refine wpAnyL_take (i := 8) (v := ?_) rfl (by kernel_rfl) (by kernel_rfl) (by kernel_rfl) (by kernel_rfl) (by kernel_rfl) (fun _ _ _ h => h) (Or.inl ⟨by rfl, ?_⟩) (by assumption) ?_
            rotate_left
            · intro wq hSw; (try dsimp only at hSw); first | (go_simp; done) | (go_simp; with_reducible rfl) | with_reducible rfl
            try simp only [Act.put, List.setIfInBounds_toArray, List.set_cons_zero, List.set_cons_succ, List.getElem_toArray, List.getElem_cons_zero, List.getElem_cons_succ]
            refine wpAnyL_take (i := 9) (v := ?_) rfl (by kernel_rfl) (by kernel_rfl) (by kernel_rfl) (by kernel_rfl) (by kernel_rfl) (fun _ _ _ h => h) (Or.inl ⟨by rfl, ?_⟩) (by assumption) ?_
            rotate_left
            · intro wq hSw; (try dsimp only at hSw); first | (go_simp; done) | (go_simp; with_reducible rfl) | with_reducible rfl
            try simp only [Act.put, List.setIfInBounds_toArray, List.set_cons_zero, List.set_cons_succ, List.getElem_toArray, List.getElem_cons_zero, List.getElem_cons_succ]
            refine wpAnyL_take (i := 10) (v := .int .i64 v) rfl (by kernel_rfl) (by kernel_rfl) (by kernel_rfl) (by kernel_rfl) (by kernel_rfl) (fun _ _ _ h => h) (Or.inl ⟨by rfl, ?_⟩) (by assumption) ?_
            · intro wq hSw; (try dsimp only at hSw); first | (go_simp; done) | (go_simp; with_reducible rfl) | with_reducible rfl
            try simp only [Act.put, List.setIfInBounds_toArray, List.set_cons_zero, List.set_cons_succ, List.getElem_toArray, List.getElem_cons_zero, List.getElem_cons_succ]
            refine wpAnyL_take (i := 11) (v := ?_) rfl (by kernel_rfl) (by kernel_rfl) (by kernel_rfl) (by kernel_rfl) (by kernel_rfl) (fun _ _ _ h => h) (Or.inl ⟨by rfl, ?_⟩) (by assumption) ?_
            rotate_left
            · intro wq hSw; (try dsimp only at hSw); first | (go_simp; done) | (go_simp; with_reducible rfl) | with_reducible rfl
            try simp only [Act.put, List.setIfInBounds_toArray, List.set_cons_zero, List.set_cons_succ, List.getElem_toArray, List.getElem_cons_zero, List.getElem_cons_succ]
            refine wpAnyL_ready (rs := [12]) (by kernel_rfl) (by simp) ?_
            refine (AllReadyL.cons rfl (fun K hK => ?_) AllReadyL.nil)
            go_simp
            go_wp2_with fail
            refine (pset_bad _ q m v (nw + ib) HU.out).mono ?_
            rintro e w1 ⟨rfl, rfl⟩
            refine hK.out _ _ ?_ (fun hHeld => ?_)
            · (try dsimp only); exact ⟨(HD.out wr HLr.out.bel).2.2.1, (HD.out wr HLr.out.bel).2.2.2.1⟩
            clear hK K
            refine wpAnyL_ready (rs := [13]) (by kernel_rfl) (by simp) ?_
            refine AllReadyL.last rfl (fun K hK => ?_)
            go_simp
            refine hK.out _ _ ?_
            clear hK K
            refine wpAnyL_done (by kernel_rfl) ?_ _
            clear hHeld
            go_simp
            obtain ⟨d0, d1, d2, d3, _, _⟩ := HD.out wr HLr.out.bel; simp only at d0 d1 d2 d3
            go_wp2_with (go_at_call 12; refine (HOV.out _).mono ?_; rintro e w3 ⟨rfl, rfl⟩)
            go_roundw
            case rel => exact ⟨j + 1, (nw + ib), per, ov, ct, rd, n, o, by omega, by omega, rfl, by go_num, by omega, by omega, HLr, HRel, HCt, HOv, by omega, by omega, by omega, by omega⟩
            case measure => simp [intOf]; omega
      | false =>
        clear HOV
        rcases rel_not HRel.out (show (nw + ib) ≤ 2147483647 by omega) with ⟨hnd, hnr⟩ | ⟨x, rfl, hx0, hx1, hx2, hxr⟩
        · have HND := Lib.hid hnd
          have HNR := Lib.hid hnr
          have HQX := Lib.hid (show ∀ w, (Op.equalIn 10000 24 (.agg #[.int .i64 0, .bool false, .int .i64 0, .int .u8 0, .int .u8 0, .int .u8 0, .int .u8 0, .int .u8 0, .int .u8 0, .int .u8 0, .int .u8 0]) (.agg #[.int .i64 0, .bool false, .int .i64 0, .int .u8 0, .int .u8 0, .int .u8 0, .int .u8 0, .int .u8 0, .int .u8 0, .int .u8 0, .int .u8 0])).run Try.prog w = .ok true w from fun w => (run_eq_frames w 0 0 0 0 false false (fun _ => 0) (fun _ => 0)).trans (by simp [eqD]))
          clear hnd hnr
          go_upto_region 18 with fail
          have HX1 := Lib.hid (frame_new wr 0 0 false (fun _ => 0))
          have HG1 := Lib.hid (show w.heap.size ≤ wr.heap.size from HLr.out.bel.size)
          have HL1 := Lib.hid (HLr.out.below ((Below.refl _ _).alloc (Nat.le_refl _) _ : Below wr.heap.size wr (wr.alloc (.cells #[.int .i64 0, .bool false, .int .i64 0, .int .u8 0, .int .u8 0, .int .u8 0, .int .u8 0, .int .u8 0, .int .u8 0, .int .u8 0, .int .u8 0] 24))))
          clear d0 d1 d2 d3 HLr
          generalize (wr.alloc (.cells #[.int .i64 0, .bool false, .int .i64 0, .int .u8 0, .int .u8 0, .int .u8 0, .int .u8 0, .int .u8 0, .int .u8 0, .int .u8 0, .int .u8 0] 24)) = w1 at *
          generalize wr.heap.size = gt at *
          go_upto_region 19 with (first
            | (refine wpList_load_row rfl _ (.tmp 4) rfl gr rfl _ _ _ _ HL1.out.r Try.underlying36 rfl info_rp ?_)
            | (go_at_call 14; refine (rptick_no per rd ov n (nw + ib) _ HNR.out).mono ?_; rintro e w2 ⟨rfl, hb2⟩; have HL2 := Lib.hid (HL1.out.below hb2); have HX2 := Lib.hid (HX1.out.below hb2 HX1.out.lt); have HN2 := Lib.hid (show gt ≠ gr from fun e => by have h1 := HX1.out; subst e; have h2 := HL1.out.r; unfold RpAt at h2; unfold FrAt at h1; rw [h1] at h2; cases h2); clear hb2)
            | (refine wpList_store_row rfl _ (.tmp 4) (.tmp 98) rfl gr _ rfl rfl _ _ HL2.out.r info_rp rfl (one_rp _ _ _ _) ?_)
            | (refine wpList_store_row rfl _ (.tmp 8) (.tmp 99) rfl gt _ rfl rfl _ _ (HX2.out.row_other HN2.out #[.int .i64 per, .int .i64 rd, .int .i64 ov, .int .i64 n]) info_frame rfl (one_frame 0 0 false (fun _ => 0)) ?_))
          have HL3 := Lib.hid ((HL2.out.rowr per rd ov n HL2.out.m rfl rfl).rowf (HX2.out.row_other HN2.out #[.int .i64 per, .int .i64 rd, .int .i64 ov, .int .i64 n]) HG1.out #[.int .i64 0, .bool false, .int .i64 0, .int .u8 0, .int .u8 0, .int .u8 0, .int .u8 0, .int .u8 0, .int .u8 0, .int .u8 0, .int .u8 0])
          have HX3 := Lib.hid (show FrAt ((w2.setRow gr #[.int .i64 per, .int .i64 rd, .int .i64 ov, .int .i64 n]).setRow gt #[.int .i64 0, .bool false, .int .i64 0, .int .u8 0, .int .u8 0, .int .u8 0, .int .u8 0, .int .u8 0, .int .u8 0, .int .u8 0, .int .u8 0]) gt 0 false 0 (fun _ => 0) from (HX2.out.row_other HN2.out #[.int .i64 per, .int .i64 rd, .int .i64 ov, .int .i64 n]).row 0 0 false (fun _ => 0))
          clear HL1 HL2 HX1 HX2 HN2
          generalize (w2.setRow gr #[.int .i64 per, .int .i64 rd, .int .i64 ov, .int .i64 n]).setRow gt #[.int .i64 0, .bool false, .int .i64 0, .int .u8 0, .int .u8 0, .int .u8 0, .int .u8 0, .int .u8 0, .int .u8 0, .int .u8 0, .int .u8 0] = w3 at *
          go_upto_region 20 with (first
            | (go_at_call 15; refine (ptick_not w _ q c per ov ct (nw + ib) o HL3.out.m HND.out).mono ?_; rintro e w4 ⟨rfl, hb4⟩; have hl4 := HL3.out.below hb4; have hx4 := HX3.out.below hb4 HX3.out.lt; clear hb4; have HL4 := Lib.hid (hl4.below ((Below.refl _ _).alloc (Nat.le_refl _) _ : Below w4.heap.size w4 (w4.alloc (.cells #[.int .i64 0, .bool false, .int .i64 0, .int .u8 0, .int .u8 0, .int .u8 0, .int .u8 0, .int .u8 0, .int .u8 0, .int .u8 0, .int .u8 0] 24)))); have HX4 := Lib.hid (hx4.below ((Below.refl _ _).alloc (Nat.le_refl _) _ : Below w4.heap.size w4 (w4.alloc (.cells #[.int .i64 0, .bool false, .int .i64 0, .int .u8 0, .int .u8 0, .int .u8 0, .int .u8 0, .int .u8 0, .int .u8 0, .int .u8 0, .int .u8 0] 24))) hx4.lt); have HN4 := Lib.hid (show gt ≠ w4.heap.size from Nat.ne_of_lt hx4.lt); have HG4 := Lib.hid (show w.heap.size ≤ w4.heap.size from hl4.bel.size); have HY4 := Lib.hid (frame_new w4 0 0 false (fun _ => 0)); clear hl4 hx4)
            | (refine wpList_store_row rfl _ (.tmp 10) (.tmp 105) rfl w4.heap.size _ rfl rfl _ _ HY4.out info_frame rfl (one_frame 0 0 false (fun _ => 0)) ?_))
          have HL5 := Lib.hid (HL4.out.rowf HY4.out HG4.out #[.int .i64 0, .bool false, .int .i64 0, .int .u8 0, .int .u8 0, .int .u8 0, .int .u8 0, .int .u8 0, .int .u8 0, .int .u8 0, .int .u8 0])
          have HX5 := Lib.hid (HX4.out.row_other HN4.out #[.int .i64 0, .bool false, .int .i64 0, .int .u8 0, .int .u8 0, .int .u8 0, .int .u8 0, .int .u8 0, .int .u8 0, .int .u8 0, .int .u8 0])
          have HY5 := Lib.hid (show FrAt ((w4.alloc (.cells #[.int .i64 0, .bool false, .int .i64 0, .int .u8 0, .int .u8 0, .int .u8 0, .int .u8 0, .int .u8 0, .int .u8 0, .int .u8 0, .int .u8 0] 24)).setRow w4.heap.size #[.int .i64 0, .bool false, .int .i64 0, .int .u8 0, .int .u8 0, .int .u8 0, .int .u8 0, .int .u8 0, .int .u8 0, .int .u8 0, .int .u8 0]) w4.heap.size 0 false 0 (fun _ => 0) from HY4.out.row 0 0 false (fun _ => 0))
          clear HL4 HX4 HY4 HN4 HG4 HL3 HX3
          generalize (w4.alloc (.cells #[.int .i64 0, .bool false, .int .i64 0, .int .u8 0, .int .u8 0, .int .u8 0, .int .u8 0, .int .u8 0, .int .u8 0, .int .u8 0, .int .u8 0] 24)).setRow w4.heap.size #[.int .i64 0, .bool false, .int .i64 0, .int .u8 0, .int .u8 0, .int .u8 0, .int .u8 0, .int .u8 0, .int .u8 0, .int .u8 0, .int .u8 0] = w5 at *
          generalize w4.heap.size = gp at *
          obtain ⟨x0, x1, x2, x3, x4, x5, x6, x7, x8, x9, x10⟩ : w5.cell? ⟨gt, 0, none⟩ = some (.int .i64 0) ∧ w5.cell? ⟨gt, 1, none⟩ = some (.bool false) ∧ w5.cell? ⟨gt, 2, none⟩ = some (.int .i64 0) ∧ w5.cell? ⟨gt, 3, none⟩ = some (.int .u8 0) ∧ w5.cell? ⟨gt, 4, none⟩ = some (.int .u8 0) ∧ w5.cell? ⟨gt, 5, none⟩ = some (.int .u8 0) ∧ w5.cell? ⟨gt, 6, none⟩ = some (.int .u8 0) ∧ w5.cell? ⟨gt, 7, none⟩ = some (.int .u8 0) ∧ w5.cell? ⟨gt, 8, none⟩ = some (.int .u8 0) ∧ w5.cell? ⟨gt, 9, none⟩ = some (.int .u8 0) ∧ w5.cell? ⟨gt, 10, none⟩ = some (.int .u8 0) := HX5.out.cells
          obtain ⟨y0, y1, y2, y3, y4, y5, y6, y7, y8, y9, y10⟩ : w5.cell? ⟨gp, 0, none⟩ = some (.int .i64 0) ∧ w5.cell? ⟨gp, 1, none⟩ = some (.bool false) ∧ w5.cell? ⟨gp, 2, none⟩ = some (.int .i64 0) ∧ w5.cell? ⟨gp, 3, none⟩ = some (.int .u8 0) ∧ w5.cell? ⟨gp, 4, none⟩ = some (.int .u8 0) ∧ w5.cell? ⟨gp, 5, none⟩ = some (.int .u8 0) ∧ w5.cell? ⟨gp, 6, none⟩ = some (.int .u8 0) ∧ w5.cell? ⟨gp, 7, none⟩ = some (.int .u8 0) ∧ w5.cell? ⟨gp, 8, none⟩ = some (.int .u8 0) ∧ w5.cell? ⟨gp, 9, none⟩ = some (.int .u8 0) ∧ w5.cell? ⟨gp, 10, none⟩ = some (.int .u8 0) := HY5.out.cells
          have hqx := HQX.out
          go_wp2_with fail
          go_roundw
          case rel => exact ⟨j + 1, (nw + ib), per, ov, ct, rd, n, o, by omega, by omega, rfl, by go_num, by omega, by omega, HL5, HRel, HCt, HOv, by omega, by omega, by omega, by omega⟩
          case measure => simp [intOf]; omega
        · obtain rfl : rd = x := hxr
          have hmy : mayP ct ov = true := by rw [HCt.out]; exact ct_may HOv.out
          have hty := fun y (hy : PmAt w q c per ov ct (some rd) y) => ptick_yes w y q c per ov ct (nw + ib) rd hy hmy hx0 hx1 (by omega) hx2 hp1
          have hq : (ov = 0 ∧ ct = 0) ∨ (2 ≤ ov ∧ ov ≤ 240 ∧ ct = n % ov + 1) := by
            have hc := HCt.out
            unfold ctE at hc
            rcases ov_in HOv.out with h | ⟨h, h'⟩
            · rw [if_pos h] at hc; exact .inl ⟨h, hc⟩
            · rw [if_neg (by omega)] at hc; exact .inr ⟨h, h', hc⟩
          have hre := fun w => may_renc ct ov hmy w
          obtain ⟨NN, hNN⟩ : ∃ NN : Int, (if ov = 0 then (0 : Int) else 1) = NN := ⟨_, rfl⟩
          rw [hNN] at hty hre
          have hry := fun w => rptick_yes per rd ov n (nw + ib) 128 NN ct 0 ct _ w hx0 hx1 (by omega) (by omega) hp1 (by omega) (by omega) hq rfl hre
          have HTY := Lib.hid hty
          have HRY := Lib.hid hry
          have HQX := Lib.hid (show ∀ w, (Op.equalIn 10000 24 (.agg #[.int .i64 128, .bool false, .int .i64 NN, .int .u8 ct, .int .u8 0, .int .u8 0, .int .u8 0, .int .u8 0, .int .u8 0, .int .u8 0, .int .u8 0]) (.agg #[.int .i64 128, .bool false, .int .i64 NN, .int .u8 ct, .int .u8 0, .int .u8 0, .int .u8 0, .int .u8 0, .int .u8 0, .int .u8 0, .int .u8 0])).run Try.prog w = .ok true w from fun w => (run_eq_frames w 128 128 NN NN false false (dOf [ct]) (dOf [ct])).trans (by simp [eqD]))
          have HX0 := Lib.hid hx0
          have HX1x := Lib.hid hx1
          have HX2x := Lib.hid hx2
          clear hty hre hry hx0 hx1 hx2 HRel hq hNN hmy
          go_upto_region 18 with fail
          have HX1 := Lib.hid (frame_new wr 0 0 false (fun _ => 0))
          have HG1 := Lib.hid (show w.heap.size ≤ wr.heap.size from HLr.out.bel.size)
          have HL1 := Lib.hid (HLr.out.below ((Below.refl _ _).alloc (Nat.le_refl _) _ : Below wr.heap.size wr (wr.alloc (.cells #[.int .i64 0, .bool false, .int .i64 0, .int .u8 0, .int .u8 0, .int .u8 0, .int .u8 0, .int .u8 0, .int .u8 0, .int .u8 0, .int .u8 0] 24))))
          clear d0 d1 d2 d3 HLr
          generalize (wr.alloc (.cells #[.int .i64 0, .bool false, .int .i64 0, .int .u8 0, .int .u8 0, .int .u8 0, .int .u8 0, .int .u8 0, .int .u8 0, .int .u8 0, .int .u8 0] 24)) = w1 at *
          generalize wr.heap.size = gt at *
          go_upto_region 19 with (first
            | (refine wpList_load_row rfl _ (.tmp 4) rfl gr rfl _ _ _ _ HL1.out.r Try.underlying36 rfl info_rp ?_)
            | (go_at_call 14; refine (HRY.out _).mono ?_; rintro e w2 ⟨rfl, hb2⟩; have HL2 := Lib.hid (HL1.out.below hb2); have HX2 := Lib.hid (HX1.out.below hb2 HX1.out.lt); have HN2 := Lib.hid (show gt ≠ gr from fun e => by have h1 := HX1.out; subst e; have h2 := HL1.out.r; unfold RpAt at h2; unfold FrAt at h1; rw [h1] at h2; cases h2); clear hb2)
            | (refine wpList_store_row rfl _ (.tmp 4) (.tmp 98) rfl gr _ rfl rfl _ _ HL2.out.r info_rp rfl (one_rp _ _ _ _) ?_)
            | (refine wpList_store_row rfl _ (.tmp 8) (.tmp 99) rfl gt _ rfl rfl _ _ (HX2.out.row_other HN2.out #[.int .i64 per, .int .i64 (dueE rd per (nw + ib)), .int .i64 ov, .int .i64 (n + 1)]) info_frame rfl (one_frame 128 NN false (dOf [ct])) ?_))
          have HL3 := Lib.hid ((HL2.out.rowr per (dueE rd per (nw + ib)) ov (n + 1) HL2.out.m rfl rfl).rowf (HX2.out.row_other HN2.out #[.int .i64 per, .int .i64 (dueE rd per (nw + ib)), .int .i64 ov, .int .i64 (n + 1)]) HG1.out #[.int .i64 128, .bool false, .int .i64 NN, .int .u8 ct, .int .u8 0, .int .u8 0, .int .u8 0, .int .u8 0, .int .u8 0, .int .u8 0, .int .u8 0])
          have HX3 := Lib.hid (show FrAt ((w2.setRow gr #[.int .i64 per, .int .i64 (dueE rd per (nw + ib)), .int .i64 ov, .int .i64 (n + 1)]).setRow gt #[.int .i64 128, .bool false, .int .i64 NN, .int .u8 ct, .int .u8 0, .int .u8 0, .int .u8 0, .int .u8 0, .int .u8 0, .int .u8 0, .int .u8 0]) gt 128 false NN (dOf [ct]) from (HX2.out.row_other HN2.out #[.int .i64 per, .int .i64 (dueE rd per (nw + ib)), .int .i64 ov, .int .i64 (n + 1)]).row 128 NN false (dOf [ct]))
          clear HL1 HL2 HX1 HX2 HN2
          generalize (w2.setRow gr #[.int .i64 per, .int .i64 (dueE rd per (nw + ib)), .int .i64 ov, .int .i64 (n + 1)]).setRow gt #[.int .i64 128, .bool false, .int .i64 NN, .int .u8 ct, .int .u8 0, .int .u8 0, .int .u8 0, .int .u8 0, .int .u8 0, .int .u8 0, .int .u8 0] = w3 at *
          go_upto_region 20 with (first
            | (go_at_call 15; refine (HTY.out _ HL3.out.m).mono ?_; rintro e w4 ⟨rfl, hm4, ho4⟩; have hl4 := HL3.out.oth (per2 := 0) hm4 ho4; have hx4 := HX3.out.othp ho4; clear hm4 ho4; have HL4 := Lib.hid (hl4.below ((Below.refl _ _).alloc (Nat.le_refl _) _ : Below w4.heap.size w4 (w4.alloc (.cells #[.int .i64 0, .bool false, .int .i64 0, .int .u8 0, .int .u8 0, .int .u8 0, .int .u8 0, .int .u8 0, .int .u8 0, .int .u8 0, .int .u8 0] 24)))); have HX4 := Lib.hid (hx4.below ((Below.refl _ _).alloc (Nat.le_refl _) _ : Below w4.heap.size w4 (w4.alloc (.cells #[.int .i64 0, .bool false, .int .i64 0, .int .u8 0, .int .u8 0, .int .u8 0, .int .u8 0, .int .u8 0, .int .u8 0, .int .u8 0, .int .u8 0] 24))) hx4.lt); have HN4 := Lib.hid (show gt ≠ w4.heap.size from Nat.ne_of_lt hx4.lt); have HG4 := Lib.hid (show w.heap.size ≤ w4.heap.size from hl4.bel.size); have HY4 := Lib.hid (frame_new w4 0 0 false (fun _ => 0)); clear hl4 hx4)
            | (refine wpList_store_row rfl _ (.tmp 10) (.tmp 105) rfl w4.heap.size _ rfl rfl _ _ HY4.out info_frame rfl (one_frame 128 NN false (dOf [ct])) ?_))
          have HL5 := Lib.hid (HL4.out.rowf HY4.out HG4.out #[.int .i64 128, .bool false, .int .i64 NN, .int .u8 ct, .int .u8 0, .int .u8 0, .int .u8 0, .int .u8 0, .int .u8 0, .int .u8 0, .int .u8 0])
          have HX5 := Lib.hid (HX4.out.row_other HN4.out #[.int .i64 128, .bool false, .int .i64 NN, .int .u8 ct, .int .u8 0, .int .u8 0, .int .u8 0, .int .u8 0, .int .u8 0, .int .u8 0, .int .u8 0])
          have HY5 := Lib.hid (show FrAt ((w4.alloc (.cells #[.int .i64 0, .bool false, .int .i64 0, .int .u8 0, .int .u8 0, .int .u8 0, .int .u8 0, .int .u8 0, .int .u8 0, .int .u8 0, .int .u8 0] 24)).setRow w4.heap.size #[.int .i64 128, .bool false, .int .i64 NN, .int .u8 ct, .int .u8 0, .int .u8 0, .int .u8 0, .int .u8 0, .int .u8 0, .int .u8 0, .int .u8 0]) w4.heap.size 128 false NN (dOf [ct]) from HY4.out.row 128 NN false (dOf [ct]))
          clear HL4 HX4 HY4 HN4 HG4 HL3 HX3
          generalize (w4.alloc (.cells #[.int .i64 0, .bool false, .int .i64 0, .int .u8 0, .int .u8 0, .int .u8 0, .int .u8 0, .int .u8 0, .int .u8 0, .int .u8 0, .int .u8 0] 24)).setRow w4.heap.size #[.int .i64 128, .bool false, .int .i64 NN, .int .u8 ct, .int .u8 0, .int .u8 0, .int .u8 0, .int .u8 0, .int .u8 0, .int .u8 0, .int .u8 0] = w5 at *
          generalize w4.heap.size = gp at *
          obtain ⟨x0, x1, x2, x3, x4, x5, x6, x7, x8, x9, x10⟩ : w5.cell? ⟨gt, 0, none⟩ = some (.int .i64 128) ∧ w5.cell? ⟨gt, 1, none⟩ = some (.bool false) ∧ w5.cell? ⟨gt, 2, none⟩ = some (.int .i64 NN) ∧ w5.cell? ⟨gt, 3, none⟩ = some (.int .u8 ct) ∧ w5.cell? ⟨gt, 4, none⟩ = some (.int .u8 0) ∧ w5.cell? ⟨gt, 5, none⟩ = some (.int .u8 0) ∧ w5.cell? ⟨gt, 6, none⟩ = some (.int .u8 0) ∧ w5.cell? ⟨gt, 7, none⟩ = some (.int .u8 0) ∧ w5.cell? ⟨gt, 8, none⟩ = some (.int .u8 0) ∧ w5.cell? ⟨gt, 9, none⟩ = some (.int .u8 0) ∧ w5.cell? ⟨gt, 10, none⟩ = some (.int .u8 0) := HX5.out.cells
          obtain ⟨y0, y1, y2, y3, y4, y5, y6, y7, y8, y9, y10⟩ : w5.cell? ⟨gp, 0, none⟩ = some (.int .i64 128) ∧ w5.cell? ⟨gp, 1, none⟩ = some (.bool false) ∧ w5.cell? ⟨gp, 2, none⟩ = some (.int .i64 NN) ∧ w5.cell? ⟨gp, 3, none⟩ = some (.int .u8 ct) ∧ w5.cell? ⟨gp, 4, none⟩ = some (.int .u8 0) ∧ w5.cell? ⟨gp, 5, none⟩ = some (.int .u8 0) ∧ w5.cell? ⟨gp, 6, none⟩ = some (.int .u8 0) ∧ w5.cell? ⟨gp, 7, none⟩ = some (.int .u8 0) ∧ w5.cell? ⟨gp, 8, none⟩ = some (.int .u8 0) ∧ w5.cell? ⟨gp, 9, none⟩ = some (.int .u8 0) ∧ w5.cell? ⟨gp, 10, none⟩ = some (.int .u8 0) := HY5.out.cells
          have hqx := HQX.out
          go_wp2_with fail
          go_roundw
          case rel => exact ⟨j + 1, (nw + ib), per, ov, (bhE ct ov), (dueE rd per (nw + ib)), (n + 1), (oDue rd per (nw + ib)), by omega, by omega, rfl, by go_num, by omega, by omega, HL5, Lib.hid (rel_due HX0.out HX1x.out HX2x.out), Lib.hid (by rw [HCt.out]; exact ct_next HOv.out (by omega)), HOv, by omega, by omega, by omega, by omega⟩
          case measure => simp [intOf]; omega
    · have hge : ¬ (j : Int) < (N : Int) ∨ ((j : Int) < (N : Int) ∧ ¬ (j : Int) < 60) := by omega
      have HE := Lib.hid (fun (P : Prop) (hA : ¬ (j : Int) < (N : Int) → P) (hB : (j : Int) < (N : Int) ∧ ¬ (j : Int) < 60 → P) => hge.elim hA hB)
      have HB := Lib.hid HLr.out.bel
      clear hlt hge HL HLr HRel HCt HOv
      refine HE.out _ (fun h1 => ?_) (fun h1 => ?_)
      all_goals
        clear HE
        try obtain ⟨h1, h2⟩ := h1
        go_wp2_with (first
          | (go_at_call 15; refine (ptick_nil _ 0).mono ?_; rintro e w3 ⟨rfl, hb3⟩; have hba : Below w3.heap.size w3 (w3.alloc (.cells #[.int .i64 0, .bool false, .int .i64 0, .int .u8 0, .int .u8 0, .int .u8 0, .int .u8 0, .int .u8 0, .int .u8 0, .int .u8 0, .int .u8 0] 24)) := (Below.refl _ _).alloc (Nat.le_refl _) _; have HB3 := Lib.hid ((HB.out.trans (hb3.mono HB.out.size)).trans (hba.mono (Nat.le_trans HB.out.size hb3.size))); have HX3 := Lib.hid (frame_new w3 0 0 false (fun _ => 0)); have HG3 := Lib.hid (Nat.le_trans HB.out.size hb3.size); clear hb3 hba)
          | (refine wpList_store_row rfl _ (.tmp 13) (.tmp 118) rfl w3.heap.size _ rfl rfl _ _ HX3.out info_frame rfl (one_frame 0 0 false (fun _ => 0)) ?_; have HB4 := Lib.hid (below_setRow HB3.out HG3.out #[.int .i64 0, .bool false, .int .i64 0, .int .u8 0, .int .u8 0, .int .u8 0, .int .u8 0, .int .u8 0, .int .u8 0, .int .u8 0, .int .u8 0]); clear HX3 HB3; generalize (w3.alloc (.cells #[.int .i64 0, .bool false, .int .i64 0, .int .u8 0, .int .u8 0, .int .u8 0, .int .u8 0, .int .u8 0, .int .u8 0, .int .u8 0, .int .u8 0] 24)).setRow w3.heap.size #[.int .i64 0, .bool false, .int .i64 0, .int .u8 0, .int .u8 0, .int .u8 0, .int .u8 0, .int .u8 0, .int .u8 0, .int .u8 0, .int .u8 0] = w4 at *)
          | (go_at_call 9; refine (live23_any _).mono ?_; rintro e w6 ⟨rfl, hb6⟩)
          | (go_at_call 11; refine (pset_nil _ _ _ _).mono ?_; rintro e w7 ⟨rfl, rfl⟩))
        go_ret
        exact ⟨rfl, HB4.out.trans (hb6.mono HB4.out.size)⟩
end Go.Proofs.Ythofimkjemhnoaa
