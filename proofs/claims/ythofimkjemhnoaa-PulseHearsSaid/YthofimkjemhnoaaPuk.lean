/- The walk of PulseHears. -/
import Derived.Test.YthofimkjemhnoaaPuj
import Derived.Test.YthofimkjemhnoaaPud
import Derived.Deep.CutBlock
namespace Go.Proofs.Ythofimkjemhnoaa
open Go.RowKit Go.Joins Go.ChangeShapes Go.WideShapes Go.Deep
set_option linter.unusedSimpArgs false
set_option linter.unusedVariables false

theorem list11 {α : Type} {l : List α} (h : l.length = 11) : ∃ c0 c1 c2 c3 c4 c5 c6 c7 c8 c9 c10, l = [c0, c1, c2, c3, c4, c5, c6, c7, c8, c9, c10] := by
  match l, h with
  | [c0, c1, c2, c3, c4, c5, c6, c7, c8, c9, c10], _ => exact ⟨c0, c1, c2, c3, c4, c5, c6, c7, c8, c9, c10, rfl⟩
section
variable {H : Type} {enc : TypeId × Value → H} {w : World} {base : Nat} {spare : Nat → Bool} {held : Bool}
theorem frame_of_cells {fuel : Nat} {c0 c1 c2 c3 c4 c5 c6 c7 c8 c9 c10 : Value} {x : DataW H × List MemPlace} (hf : DataW.trod enc Try.prog w base spare held fuel 24 [c0, c1, c2, c3, c4, c5, c6, c7, c8, c9, c10] = some x) :
    ∃ (id n : Int) (q : Bool) (d : Nat → Int), (c0 = .int .i64 id ∧ c1 = .bool q ∧ c2 = .int .i64 n ∧ c3 = .int .u8 (d 0) ∧ c4 = .int .u8 (d 1) ∧ c5 = .int .u8 (d 2) ∧ c6 = .int .u8 (d 3) ∧ c7 = .int .u8 (d 4) ∧ c8 = .int .u8 (d 5) ∧ c9 = .int .u8 (d 6) ∧ c10 = .int .u8 (d 7)) ∧ (Lit.int .i64 id).wf = true ∧ (Lit.int .i64 n).wf = true ∧ ∀ j, j < 8 → 0 ≤ d j ∧ d j ≤ 255 := by
  obtain ⟨y0, y1, y2, y3, m, _, _, h0, h1, h2, h3⟩ := trod_struct4 Try.underlying24 hf
  simp only [cells_int, cells_bool, cells_data] at h0 h1 h2 h3
  obtain ⟨id, e0, _, w0⟩ := DataW.trod_int Try.underlying3 h0
  obtain ⟨q, e1, _⟩ := DataW.trod_bool Try.underlying4 h1
  obtain ⟨n, e2, _, w2⟩ := DataW.trod_int Try.underlying3 h2
  obtain ⟨xs, m3, _, _, _, hlen, hall⟩ := DataW.trod_array Try.underlying22 h3
  have cells_byte : Try.prog.cellsOf 5 = 1 := by kernel_rfl
  simp only [cells_byte] at hall
  have hb : ∀ i, i < 8 → ∃ b, ((([c3, c4, c5, c6, c7, c8, c9, c10] : List Value).drop i).take 1) = [.int .u8 b] ∧ 0 ≤ b ∧ b ≤ 255 := fun i hi => by
    have h := hall i hi
    rw [List.getElem?_eq_getElem (show i < xs.length by omega)] at h
    obtain ⟨b, e, _, wb⟩ := DataW.trod_int Try.underlying5 h
    have := bounds_u8 wb
    exact ⟨b, by simpa using e, by omega, by omega⟩
  obtain ⟨b0, g0, i0⟩ := hb 0 (by omega)
  obtain ⟨b1, g1, i1⟩ := hb 1 (by omega)
  obtain ⟨b2, g2, i2⟩ := hb 2 (by omega)
  obtain ⟨b3, g3, i3⟩ := hb 3 (by omega)
  obtain ⟨b4, g4, i4⟩ := hb 4 (by omega)
  obtain ⟨b5, g5, i5⟩ := hb 5 (by omega)
  obtain ⟨b6, g6, i6⟩ := hb 6 (by omega)
  obtain ⟨b7, g7, i7⟩ := hb 7 (by omega)
  simp at e0 e1 e2 g0 g1 g2 g3 g4 g5 g6 g7
  subst e0 e1 e2 g0 g1 g2 g3 g4 g5 g6 g7
  refine ⟨id, n, q, fun j => [b0, b1, b2, b3, b4, b5, b6, b7].getD j 0, ⟨rfl, rfl, rfl, rfl, rfl, rfl, rfl, rfl, rfl, rfl, rfl⟩, w0, w2, fun j hj => ?_⟩
  match j, hj with
  | 0, _ => exact i0
  | 1, _ => exact i1
  | 2, _ => exact i2
  | 3, _ => exact i3
  | 4, _ => exact i4
  | 5, _ => exact i5
  | 6, _ => exact i6
  | 7, _ => exact i7
end
/-- A frame's cells within a row. -/
structure Fr where
  id : Int
  r : Bool
  n : Int
  d : Nat → Int
def FrC (w : World) (b o : Nat) (x : Fr) : Prop := w.cell? ⟨b, o, none⟩ = some (.int .i64 x.id) ∧ w.cell? ⟨b, o + 1, none⟩ = some (.bool x.r) ∧ w.cell? ⟨b, o + 2, none⟩ = some (.int .i64 x.n) ∧ w.cell? ⟨b, o + 3, none⟩ = some (.int .u8 (x.d 0)) ∧ w.cell? ⟨b, o + 4, none⟩ = some (.int .u8 (x.d 1)) ∧ w.cell? ⟨b, o + 5, none⟩ = some (.int .u8 (x.d 2)) ∧ w.cell? ⟨b, o + 6, none⟩ = some (.int .u8 (x.d 3)) ∧ w.cell? ⟨b, o + 7, none⟩ = some (.int .u8 (x.d 4)) ∧ w.cell? ⟨b, o + 8, none⟩ = some (.int .u8 (x.d 5)) ∧ w.cell? ⟨b, o + 9, none⟩ = some (.int .u8 (x.d 6)) ∧ w.cell? ⟨b, o + 10, none⟩ = some (.int .u8 (x.d 7)) ∧ ∀ j, j < 8 → 0 ≤ x.d j ∧ x.d j ≤ 255
theorem FrC.below {w w' : World} {B b o : Nat} {x : Fr} (h : FrC w b o x) (hlt : b < B) (hb : Below B w w') : FrC w' b o x := by
  obtain ⟨k0, k1, k2, k3, k4, k5, k6, k7, k8, k9, k10, hr⟩ := h
  have hc := fun o => hb.cell (p := ⟨b, o, none⟩) hlt
  exact ⟨(hc _).trans k0, (hc _).trans k1, (hc _).trans k2, (hc _).trans k3, (hc _).trans k4, (hc _).trans k5, (hc _).trans k6, (hc _).trans k7, (hc _).trans k8, (hc _).trans k9, (hc _).trans k10, hr⟩
theorem frames_of_trod {H : Type} {enc : TypeId × Value → H} {w : World} {fuel : Nat} {A : Option Addr} {n c : Nat} {x : DataW H × List MemPlace} (h : DataW.trod enc Try.prog w 0 (fun _ => true) true fuel 48 [.slice A n c] = some x) : ∃ fs, Els FrC 11 w w.heap.size A n c fs :=
  els_of_trod Try.underlying48 cells_frame (by omega) (⟨0, false, 0, fun _ => 0⟩ : Fr) FrC (fun fuel cs x b o hf hl hc => by
    obtain ⟨c0, c1, c2, c3, c4, c5, c6, c7, c8, c9, c10, rfl⟩ := list11 hl
    obtain ⟨id, n, q, d, ⟨rfl, rfl, rfl, rfl, rfl, rfl, rfl, rfl, rfl, rfl, rfl⟩, _, _, h8⟩ := frame_of_cells hf
    exact ⟨⟨id, q, n, d⟩, hc 0 (by omega), hc 1 (by omega), hc 2 (by omega), hc 3 (by omega), hc 4 (by omega), hc 5 (by omega), hc 6 (by omega), hc 7 (by omega), hc 8 (by omega), hc 9 (by omega), hc 10 (by omega), h8⟩) h
/-- One element is appended to a row of the call's own. -/
theorem wpList_elem {P : Program} {wr : World} {ops : Array Oper} {rest : List Oper} {o : Oper} {a : Act} {Q : Exit → Act → World → Prop} {base t e n s by_ : Nat} {z : Value} {xs news : List Value} {v : Value} (hgd : o.guard = none) (p x : Operand)
    (ho : o.op = .call { callee := .builtin .append, args := #[p, x], argTypes := #[t, t] }) (ht : P.underlying t = some (.slice e))
    (hinfo : (P.info? e).map (fun i => (i.zero, i.size, i.bytes)) = some (some z, s, by_)) (hzs : z.cells.size = s) (hs0 : 0 < s) (hby : by_ ≤ 1000) (hs : a.eval p = v) (hown : wr.ownsRow base e s v n xs)
    {H : Nat} (hx : a.eval x = .slice (some ⟨H, 0, none⟩) 1 1) (hH : wr.heap.size = H) (hl : news.length = s) (h1 : ∀ u ∈ news, u.oneCell' = true) (hn : n ≤ 1000000) (hb : base ≤ wr.heap.size)
    (h : ∀ v' w', w'.ownsRow base e s v' (n + 1) (xs ++ news) → wr.grownBy w' v.ownBlock → (v'.ownBlock = v.ownBlock ∨ v'.ownBlock = some (wr.heap.size + 1)) → wpList P ops Q rest (a.put o.dst v') w') :
    wpList P ops Q (o :: rest) a (wr.alloc (.cells news.toArray e)) := by
  subst hH
  obtain ⟨i0, hi, hz0, hz1, hz2⟩ := info_parts hinfo
  refine wpList_append_own_at _ hgd p x t ho base e i0 z s by_ ht hi hz0 hz1 hz2 hzs hs0 v n xs hs (hown.alloc _) ⟨wr.heap.size, 0, none⟩ 1 1 news hx (by omega) ?_ h1 (by simp only [maxLen]; omega) (Nat.le_trans (Nat.mul_le_mul (show n + 1 ≤ 1000001 by omega) hby) (by omega)) (by simp; omega) ?_
  · intro j u hu
    rw [add_plainR, Nat.zero_add, cell_of_row _ _ _ _ e (0, 0) (heap_alloc_new wr _)]
    simpa using hu
  · intro v' w' h1 h2 _ h4
    have hg := World.grownBy_alloc wr (.cells news.toArray e) v.ownBlock
    exact h v' w' h1 (grown_trans hg h2) (by simpa using h4)
/-- A row of frames is as it was behind what a mailbox does. -/
theorem info_int1 : (Try.prog.info? 3).map (fun i => (i.zero, i.size, i.bytes)) = some (some (.int .i64 0), 1, 8) := by kernel_rfl
theorem own_kpt {td : TypeId} {w w' : World} {base s n : Nat} {v : Value} {xs : List Value} (h : w.ownsRow base td s v n xs) (hk : KpT td w w') : w'.ownsRow base td s v n xs := by
  refine ⟨h.1, ?_⟩
  rcases h.2 with hn | ⟨b, cap, cur, rfl, hb, hgg, rest⟩
  · exact .inl hn
  · exact .inr ⟨b, cap, cur, rfl, hb, (hk.2 b _ _ hgg).trans hgg, rest⟩
theorem Nums.of_own {w : World} {base n : Nat} {v : Value} {l : List Int} (h : w.ownsRow base 3 1 v n (l.map (Value.int .i64))) (hr : ∀ x ∈ l, -9223372036854775808 ≤ x ∧ x ≤ 9223372036854775807) : ∃ A c, v = .slice A n c ∧ Nums w w.heap.size A n c l := by
  have hlen : l.length = n := by have := h.1; simpa using this
  rcases h.2 with ⟨rfl, h0⟩ | ⟨g, cap, cur, rfl, hb, hg, hnc, hm, hs, ht⟩
  · subst h0
    obtain rfl := List.eq_nil_of_length_eq_zero hlen
    exact ⟨none, 0, rfl, Nums.nil_ _ _⟩
  · refine ⟨some ⟨g, 0, none⟩, cap, rfl, ⟨hlen, hnc, hm, hr, fun _ => ⟨g, 0, rfl, (Array.getElem?_eq_some_iff.1 hg).1, fun j hj => ?_⟩⟩⟩
    have := World.ownsRow.cellAt h j (by omega)
    rw [Nat.zero_add, this, List.getElem?_map, List.getElem?_eq_getElem (by omega)]
    simp [List.getD, List.getElem?_eq_getElem (show j < l.length by omega)]
theorem app_last (L : List Int) (q : Int) : (L ++ [q]).getD ((L ++ [q]).length - 1) 0 = q := by simp [List.getD]
structure HeS (w : World) (g base : Nat) (ov : Int) (V : Value) (L : List Int) (x : World) : Prop where
  ear : EarAt x g ov L.length (gpN ov L L.length) (L.getD (L.length - 1) 0)
  row : x.ownsRow base 3 1 V L.length (L.map (Value.int .i64))
  hg : w.heap.size ≤ g
  hgb : g < base
  hbs : base ≤ x.heap.size
  bel : Below w.heap.size w x
  cts : ∀ y ∈ L, isCt y ov = true
section
variable {w x y : World} {g base : Nat} {ov : Int} {V : Value} {L : List Int}
theorem HeS.below (h : HeS w g base ov V L x) (hb : Below x.heap.size x y) : HeS w g base ov V L y :=
  ⟨h.ear.below hb h.ear.lt, own_kpt h.row (kpt_below hb), h.hg, h.hgb, Nat.le_trans h.hbs hb.size, h.bel.trans (hb.mono h.bel.size), h.cts⟩
theorem HeS.rng (h : HeS w g base ov V L x) (ho : isOv ov = true) : ∀ y ∈ L, 0 ≤ y ∧ y ≤ 255 := fun y hy => by
  have h1 := h.cts y hy
  rcases ct_in h1 with ⟨_, h2⟩ | ⟨_, h2, h3⟩ <;> rcases ov_in ho with h4 | ⟨_, h4⟩ <;> omega
theorem HeS.nums (h : HeS w g base ov V L x) (ho : isOv ov = true) : ∃ A c, V = .slice A L.length c ∧ Nums x x.heap.size A L.length c L :=
  Nums.of_own h.row fun y hy => by have := h.rng ho y hy; omega
theorem HeS.la (h : HeS w g base ov V L x) (ho : isOv ov = true) : 0 ≤ L.getD (L.length - 1) 0 := by
  by_cases hj : L.length - 1 < L.length
  · rw [List.getD, List.getElem?_eq_getElem hj]; exact (h.rng ho _ (List.getElem_mem hj)).1
  · simp [List.getD, List.getElem?_eq_none (Nat.le_of_not_lt hj)]
/-- One pulse more was heard, and stands in the row. -/
theorem HeS.app {z : World} {q : Int} {V2 : Value} (h : HeS w g base ov V L x) (ho : isOv ov = true) (hq : isCt q ov = true)
    (he : EarAt y g ov (L.length + 1) (if gapP ov L.length (L.getD (L.length - 1) 0) q = true then gpN ov L L.length + 1 else gpN ov L L.length) q) (hoe : OthE x y) (hb : Below g x y)
    (h1 : z.ownsRow base 3 1 V2 (L.length + 1) (L.map (Value.int .i64) ++ [.int .i64 q])) (h2 : y.grownBy z V.ownBlock) : HeS w g base ov V2 (L ++ [q]) z := by
  have e1 : (((L ++ [q]).length : Nat) : Int) = (L.length : Int) + 1 := by simp
  have hs := hb.size
  have hg' := h.hg
  have hgb' := h.hgb
  have hbs' := h.hbs
  have hne : ∀ k, V.ownBlock = some k → base ≤ k := fun k hk => (h.row.lt k hk).1
  refine ⟨?_, ?_, h.hg, h.hgb, Nat.le_trans (Nat.le_trans h.hbs hs) h2.size, (h.bel.trans (hb.mono h.hg)).grown h2 (Nat.le_trans h.bel.size hs) (fun k hk => by have := hne k hk; omega), fun t ht => ?_⟩
  · rw [gpN_step ov L q ho hq h.cts, e1, app_last]
    exact (h2.block g he.lt (fun e => by have := hne g e.symm; omega)).trans he
  · rw [List.length_append, List.map_append]
    exact h1
  · rcases List.mem_append.1 ht with h3 | h3
    · exact h.cts t h3
    · simp at h3; subst h3; exact hq
end
set_option maxRecDepth 200000 in
set_option maxHeartbeats 8000000 in
theorem hears_walk (ov rate : Int) (A : Option Addr) (N cc : Nat) (fs : Nat → Fr) (w : World) (h : Els FrC 11 w w.heap.size A N cc fs) :
    Calls Try.prog 5 #[.int .i64 ov, .slice A N cc, .int .i64 rate] w fun e w' => e = .returned (.bool true) ∧ Below w.heap.size w w' := by
  have hcap := h.cap
  have hmax := h.max
  simp only [maxLen] at hmax
  have HL := Lib.hid h
  clear h
  have HOV := Lib.hid (fun w => rov_any ov w)
  cases ho : isOv ov with
  | false =>
    rw [ho] at HOV
    have HEN := Lib.hid (fun w => ear_no w ov ho)
    have HNI := Lib.hid (fun w => hear_nil 128 0 false (fun _ => 0) w (by omega))
    clear ho HL
    go_enter Try.func5, Try.ntmps5
    go_wp2_with (first
      | (go_at_call 16; refine (HEN.out _).mono ?_; rintro e w1 ⟨rfl, rfl⟩)
      | (go_at_call 12; refine (HOV.out _).mono ?_; rintro e w2 ⟨rfl, rfl⟩)
      | (go_at_call 9; refine (live23_any _).mono ?_; rintro e w3 ⟨rfl, hb3⟩; have HB3 := Lib.hid hb3; clear hb3)
      | (go_at_call 17; refine (HNI.out _).mono ?_; rintro e w4 ⟨rfl, hb4⟩; have HB4 := Lib.hid (HB3.out.trans (hb4.mono HB3.out.size)); clear hb4)
      | (go_at_call 18; refine (heard_nil _).mono ?_; rintro e w5 ⟨rfl, rfl⟩)
      | (go_at_call 19; refine (gaps_nil _).mono ?_; rintro e w6 ⟨rfl, rfl⟩)
      | (go_at_call 20; refine (on_nil _ _).mono ?_; rintro e w7 ⟨rfl, rfl⟩))
    all_goals first | (go_ret; exact ⟨rfl, HB4.out⟩) | (trace_state; sorry)
  | true =>
    rw [ho] at HOV
    have HO := Lib.hid ho
    have HEN := Lib.hid (fun w => ear_new w ov ho)
    have hov := ov_in ho
    have ho0 : 0 ≤ ov := by omega
    have ho1 : ov ≤ 240 := by omega
    clear ho hov
    go_enter Try.func5, Try.ntmps5
    go_upto_region 4 with (first
      | (go_at_call 16; refine (HEN.out _).mono ?_; rintro e w1 ⟨rfl, he1, hb1⟩; have HE1 := Lib.hid he1; have HB1 := Lib.hid hb1; clear he1 hb1)
      | (go_at_call 12; refine (HOV.out _).mono ?_; rintro e w2 ⟨rfl, rfl⟩))
    have HS1 : Hid (HeS w w.heap.size w1.heap.size ov (.slice (some ⟨w1.heap.size, 0, none⟩) 0 0) [] (w1.alloc (.cells #[] 3))) := Lib.hid (by
      have hba := (Below.refl w1.heap.size w1).alloc (Nat.le_refl _) (.cells #[] 3)
      exact ⟨HE1.out.below hba HE1.out.lt, World.ownsRow_lit w1 #[] 0 (Nat.le_refl _) (by simp [maxLen]) rfl, Nat.le_refl _, HE1.out.lt, hba.size, HB1.out.trans (hba.mono HB1.out.size), fun y hy => by cases hy⟩)
    go_wp2_with fail
    clear HE1 HB1 HEN HOV
    generalize w1.alloc (.cells #[] 3) = w2 at *
    generalize w1.heap.size = base at *
    generalize w.heap.size = g at HS1 ⊢
    go_loopw [9, 10] (fun v i wr => ∃ (j : Nat) (L : List Int), j ≤ N ∧ j ≤ 60 ∧ i = .int .i64 j ∧ L.length ≤ j ∧ Hid (HeS w g base ov v L wr)) (fun _ i _ => 60 - (intOf i).toNat)
    case atStart => exact ⟨0, [], by omega, by omega, rfl, by simp, HS1⟩
    case round =>
      clear HS1
      obtain ⟨j, L, hj, hj6, rfl, hLj, HS⟩ := hrel
      by_cases hlt : j < N ∧ j < 60
      · obtain ⟨hlt, hl6⟩ := hlt
        have hjI : (j : Int) < 60 := by omega
        have hltI : (j : Int) < (N : Int) := by omega
        obtain ⟨bb, off, rfl, hbb, hcell⟩ := HL.out.cells (by omega)
        have HD := Lib.hid (fun y (hy : Below w.heap.size w y) => (hcell j hlt).below hbb hy)
        clear hcell HL
        generalize fs j = xx at *
        obtain ⟨id, r, n, d⟩ := xx
        obtain ⟨f0, f1, f2, f3, f4, f5, f6, f7, f8, f9, f10, hd⟩ := HD.out wr HS.out.bel
        simp only at f0 f1 f2 f3 f4 f5 f6 f7 f8 f9 f10 hd
        have hd0 := hd 0 (by omega)
        clear hd
        obtain ⟨A', c', rfl, hnu⟩ := HS.out.nums HO.out
        have HNU := Lib.hid hnu
        have HRN := Lib.hid (HS.out.rng HO.out)
        have HRH := Lib.hid (fun w => rhear_any ov id n r d w hd0 HO.out)
        have hgp := gpN_bd ov L L.length
        have HLA := Lib.hid (HS.out.la HO.out)
        clear hnu
        by_cases hz : heE ov id r n d = 0
        · have HHO := Lib.hid (fun y (hs : HeS w g base ov (.slice A' L.length c') L y) => hear_ok g ov L.length (gpN ov L L.length) (L.getD (L.length - 1) 0) id n r d y hd0 HO.out hs.ear hz (by omega) (by omega) hgp.1 (by omega) HLA.out)
          have HCQ := Lib.hid (he_count hz)
          rw [if_pos hz, hz] at HRH
          clear hz hgp
          go_upto_region 9 with (go_at_call 21; refine (HRH.out _).mono ?_; rintro e w1 ⟨rfl, hb1⟩; have HS1 := Lib.hid (HS.out.below hb1); clear hb1 f0 f1 f2 f3 f4 f5 f6 f7 f8 f9 f10)
          clear HS
          obtain ⟨f0, f1, f2, f3, f4, f5, f6, f7, f8, f9, f10, _⟩ := HD.out w1 HS1.out.bel; simp only at f0 f1 f2 f3 f4 f5 f6 f7 f8 f9 f10
          go_upto_region 12 with (go_at_call 17; refine (HHO.out _ HS1.out).mono ?_; rintro e w2 ⟨rfl, he2, ho2, hb2⟩; have HE2 := Lib.hid he2; have HO2 := Lib.hid ho2; have HB2 := Lib.hid hb2; clear he2 ho2 hb2 f0 f1 f2 f3 f4 f5 f6 f7 f8 f9 f10)
          clear HHO HRH
          have hown := own_kpt HS1.out.row (HO2.out _ (by decide))
          have hbs2 : base ≤ w2.heap.size := Nat.le_trans HS1.out.hbs HB2.out.size
          go_upto_region 13 with (at_builtin; refine wpList_elem rfl (.tmp 76) (.tmp 78) rfl Try.underlying54 info_int1 rfl (by omega) (by omega) rfl hown rfl rfl rfl (by simp [Value.oneCell']) (by omega) hbs2 ?_; intro v' w3 hown3 hgr3 hob3)
          have HS3 := Lib.hid (HS1.out.app HO.out HCQ.out HE2.out HO2.out HB2.out hown3 hgr3)
          clear hown3 hgr3 hob3 hown hbs2 HS1 HE2 HO2 HB2 HCQ HNU HRN HLA
          have hLn : (L ++ [d 0]).length = L.length + 1 := by simp
          have HLn := Lib.hid hLn
          clear hLn
          generalize (L ++ [d 0]) = L2 at *
          obtain ⟨A2, c2, rfl, hnu⟩ := HS3.out.nums HO.out
          have HRG := Lib.hid (rgaps_any ov A2 L2.length c2 L2 w3 hnu (HS3.out.rng HO.out) ho0 ho1 (by rw [HLn.out]; omega))
          have HRO := Lib.hid (ron_any ov rate A2 L2.length c2 L2 w3 hnu (HS3.out.rng HO.out) HO.out (by rw [HLn.out]; omega))
          clear hnu
          obtain ⟨G, hG⟩ : ∃ G, gpN ov L2 L2.length = G := ⟨_, rfl⟩
          obtain ⟨la, hla⟩ : ∃ la, L2.getD (L2.length - 1) 0 = la := ⟨_, rfl⟩
          have her := HS3.out.ear
          rw [hG, hla] at her
          have hla0 : 0 ≤ la := by rw [← hla]; exact HS3.out.la HO.out
          have hon := on_any g ov L2.length G la rate w3 her (by omega) hla0
          rw [hla] at HRO
          rw [hG] at HRG
          obtain ⟨bo, hbo⟩ : ∃ b, onE ov L2.length la rate = b := ⟨_, rfl⟩
          rw [hbo] at HRO hon
          have HER := Lib.hid her
          have HON := Lib.hid hon
          clear hG hla her hla0 hon hbo
          go_wp2_with (first
            | (go_at_call 18; refine (heard_any g ov _ _ _ _ HER.out).mono ?_; rintro e wx ⟨rfl, rfl⟩)
            | (go_at_call 19; refine (gaps_any g ov _ _ _ _ HER.out).mono ?_; rintro e wx ⟨rfl, rfl⟩)
            | (go_at_call 22; refine (HRG.out).mono ?_; rintro e wx ⟨rfl, rfl⟩)
            | (go_at_call 20; refine (HON.out).mono ?_; rintro e wx ⟨rfl, rfl⟩)
            | (go_at_call 23; refine (HRO.out).mono ?_; rintro e wx ⟨rfl, rfl⟩))
          go_roundw
          case rel => exact ⟨j + 1, L2, by omega, by omega, by go_num, by rw [HLn.out]; omega, HS3⟩
          case measure => simp [intOf]; omega
        · have HHB := Lib.hid (fun y (hs : HeS w g base ov (.slice A' L.length c') L y) => hear_bad g ov L.length (gpN ov L L.length) (L.getD (L.length - 1) 0) id n r d y hd0 hs.ear hz)
          rw [if_neg hz] at HRH
          have hzz : (heE ov id r n d == 0) = false := by simpa using hz
          clear hz hgp
          generalize heE ov id r n d = E at *
          go_upto_region 9 with (go_at_call 21; refine (HRH.out _).mono ?_; rintro e w1 ⟨rfl, hb1⟩; have HS1 := Lib.hid (HS.out.below hb1); clear hb1 f0 f1 f2 f3 f4 f5 f6 f7 f8 f9 f10)
          clear HS
          obtain ⟨f0, f1, f2, f3, f4, f5, f6, f7, f8, f9, f10, _⟩ := HD.out w1 HS1.out.bel; simp only at f0 f1 f2 f3 f4 f5 f6 f7 f8 f9 f10
          go_upto_region 13 with (go_at_call 17; refine (HHB.out _ HS1.out).mono ?_; rintro e w2 ⟨rfl, hb2⟩; have HS2 := Lib.hid (HS1.out.below hb2); clear hb2 f0 f1 f2 f3 f4 f5 f6 f7 f8 f9 f10)
          clear HS1 HHB HRH
          obtain ⟨A2, c2, hA2, hnu⟩ := HS2.out.nums HO.out
          cases hA2
          have HRG := Lib.hid (rgaps_any ov A' L.length c' L w2 hnu HRN.out ho0 ho1 (by omega))
          have HRO := Lib.hid (ron_any ov rate A' L.length c' L w2 hnu HRN.out HO.out (by omega))
          clear hnu
          obtain ⟨G, hG⟩ : ∃ G, gpN ov L L.length = G := ⟨_, rfl⟩
          obtain ⟨la, hla⟩ : ∃ la, L.getD (L.length - 1) 0 = la := ⟨_, rfl⟩
          have her := HS2.out.ear
          rw [hG, hla] at her
          have hla0 : 0 ≤ la := by rw [← hla]; exact HS2.out.la HO.out
          have hon := on_any g ov L.length G la rate w2 her (by omega) hla0
          rw [hla] at HRO
          rw [hG] at HRG
          obtain ⟨bo, hbo⟩ : ∃ b, onE ov L.length la rate = b := ⟨_, rfl⟩
          rw [hbo] at HRO hon
          have HER := Lib.hid her
          have HON := Lib.hid hon
          clear hG hla her hla0 hon hbo
          go_wp2_with (first
            | (go_at_call 18; refine (heard_any g ov _ _ _ _ HER.out).mono ?_; rintro e wx ⟨rfl, rfl⟩)
            | (go_at_call 19; refine (gaps_any g ov _ _ _ _ HER.out).mono ?_; rintro e wx ⟨rfl, rfl⟩)
            | (go_at_call 22; refine (HRG.out).mono ?_; rintro e wx ⟨rfl, rfl⟩)
            | (go_at_call 20; refine (HON.out).mono ?_; rintro e wx ⟨rfl, rfl⟩)
            | (go_at_call 23; refine (HRO.out).mono ?_; rintro e wx ⟨rfl, rfl⟩))
          go_roundw
          case rel => exact ⟨j + 1, L, by omega, by omega, by go_num, by omega, HS2⟩
          case measure => simp [intOf]; omega
      · have hge : ¬ (j : Int) < (N : Int) ∨ ((j : Int) < (N : Int) ∧ ¬ (j : Int) < 60) := by omega
        have HE := Lib.hid (fun (P : Prop) (hA : ¬ (j : Int) < (N : Int) → P) (hB : (j : Int) < (N : Int) ∧ ¬ (j : Int) < 60 → P) => hge.elim hA hB)
        have HB := Lib.hid HS.out.bel
        clear hlt hge HL HS
        refine HE.out _ (fun h1 => ?_) (fun h1 => ?_)
        all_goals
          clear HE
          try obtain ⟨h1, h2⟩ := h1
          go_wp2_with (go_at_call 9; refine (live23_any _).mono ?_; rintro e w6 ⟨rfl, hb6⟩)
          go_ret
          exact ⟨rfl, HB.out.trans (hb6.mono HB.out.size)⟩
end Go.Proofs.Ythofimkjemhnoaa
