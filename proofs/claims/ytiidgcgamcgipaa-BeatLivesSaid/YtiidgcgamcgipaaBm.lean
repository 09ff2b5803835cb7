/- The table of modes: as that of numbers. -/
import Derived.Test.YtiidgcgamcgipaaBTeDel
import Derived.Test.YtiidgcgamcgipaaBTSm
namespace Go.Proofs.Ytiidgcgamcgipaa
open Go.RowKit
attribute [local go_sem] Oper.semAt_some
set_option linter.unusedSimpArgs false
set_option linter.unusedVariables false

theorem place1M (w : World) (k v q : Int) :
    Calls Try.prog 76 #[.agg #[.int .i64 k, .int .i64 v], .int .i64 q] w fun e w' => e = .returned (.int .i64 (cmpI k q)) ∧ Below w.heap.size w w' := by
  have hb : Below w.heap.size w (w.alloc (.cells #[.int .i64 k, .int .i64 v] 109)) := (Below.refl _ _).alloc (Nat.le_refl _) _
  have hx : (w.alloc (.cells #[.int .i64 k, .int .i64 v] 109)).heap[w.heap.size]? = some (.cells #[.int .i64 k, .int .i64 v] 109 (0, 0)) := heap_alloc_new w _
  have c0 : (w.alloc (.cells #[.int .i64 k, .int .i64 v] 109)).cell? ⟨w.heap.size, 0, none⟩ = some (.int .i64 k) := by rw [cell_of_row _ _ _ _ _ _ hx]; rfl
  have hc := fun w => cmp_int w k q
  have HB := Lib.hid hb
  have HC := Lib.hid hc
  clear hb hx hc
  go_enter Try.func76, Try.ntmps76
  go_wp2_with fail
  generalize w.alloc (.cells #[.int .i64 k, .int .i64 v] 109) = w0 at *
  refine (HC.out _).mono ?_
  rintro e w1 ⟨rfl, rfl⟩
  go_wp2_with fail
  go_ret
  exact ⟨rfl, HB.out⟩
set_option maxRecDepth 100000 in
set_option maxHeartbeats 2000000 in
theorem bsM (w : World) (base n : Nat) (v : Value) (ls : List (Int × Int)) (q : Int) (hown : w.ownsRow base 109 2 v n (fl eI eI ls)) (hn : n ≤ 100000) (hs : Rise ls) :
    Calls Try.prog 75 #[v, .int .i64 q, .func (Fn.func 76) #[] #[]] w fun e w' => e = .returned (.tuple #[.int .i64 (plcI q ls : Nat), .bool (hasI q ls)]) ∧ Below w.heap.size w w' := by
  have hl := hown.1
  rw [fl_len] at hl
  have hln : ls.length = n := by omega
  rcases Nat.eq_zero_or_pos n with h0 | h0
  · subst h0
    obtain rfl := List.eq_nil_of_length_eq_zero hln
    have e1 : plcI q ([] : List (Int × Int)) = 0 := rfl
    have e2 : hasI q ([] : List (Int × Int)) = false := rfl
    rw [e1, e2]
    rcases hown.2 with ⟨rfl, _⟩ | ⟨g, cap, cur, rfl, _⟩
    all_goals
      clear hown hl hln e1 e2
      go_enter Try.func75, Try.ntmps75
      go_wp2_with fail
      go_loopw [9, 10] (fun i j wr => i = .int .i64 0 ∧ j = .int .i64 0 ∧ wr = w) (fun _ _ _ => 0)
      case atStart => exact ⟨rfl, rfl, rfl⟩
      case round =>
        obtain ⟨rfl, rfl, rfl⟩ := hrel
        go_wp2_with fail
        go_ret2
        exact ⟨rfl, Below.refl _ _⟩
  · obtain ⟨g, cap, cur, rfl, hbg, _, hnc, hm, _⟩ := own_some hown h0
    simp only [maxLen] at hm
    have hid := fun (j : Nat) (hj : j ≤ n) (h1 : ∀ i x, i < j → ls[i]? = some x → x.1 < q) (h2 : ∀ x, ls[j]? = some x → q ≤ x.1) => plcI_at q ls j (by omega) h1 (fun x hx => by have := h2 x hx; omega)
    have hR2 := fun (j : Nat) (x : Int × Int) (h : plcI q ls = j) (hx : ls[j]? = some x) => hasI_some h hx
    have hR3 := fun (h : plcI q ls = n) => hasI_none (h.trans hln.symm)
    generalize hR : plcI q ls = R at *
    generalize hB : hasI q ls = B at *
    have HID := Lib.hid hid
    have HR2 := Lib.hid hR2
    have HR3 := Lib.hid hR3
    have HO := Lib.hid hown
    have HLN := Lib.hid hln
    have HS := Lib.hid hs
    have hat := Lib.hid (fun (j : Nat) (hj : j < n) => (⟨_, List.getElem?_eq_getElem (by rw [HLN.out]; exact hj)⟩ : ∃ x, ls[j]? = some x))
    clear hid hown hl hln hR hB hs hR2 hR3
    go_enter Try.func75, Try.ntmps75
    go_wp2_with fail
    go_loopw [9, 10] (fun i j wr => ∃ lo hi : Nat, i = .int .i64 lo ∧ j = .int .i64 hi ∧ lo ≤ hi ∧ hi ≤ n ∧ Hid (∀ i x, i < lo → ls[i]? = some x → x.1 < q) ∧ Hid (∀ i x, hi ≤ i → ls[i]? = some x → q ≤ x.1) ∧ Hid (Below w.heap.size w wr)) (fun i j _ => (intOf j - intOf i).toNat)
    case atStart => exact ⟨0, n, rfl, rfl, Nat.zero_le _, Nat.le_refl _, Lib.hid (fun i x h => absurd h (Nat.not_lt_zero _)), Lib.hid (fun i x h hx => by have := (List.getElem?_eq_some_iff.1 hx).1; rw [HLN.out] at this; omega), Lib.hid (Below.refl _ _)⟩
    case round =>
      obtain ⟨lo, hi, rfl, rfl, hlh, hin, H1, H2, hb⟩ := hrel
      by_cases hlt : lo < hi
      · obtain ⟨x, hx⟩ := hat.out ((lo + hi) / 2) (by omega)
        have hown2 := HO.out.kept (grown_below none hb.out) (.inr (by simp [Value.ownBlock]))
        have c0 := own_cell hown2 (k := (lo + hi) / 2 * 2) (by omega)
        have c1 := own_cell hown2 (k := (lo + hi) / 2 * 2 + 1) (by omega)
        rw [fl_key eI eI ls _ x hx] at c0
        rw [fl_val eI eI ls _ x hx] at c1
        simp only [eI] at c0 c1
        have hcall := fun w => place1M w x.1 x.2 q
        have hno : x.1 < q → ∀ i y, i < (lo + hi) / 2 + 1 → ls[i]? = some y → y.1 < q := fun hq i y hii hy => by
          by_cases e : i = (lo + hi) / 2
          · subst e; rw [hx] at hy; cases hy; exact hq
          · have := HS.out i _ y x (by omega) hy hx; omega
        have hyes : q ≤ x.1 → ∀ i y, (lo + hi) / 2 ≤ i → ls[i]? = some y → q ≤ y.1 := fun hq i y hii hy => by
          by_cases e : i = (lo + hi) / 2
          · subst e; rw [hx] at hy; cases hy; exact hq
          · have := HS.out _ i x y (by omega) hx hy; omega
        have hcn := @cmpI_neg x.1 q
        generalize cmpI x.1 q = c at hcall hcn
        obtain ⟨k, u⟩ := x
        simp only at hcall hcn hno hyes c0 c1
        have HC := Lib.hid hcall
        have HN := Lib.hid hno
        have HY := Lib.hid hyes
        have HCN := Lib.hid hcn
        clear hx hown2 hcall hno hyes hcn
        have hm1 : (lo + hi) / 2 < n := by omega
        by_cases hc : c < 0
        · have HN2 := Lib.hid (HN.out (HCN.out.1 hc))
          clear HY HN
          go_wp2_with fail
          refine (HC.out _).mono ?_
          rintro e w2 ⟨rfl, hb2⟩
          have HBB := Lib.hid (hb.out.trans (hb2.mono hb.out.size))
          clear hb2 c0 c1
          go_wp2_with fail
          exact ⟨⟨(lo + hi) / 2 + 1, hi, by rw [show ((lo : Int) + (hi : Int)) / 2 + 1 = (((lo + hi) / 2 + 1 : Nat) : Int) by omega], rfl, by omega, hin, HN2, H2, HBB⟩, by simp [intOf]; omega⟩
        · have HN2 := Lib.hid (HY.out (Int.not_lt.1 fun h => hc (HCN.out.2 h)))
          clear HY HN
          go_wp2_with fail
          refine (HC.out _).mono ?_
          rintro e w2 ⟨rfl, hb2⟩
          have HBB := Lib.hid (hb.out.trans (hb2.mono hb.out.size))
          clear hb2 c0 c1
          go_wp2_with fail
          exact ⟨⟨lo, (lo + hi) / 2, rfl, by rw [show ((lo : Int) + (hi : Int)) / 2 = (((lo + hi) / 2 : Nat) : Int) by omega], by omega, by omega, H1, HN2, HBB⟩, by simp [intOf]; omega⟩
      · obtain rfl : hi = lo := by omega
        have hRe : R = hi := (HID.out hi hin H1.out (fun x hx => H2.out hi x (Nat.le_refl _) hx))
        subst hRe
        by_cases hn : R < n
        · obtain ⟨x, hx⟩ := hat.out R hn
          have hBe := HR2.out R x rfl hx
          have hown2 := HO.out.kept (grown_below none hb.out) (.inr (by simp [Value.ownBlock]))
          have c0 := own_cell hown2 (k := R * 2) (by omega)
          have c1 := own_cell hown2 (k := R * 2 + 1) (by omega)
          rw [fl_key eI eI ls _ x hx] at c0
          rw [fl_val eI eI ls _ x hx] at c1
          simp only [eI] at c0 c1
          have hcall := fun w => place1M w x.1 x.2 q
          have hcz := @cmpI_zero x.1 q
          generalize cmpI x.1 q = c at hcall hcz
          obtain ⟨k, u⟩ := x
          simp only at hcall hcz hBe c0 c1
          have hBc : B = decide (c = 0) := by rw [hBe]; exact decide_eq_decide.2 hcz.symm
          have HC := Lib.hid hcall
          have HBE := Lib.hid hBc
          clear hx hown2 hcall hcz hBe hBc
          by_cases hc : c = 0
          · go_wp2_with fail
            refine (HC.out _).mono ?_
            rintro e w2 ⟨rfl, hb2⟩
            have HBB := Lib.hid (hb.out.trans (hb2.mono hb.out.size))
            clear hb2 c0 c1
            go_wp2_with fail
            go_ret2
            exact ⟨by rw [HBE.out]; simp [hc], HBB.out⟩
          · go_wp2_with fail
            refine (HC.out _).mono ?_
            rintro e w2 ⟨rfl, hb2⟩
            have HBB := Lib.hid (hb.out.trans (hb2.mono hb.out.size))
            clear hb2 c0 c1
            go_wp2_with fail
            go_ret2
            exact ⟨by rw [HBE.out]; simp [hc], HBB.out⟩
        · have hBe := HR3.out (by omega)
          subst hBe
          go_wp2_with fail
          go_ret2
          exact ⟨rfl, hb.out⟩
theorem newM (w : World) : Calls Try.prog 36 #[] w fun e w' => e = .returned (.pointer (some ⟨w.heap.size, 0, none⟩)) ∧ Sh 106 109 w' (w.heap.size + 1) w.heap.size 0 [] (.slice none 0 0) ∧ Below w.heap.size w w' := by
  have hbx : Sh 106 109 (w.alloc (.cells #[.slice none 0 0] 106)) (w.heap.size + 1) w.heap.size 0 [] (.slice none 0 0) := ⟨heap_alloc_new w _, ⟨rfl, .inl ⟨rfl, rfl⟩⟩, by simp [Value.ownBlock]⟩
  have hb : Below w.heap.size w (w.alloc (.cells #[.slice none 0 0] 106)) := (Below.refl _ _).alloc (Nat.le_refl _) _
  have HBX := Lib.hid hbx
  have HB := Lib.hid hb
  clear hbx hb
  go_enter Try.func36, Try.ntmps36
  go_wp2_with fail
  go_ret
  exact ⟨rfl, HBX.out, HB.out⟩
set_option maxRecDepth 100000 in
theorem placeM (w : World) (base g : Nat) (ls : List (Int × Int)) (v : Value) (q : Int) (h : Sh 106 109 w base g ls.length (fl eI eI ls) v) (hn : ls.length ≤ 100000) (hs : Rise ls) :
    Calls Try.prog 53 #[.pointer (some ⟨g, 0, none⟩), .int .i64 q] w fun e w' => e = .returned (.tuple #[.int .i64 (plcI q ls : Nat), .bool (hasI q ls)]) ∧ Below w.heap.size w w' := by
  have hc := bsM w base ls.length v ls q h.row hn hs
  have c0 := h.cell
  have hl := h.lt
  have HC := Lib.hid hc
  clear hc h hn hs
  go_enter Try.func53, Try.ntmps53
  go_wp2_with fail
  refine HC.out.mono ?_
  rintro e w2 ⟨rfl, hb⟩
  clear c0
  go_wp2_with fail
  go_ret2
  exact ⟨rfl, hb⟩
set_option maxRecDepth 100000 in
set_option maxHeartbeats 1000000 in
theorem getM (w : World) (base g : Nat) (ls : List (Int × Int)) (v : Value) (q : Int) (h : Sh 106 109 w base g ls.length (fl eI eI ls) v) (hn : ls.length ≤ 100000) (hs : Rise ls) :
    Calls Try.prog 41 #[.pointer (some ⟨g, 0, none⟩), .int .i64 q] w fun e w' => e = .returned (.tuple #[.int .i64 (thI 0 q ls), .bool (hasI q ls)]) ∧ Below w.heap.size w w' := by
  have hc := placeM w base g ls v q h hn hs
  have hid := fun w2 (hb : Below w.heap.size w w2) => h.below hb
  have HC := Lib.hid hc
  have HX := Lib.hid hid
  cases hh : hasI q ls with
  | false =>
    rw [thI_no hh]
    rw [hh] at HC
    clear hc h hid HX hh hn hs
    go_enter Try.func41, Try.ntmps41
    go_wp2_with fail
    refine HC.out.mono ?_
    rintro e w2 ⟨rfl, hb⟩
    go_wp2_with fail
    go_ret2
    exact ⟨rfl, hb⟩
  | true =>
    obtain ⟨x, hx, _⟩ := hasI_at hh
    rw [thI_yes hh hx]
    rw [hh] at HC
    have hlt := (List.getElem?_eq_some_iff.1 hx).1
    obtain ⟨k, u⟩ := x
    generalize plcI q ls = P at *
    have hlen := fl_len eI eI ls
    have hfv := fl_val eI eI ls P _ hx
    obtain ⟨b, cap, cur, rfl, hbb, _, hnc, hm, _⟩ := own_some h.row (by omega)
    simp only [maxLen] at hm
    have HFV := Lib.hid hfv
    generalize ls.length = N at *
    clear hc h hid hh hs hx hfv hlen
    go_enter Try.func41, Try.ntmps41
    go_wp2_with fail
    refine HC.out.mono ?_
    rintro e w2 ⟨rfl, hb⟩
    have hx2 := HX.out w2 hb
    have c0 := hx2.cell
    have hl := hx2.lt
    have d1 := own_cell hx2.row (k := P * 2 + 1) (by omega)
    rw [HFV.out] at d1
    have hPI : (P : Int) < (N : Int) := by omega
    simp only [eI] at d1
    clear hx2
    go_wp2_with fail
    go_ret2
    exact ⟨rfl, hb⟩
set_option maxRecDepth 100000 in
set_option maxHeartbeats 2000000 in
theorem putM (w : World) (base g : Nat) (ls : List (Int × Int)) (v : Value) (k : Int) (u : Int) (h : Sh 106 109 w base g ls.length (fl eI eI ls) v) (hbase : base ≤ w.heap.size) (hn : ls.length ≤ 1000) (hs : Rise ls) :
    Calls Try.prog 42 #[.pointer (some ⟨g, 0, none⟩), .int .i64 k, .int .i64 u] w (ShPut 106 109 w base g (putI k u ls).length (fl eI eI (putI k u ls)) (hasI k ls) v) := by
  have hc := placeM w base g ls v k h (by omega) hs
  have HC := Lib.hid hc
  have HX := Lib.hid h
  have hple := plcI_le k ls
  cases hh : hasI k ls with
  | true =>
    obtain ⟨e1, e2⟩ := putI_set eI k u ls hh
    rw [← e1, e2]
    rw [hh] at HC
    obtain ⟨x, hx, _⟩ := hasI_at hh
    have hlt := (List.getElem?_eq_some_iff.1 hx).1
    have hlen := fl_len eI eI ls
    have hfv := fl_val eI eI ls (plcI k ls) _ hx
    clear hc h hs hh e1 e2 hx hple
    generalize plcI k ls = P at *
    obtain ⟨b, cap, cur, rfl, hbb, _, hnc, hm, _⟩ := own_some HX.out.row (by omega)
    simp only [maxLen] at hm
    have HFV := Lib.hid hfv
    generalize fl eI eI ls = cs at *
    generalize ls.length = N at *
    clear hfv hlen
    go_enter Try.func42, Try.ntmps42
    go_wp2_with fail
    refine HC.out.mono ?_
    rintro e w2 ⟨rfl, hb⟩
    have HX2 := Lib.hid (HX.out.below hb)
    have c0 := HX2.out.cell
    have hl := HX2.out.lt
    have d1 := own_cell HX2.out.row (k := P * 2 + 1) (by omega)
    have f1 := HX2.out.row.frozenAt (P * 2 + 1)
    rw [HFV.out] at d1
    have hPI : (P : Int) < (N : Int) := by omega
    have HB := Lib.hid hb
    clear hb
    go_wp2_with fail
    go_ret
    exact ⟨rfl, ⟨_, HX2.out.thing (P * 2 + 1) _, .inl rfl⟩, (Tch.of_below HB.out).grown (grown_set _ _ _ _)⟩
  | false =>
    obtain ⟨e1, e2⟩ := putI_ins eI k u ls hh
    have hlen := fl_len eI eI ls
    have hins := fun (w : World) hb (h : Sh 106 109 w base g ls.length (fl eI eI ls) v) (hbase : base ≤ w.heap.size) hnew hne => insert_anyE w base ls.length (plcI k ls) hb v (fl eI eI ls) [.int .i64 k, eI u] h.row hbase hple (by omega) hnew rfl (by simp [eI, Value.oneCell']) (fl_one eI eI (fun _ => rfl) (fun _ => rfl) ls) hne
    simp only [e1] at hins
    rw [← e2] at hins
    rw [hh] at HC
    have hown := fun k hk => (HX.out.row.lt k hk).2
    have HIN := Lib.hid hins
    have HOW := Lib.hid hown
    have hbg := HX.out.lt
    clear hc h hs hh e1 e2 hlen hins hown
    generalize (putI k u ls) = ls' at *
    generalize plcI k ls = P at *
    go_enter Try.func42, Try.ntmps42
    go_wp2_with fail
    refine HC.out.mono ?_
    rintro e w2 ⟨rfl, hb⟩
    have HX2 := Lib.hid (HX.out.below hb)
    have c0 := HX2.out.cell
    have hl := HX2.out.lt
    have hsz := hb.size
    have hb3 : Below w2.heap.size w2 (w2.alloc (.cells #[.int .i64 k, eI u] 109)) := (Below.refl _ _).alloc (Nat.le_refl _) _
    have hn3 : (w2.alloc (.cells #[.int .i64 k, eI u] 109)).heap[w2.heap.size]? = some (.cells #[.int .i64 k, eI u] 109 (0, 0)) := heap_alloc_new w2 _
    have HB := Lib.hid (kF hb3 hb)
    have HI := Lib.hid (HIN.out _ _ (HX2.out.below hb3) (by have := hb3.size; omega) hn3 (fun e => by have := HOW.out _ e; omega))
    have HX3 := Lib.hid (HX2.out.below hb3)
    have c3 := HX3.out.cell
    simp only [eI] at HI HX3 HB c3
    clear hb hb3 hn3
    go_wp2_with fail
    generalize (w2.alloc (.cells #[.int .i64 k, .int .i64 u] 109)) = w3 at *
    refine HI.out.mono ?_
    rintro e w4 ⟨v', rfl, hrow, hgr, hob⟩
    obtain ⟨a', c', rfl⟩ := own_slice hrow
    generalize hvv : Value.slice a' ls'.length c' = v' at hrow hob
    have hl3 := HX3.out.lt
    have e1 : w4.heap[g]? = w3.heap[g]? := hgr.block g hl3 (fun e => HX3.out.isnt e.symm)
    have c4 : w4.cell? ⟨g, 0, none⟩ = some v := by rw [cell_of_row _ _ _ _ _ _ (e1.trans HX3.out.box)]; rfl
    have f4 : w4.frozen? ⟨g, 0, none⟩ = false := frozen_of_row _ _ _ _ _ (e1.trans HX3.out.box)
    have hi : v'.ownBlock ≠ some g := by
      rcases hob with h | ⟨b, h, hb⟩
      · rw [h]; exact HX3.out.isnt
      · rw [h]; intro e; cases e; omega
    have HR := Lib.hid (HX3.out.put hrow e1 hi)
    have HT := Lib.hid (((Tch.of_below HB.out : Tch w w3 g v).grown hgr).set 0 v')
    have HO := Lib.hid (show v'.ownBlock = v.ownBlock ∨ ∃ b, v'.ownBlock = some b ∧ w.heap.size ≤ b from hob.imp id fun ⟨b, h, hb⟩ => ⟨b, h, Nat.le_trans HB.out.size hb⟩)
    clear hrow hgr hob e1 hi c3 c0
    subst hvv
    go_wp2_with fail
    go_ret
    exact ⟨rfl, ⟨_, HR.out, HO.out⟩, HT.out⟩
set_option maxRecDepth 100000 in
set_option maxHeartbeats 2000000 in
theorem cutM (w : World) (base g : Nat) (ls : List (Int × Int)) (v : Value) (k : Int) (h : Sh 106 109 w base g ls.length (fl eI eI ls) v) (hn : ls.length ≤ 1000) (hs : Rise ls) :
    Calls Try.prog 37 #[.pointer (some ⟨g, 0, none⟩), .int .i64 k] w (ShCut 106 109 w base g (cutI k ls).length (fl eI eI (cutI k ls)) (.int .i64 (thI 0 k ls)) (hasI k ls) v) := by
  have HG := Lib.hid (getM w base g ls v k h (by omega) hs)
  have HP := Lib.hid (fun W h => placeM W base g ls v k h (by omega) hs)
  have HX := Lib.hid h
  cases hh : hasI k ls with
  | false =>
    rw [cutI_no hh]
    rw [hh] at HG
    generalize thI 0 k ls = T at *
    clear h hs hh HP
    go_enter Try.func37, Try.ntmps37
    go_wp2_with fail
    refine HG.out.mono ?_
    rintro e w2 ⟨rfl, hb⟩
    have HX2 := Lib.hid (HX.out.below hb)
    have HB := Lib.hid hb
    clear hb
    go_wp2_with fail
    go_ret2
    exact ⟨rfl, ⟨_, HX2.out, .inl rfl⟩, Tch.of_below HB.out⟩
  | true =>
    obtain ⟨e1, e2⟩ := cutI_yes eI hh
    obtain ⟨x, hx, _⟩ := hasI_at hh
    have hlt := (List.getElem?_eq_some_iff.1 hx).1
    have hdel := fun (w : World) (h : Sh 106 109 w base g ls.length (fl eI eI ls) v) => delete_anyE w base (cutI k ls).length (plcI k ls) v (fl eI eI ls) (by rw [e2]; exact h.row) (by omega) (by omega) (fl_one eI eI (fun _ => rfl) (fun _ => rfl) ls)
    rw [e1] at hdel
    rw [hh] at HG HP
    have HD := Lib.hid hdel
    clear h hs hh hx hdel e1
    generalize thI 0 k ls = T at *
    generalize cutI k ls = ls' at *
    generalize plcI k ls = P at *
    go_enter Try.func37, Try.ntmps37
    go_wp2_with fail
    refine HG.out.mono ?_
    rintro e w2 ⟨rfl, hb⟩
    have HX2 := Lib.hid (HX.out.below hb)
    have HB := Lib.hid hb
    clear hb
    go_wp2_with fail
    refine (HP.out _ HX2.out).mono ?_
    rintro e w3 ⟨rfl, hb⟩
    have HX3 := Lib.hid (HX2.out.below hb)
    have HB3 := Lib.hid (kF hb HB.out)
    have c0 := HX3.out.cell
    have hl := HX3.out.lt
    clear hb
    go_wp2_with fail
    refine (HD.out _ HX3.out).mono ?_
    rintro e w4 ⟨v', rfl, hrow, hgr, hob⟩
    obtain ⟨a', c', rfl⟩ := own_slice hrow
    generalize hvv : Value.slice a' ls'.length c' = v' at hrow hob
    have e1 : w4.heap[g]? = w3.heap[g]? := hgr.block g hl (fun e => HX3.out.isnt e.symm)
    have c4 : w4.cell? ⟨g, 0, none⟩ = some v := by rw [cell_of_row _ _ _ _ _ _ (e1.trans HX3.out.box)]; rfl
    have f4 : w4.frozen? ⟨g, 0, none⟩ = false := frozen_of_row _ _ _ _ _ (e1.trans HX3.out.box)
    have hi : v'.ownBlock ≠ some g := by
      rcases hob with h | ⟨b, h, hb⟩
      · rw [h]; exact HX3.out.isnt
      · rw [h]; intro e; cases e; omega
    have HR := Lib.hid (HX3.out.put hrow e1 hi)
    have HT := Lib.hid (((Tch.of_below HB3.out : Tch w w3 g v).grown hgr).set 0 v')
    have HO := Lib.hid (show v'.ownBlock = v.ownBlock ∨ ∃ b, v'.ownBlock = some b ∧ w.heap.size ≤ b from hob.imp id fun ⟨b, h, hb⟩ => ⟨b, h, Nat.le_trans HB3.out.size hb⟩)
    clear hrow hgr hob e1 hi c0
    subst hvv
    go_wp2_with fail
    go_ret2
    exact ⟨rfl, ⟨_, HR.out, HO.out⟩, HT.out⟩
end Go.Proofs.Ytiidgcgamcgipaa
