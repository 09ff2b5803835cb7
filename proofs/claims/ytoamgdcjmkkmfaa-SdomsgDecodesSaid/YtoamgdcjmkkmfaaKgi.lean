/- Decode, the document's: the walk. -/
import Derived.Deep.CutBlock
import Derived.Deep.QuietTactic
import Derived.Test.YtoamgdcjmkkmfaaKge
import Derived.Test.YtoamgdcjmkkmfaaKmh
import Derived.Test.YtoamgdcjmkkmfaaKv
set_option linter.unusedSimpArgs false
set_option linter.unusedVariables false
namespace Go.Proofs.Ytoamgdcjmkkmfaa
open Go.RowKit
set_option maxHeartbeats 4000000
theorem keep_fresh {x y : World} {k : Nat} {o : Obj} (h : x.heap[k]? = some o) (hy : Below x.heap.size x y) (O : Obj) (arr : Array Value) : ((y.alloc O).setRow y.heap.size arr).heap[k]? = some o := by
  have hk : k < x.heap.size := (Array.getElem?_eq_some_iff.1 h).1
  have hs := hy.size
  exact (setRow_other _ _ _ _ (by omega)).trans ((heap_alloc_old _ _ (by omega)).trans ((hy.block _ hk).trans h))
structure DE (w : World) (b : List Int) (x : World) : Prop where
  hl : LnAt x w.heap.size b
  hz : x.heap[w.heap.size + 1]? = some (.cells (mAr zM) 30 (0, 0))
  hs : w.heap.size + 2 ≤ x.heap.size
  hb : Below w.heap.size w x
theorem DE.below {w : World} {b : List Int} {x y : World} (h : DE w b x) (hy : Below x.heap.size x y) : DE w b y :=
  have h1 := h.hs
  ⟨(hy.block _ (by omega)).trans h.hl, (hy.block _ (by omega)).trans h.hz, Nat.le_trans h.hs hy.size, h.hb.trans (hy.mono h.hb.size)⟩
theorem DE.fresh {w : World} {b : List Int} {x y : World} (h : DE w b x) (hy : Below x.heap.size x y) (O : Obj) (arr : Array Value) : DE w b ((y.alloc O).setRow y.heap.size arr) :=
  have h1 := h.hs
  have h2 := hy.size
  ⟨keep_fresh h.hl hy O arr, keep_fresh h.hz hy O arr, by rw [size_setRow]; simp; omega, below_setRow (((h.hb.trans (hy.mono h.hb.size))).alloc (by omega) _) (by omega) _⟩
theorem de_start {w x : World} {LV ZV : Array Value} {b : List Int} (hx : (w.alloc (.cells LV 23)).alloc (.cells ZV 30) = x) (hL : LV = lnA b) (hZ : ZV = mAr zM) : DE w b x := by
  subst hx hL hZ
  refine ⟨LnAt.alloc (heap_alloc_new w _) _, ?_, by simp, ((Below.refl _ _).alloc (Nat.le_refl _) _).alloc (by simp) _⟩
  have := heap_alloc_new (w.alloc (.cells (lnA b) 23)) (.cells (mAr zM) 30); simpa using this
theorem rowx_data (c : Int) (hc : 1 ≤ c ∧ c ≤ 17) : (rowX c)[7]? = some (.bool (decide (c = 2 ∨ c = 11))) := by
  have : c = 1 ∨ c = 2 ∨ c = 3 ∨ c = 4 ∨ c = 5 ∨ c = 6 ∨ c = 7 ∨ c = 8 ∨ c = 9 ∨ c = 10 ∨ c = 11 ∨ c = 12 ∨ c = 13 ∨ c = 14 ∨ c = 15 ∨ c = 16 ∨ c = 17 := by omega
  rcases this with rfl | rfl | rfl | rfl | rfl | rfl | rfl | rfl | rfl | rfl | rfl | rfl | rfl | rfl | rfl | rfl | rfl <;> rfl
theorem hi_next {b : List Int} {ans : Bool} {c : Int} (HI : ∀ (c' : Int) (n : Nat) (sd : Bool), 1 ≤ c' → c' < c → askB ans c' = true → (n ≤ 4 ∨ n ≤ 7 ∧ (c' = 2 ∨ c' = 11)) → ¬ OkAt b ans c' n sd) (h : askB ans c = true → ∀ (n : Nat) (sd : Bool), (n ≤ 4 ∨ n ≤ 7 ∧ (c = 2 ∨ c = 11)) → ¬ OkAt b ans c n sd) :
    ∀ (c' : Int) (n : Nat) (sd : Bool), 1 ≤ c' → c' < c + 1 → askB ans c' = true → (n ≤ 4 ∨ n ≤ 7 ∧ (c' = 2 ∨ c' = 11)) → ¬ OkAt b ans c' n sd := by
  intro c' n sd h1 h2 h3 h4
  by_cases e : c' = c
  · subst e; exact h h3 n sd h4
  · exact HI c' n sd h1 (by omega) h3 h4
theorem wpList_load_row_want {P : Program} {ops : Array Oper} {rest : List Oper} {o : Oper} {a : Act} {w : World} {Q : Exit → Act → World → Prop} (hw : Region.wanted o (yielded ops a.tmps) = true) (ty : TypeId) (x : Operand) (ho : o.op = .load ty x)
    (g : Nat) (hx : a.eval x = .pointer (some ⟨g, 0, none⟩)) (t : TypeId) (cs : Array Value) (fr : Nat × Nat) (d : TypeDesc) (hg : w.heap[g]? = some (.cells cs t fr))
    (hu : P.underlying ty = some d) (hd : (match d with | .struct _ | .array _ _ => true | _ => false) = true) (hi : (P.info? ty).map (·.size) = some cs.size)
    (h : wpList P ops Q rest (a.put o.dst (.agg cs)) w) : wpList P ops Q (o :: rest) a w :=
  BigFrame.wpList_want hw fun _ hK => wp_load_row ty x ho g hx t cs fr d hg hu hd hi (hK _ _ h)
abbrev zmO : Obj := .cells #[.int .i64 0, .int .i64 0, .int .i64 0, .bool false, .bool false, .bool false, .bool false, .int .i64 0, .int .i64 0, .int .u8 0, .int .u8 0, .int .u8 0, .int .u8 0, .int .u8 0, .int .u8 0, .int .u8 0, .int .i64 0, .int .i64 0, .int .i64 0, .int .i64 0, .int .i64 0] 30
abbrev z8O : Obj := .cells #[.int .u8 0, .int .u8 0, .int .u8 0, .int .u8 0, .int .u8 0, .int .u8 0, .int .u8 0, .int .u8 0] 23
set_option maxRecDepth 8000 in
set_option maxHeartbeats 16000000 in
theorem rdec_any (b : List Int) (ans : Bool) (hb : Byte8 b) (w : World) : Calls Try.prog 5 #[.agg (lnA b), .bool ans] w fun e w' => e = .returned (.tuple #[.agg (mAr (decM b ans).1), .int .i64 (decM b ans).2]) ∧ Below w.heap.size w w' := by
  have HB8 := Lib.hid hb
  have HN := Lib.hid (none_fail (ans := ans) hb)
  clear hb
  go_enter Try.func5, Try.ntmps5
  obtain ⟨LV, hLV0⟩ : ∃ LV, lnA b = LV := ⟨_, rfl⟩
  rw [hLV0]
  have HLV := Lib.hid hLV0
  clear hLV0
  go_wp2_with fail
  generalize hx0 : (w.alloc (.cells LV 23)).alloc (.cells #[.int .i64 0, .int .i64 0, .int .i64 0, .bool false, .bool false, .bool false, .bool false, .int .i64 0, .int .i64 0, .int .u8 0, .int .u8 0, .int .u8 0, .int .u8 0, .int .u8 0, .int .u8 0, .int .u8 0, .int .i64 0, .int .i64 0, .int .i64 0, .int .i64 0, .int .i64 0] 30) = x0 at *
  have HS := Lib.hid (de_start hx0 HLV.out.symm rfl)
  clear hx0
  go_loopw [6] (fun t wr => ∃ c : Int, t = .int .i64 c ∧ 1 ≤ c ∧ c ≤ 18 ∧ Hid (∀ (c' : Int) (n : Nat) (sd : Bool), 1 ≤ c' → c' < c → askB ans c' = true → (n ≤ 4 ∨ n ≤ 7 ∧ (c' = 2 ∨ c' = 11)) → ¬ OkAt b ans c' n sd) ∧ Hid (DE w b wr)) (fun t _ => (18 - intOf t).toNat)
  case atStart => exact ⟨1, rfl, by omega, by omega, Lib.hid (fun c' n sd h1 h2 => by omega), HS⟩
  case round =>
  clear HS
  obtain ⟨c, rfl, hc1, hc2, HI, HS⟩ := hrel
  by_cases hlt : c ≤ 17
  · have hc : 1 ≤ c ∧ c ≤ 17 := ⟨hc1, hlt⟩
    have HRW := Lib.hid (fun w => rowx_any c hc w)
    have HGU : Hid (∀ (n : Nat) (hn : n ≤ 4 ∨ n ≤ 7 ∧ (c = 2 ∨ c = 11)) (sd : Bool) (w : World), Calls Try.prog 13 #[.agg (lnA b), .int .i64 c, .agg (rowX c), .int .i64 (n : Int), .bool sd] w fun e w' => e = .returned (.agg (mAr (gueM c n sd b))) ∧ Below w.heap.size w w') := Lib.hid (fun n hn sd w => gu_any c hc b HB8.out n hn sd w)
    have hwc : IntKind.i64.wrap (c + 1) = c + 1 := IntWalk.i64_in _ (by omega)
    have HAN : Hid (ans = true → ∀ w, Calls Try.prog 11 #[.int .i64 c] w fun e w' => e = .returned (.bool (askB ans c)) ∧ w = w') := Lib.hid (fun h w => by subst h; exact answered_any c w)
    have HAS : Hid (ans = false → ∀ w, Calls Try.prog 12 #[.int .i64 c] w fun e w' => e = .returned (.bool (askB ans c)) ∧ w = w') := Lib.hid (fun h w => by subst h; exact asked_any c w)
    have HRO := Lib.hid (rowx_one c hc)
    have HIR : Hid ((Try.prog.info? 41).map (·.size) = some (rowX c).size) := Lib.hid (by rw [rowx_size c hc]; exact info_rowx)
    have HRZ : Hid ((11 : Nat) = (rowX c).size) := Lib.hid (by rw [rowx_size c hc])
    have HD := Lib.hid (rowx_data c hc)
    generalize rowX c = RX at *
    go_wp2_with fail
    refine (HRW.out _).mono ?_
    rintro e w1 ⟨rfl, hb1⟩
    have HRZ0 := Lib.hid (heap_alloc_new w1 (.cells #[.int .i64 0, .bool false, .bool false, .bool false, .bool false, .bool false, .bool false, .bool false, .bool false, .bool false, .bool false] 41))
    have HS1 := Lib.hid (HS.out.fresh hb1 (.cells #[.int .i64 0, .bool false, .bool false, .bool false, .bool false, .bool false, .bool false, .bool false, .bool false, .bool false, .bool false] 41) RX)
    have HR1 : Hid (((w1.alloc (.cells #[.int .i64 0, .bool false, .bool false, .bool false, .bool false, .bool false, .bool false, .bool false, .bool false, .bool false, .bool false] 41)).setRow w1.heap.size RX).heap[w1.heap.size]? = some (.cells RX 41 (0, 0))) := Lib.hid (setRow_heap _ _ _ RX _ _ (heap_alloc_new w1 _))
    clear hb1 HS HRW
    go_upto_region 5 with (refine wpList_store_row rfl 41 (.tmp 7) (.tmp 21) rfl w1.heap.size RX rfl rfl _ _ HRZ0.out HIR.out HRZ.out HRO.out ?_)
    clear HRZ0
    generalize (w1.alloc (.cells #[.int .i64 0, .bool false, .bool false, .bool false, .bool false, .bool false, .bool false, .bool false, .bool false, .bool false, .bool false] 41)).setRow w1.heap.size RX = x1 at *
    generalize w1.heap.size = gr at *
    have HS2 := HS1
    have HR2 := HR1
    clear HS1 HR1
    obtain ⟨qa, hqa⟩ : ∃ qa, askB ans c = qa := ⟨_, rfl⟩
    have HA := Lib.hid hqa
    rw [hqa] at HAN HAS
    clear hqa
    cases ans with
    | false =>
      cases qa with
      | false =>
        go_wp2_with (go_at_call 12; refine (HAS.out rfl _).mono ?_; rintro e w2 ⟨rfl, rfl⟩)
        exact ⟨⟨c + 1, rfl, by omega, by omega, Lib.hid (hi_next HI.out (fun h => by rw [HA.out] at h; cases h)), HS2⟩, by simp [intOf]; omega⟩
      | true =>
        go_wp2_with (go_at_call 12; refine (HAS.out rfl _).mono ?_; rintro e w2 ⟨rfl, rfl⟩)
        clear HAN HAS
        go_loopw [9] (fun t wr => ∃ n : Nat, t = .int .i64 n ∧ (n ≤ 5 ∨ n ≤ 8 ∧ (c = 2 ∨ c = 11)) ∧ Hid (∀ (n' : Nat) (sd : Bool), n' < n → ¬ OkAt b false c n' sd) ∧ Hid (DE w b wr) ∧ Hid (wr.heap[gr]? = some (.cells RX 41 (0, 0)))) (fun t _ => 8 - (intOf t).toNat)
        case atStart => exact ⟨0, rfl, by omega, Lib.hid (fun n' sd h => by omega), HS2, HR2⟩
        case round =>
        clear HS2 HR2
        obtain ⟨n, rfl, hn, HJ, HS3, HR3⟩ := hrel
        have m7 : wr.cell? ⟨gr, 7, none⟩ = some (.bool (decide (c = 2 ∨ c = 11))) := (cell_of_row _ _ _ _ _ _ HR3.out).trans HD.out
        by_cases hval : n ≤ 4 ∨ n ≤ 7 ∧ (c = 2 ∨ c = 11)
        · have hv7 : n ≤ 7 := by omega
          have HVAL := Lib.hid hval
          have hsp : n ≤ 4 ∨ (¬ n ≤ 4 ∧ (c = 2 ∨ c = 11)) := by omega
          clear hval
          rcases hsp with hv | ⟨hv, hd⟩
          all_goals
            (try rw [decide_eq_true hd] at m7)
            go_wp2_with fail
            clear m7
            go_loopw [10] (fun t wr => ∃ k : Nat, t = .int .i64 k ∧ k ≤ 2 ∧ Hid (∀ j : Nat, j < k → ¬ OkAt b false c n (decide (j = 1))) ∧ Hid (DE w b wr) ∧ Hid (wr.heap[gr]? = some (.cells RX 41 (0, 0)))) (fun t _ => 2 - (intOf t).toNat)
            case atStart => exact ⟨0, rfl, by omega, Lib.hid (fun j h => by omega), HS3, HR3⟩
            case round =>
            clear HS3 HR3
            obtain ⟨k, rfl, hk, HK, HS4, HR4⟩ := hrel
            by_cases hk2 : k < 2
            · go_wp2_with (first
                | (refine wpList_load_row rfl 23 (.tmp 2) rfl w.heap.size rfl _ _ _ _ HS4.out.hl Try.underlying23 rfl info_line ?_)
                | (refine wpList_load_row rfl 41 (.tmp 7) rfl gr rfl _ _ _ _ HR4.out Try.underlying41 rfl HIR.out ?_))
              obtain ⟨sd, hsd⟩ : ∃ sd : Bool, ((k : Int) == 1) = sd := ⟨_, rfl⟩
              rw [hsd]
              have HSD : Hid (decide (k = 1) = sd) := Lib.hid (by
                rw [← hsd]
                have : k = 0 ∨ k = 1 := by omega
                rcases this with rfl | rfl <;> rfl)
              clear hsd
              refine (HGU.out n HVAL.out sd _).mono ?_
              rintro e w3 ⟨rfl, hb3⟩
              have hen : ∀ w, Calls Try.prog 14 #[.agg (mAr (gueM c n sd b))] w fun e w' => e = .returned (.tuple #[.agg (lnA (encM (gueM c n sd b)).1), .int .i64 (encM (gueM c n sd b)).2]) ∧ Below w.heap.size w w' := fun w => renc_any _ w
              have hY : (encM (gueM c n sd b)).2 = 0 → eqL (encM (gueM c n sd b)).1 b = true → decM b false = (gueM c n sd b, 0) := fun h1 h2 => ok_sound ⟨h1, h2⟩ HA.out
              have hN : ¬ ((encM (gueM c n sd b)).2 = 0 ∧ eqL (encM (gueM c n sd b)).1 b = true) → ¬ OkAt b false c n sd := fun h => h
              generalize gueM c n sd b = G at *
              generalize encM G = E at hen hY hN
              obtain ⟨L, er⟩ := E
              simp only at hen hY hN
              have HMZ := Lib.hid (heap_alloc_new w3 zmO)
              have HS5 := Lib.hid (HS4.out.fresh hb3 zmO (mAr G))
              have HR5 := Lib.hid (keep_fresh HR4.out hb3 zmO (mAr G))
              have HM5 : Hid (((w3.alloc zmO).setRow w3.heap.size (mAr G)).heap[w3.heap.size]? = some (.cells (mAr G) 30 (0, 0))) := Lib.hid (setRow_heap _ _ _ (mAr G) _ _ (heap_alloc_new w3 _))
              have HEN := Lib.hid hen
              have HY := Lib.hid hY
              have HN2 := Lib.hid hN
              clear hen hY hN hb3 HS4 HR4 HGU
              go_upto_region 13 with (refine wpList_store_row rfl 30 (.tmp 11) (.tmp 60) rfl w3.heap.size (mAr G) rfl rfl _ _ HMZ.out info_msg rfl (mAr_one G) ?_)
              clear HMZ
              generalize (w3.alloc zmO).setRow w3.heap.size (mAr G) = x3 at *
              generalize w3.heap.size = gm at *
              go_wp2_with (refine wpList_load_row rfl 30 (.tmp 11) rfl gm rfl _ _ _ _ HM5.out Try.underlying30 rfl info_msg ?_)
              refine (HEN.out _).mono ?_
              rintro e w4 ⟨rfl, hb4⟩
              have HLZ := Lib.hid (heap_alloc_new w4 z8O)
              have HS6 := Lib.hid (HS5.out.fresh hb4 z8O (lnA L))
              have HR6 := Lib.hid (keep_fresh HR5.out hb4 z8O (lnA L))
              have HM6 := Lib.hid (keep_fresh HM5.out hb4 z8O (lnA L))
              have HL6 : Hid (((w4.alloc z8O).setRow w4.heap.size (lnA L)).heap[w4.heap.size]? = some (.cells (lnA L) 23 (0, 0))) := Lib.hid (setRow_heap _ _ _ (lnA L) _ _ (heap_alloc_new w4 _))
              clear hb4 HS5 HR5 HM5 HEN
              go_upto_region 14 with (refine wpList_store_row rfl 23 (.tmp 12) (.tmp 64) rfl w4.heap.size (lnA L) rfl rfl _ _ HLZ.out info_line rfl (ln_one _) ?_)
              clear HLZ
              generalize (w4.alloc z8O).setRow w4.heap.size (lnA L) = x4 at *
              generalize w4.heap.size = gl at *
              by_cases he : er = 0
              · subst he
                have hcl := fun w => run_eqL L b w
                obtain ⟨qe, hqe⟩ : ∃ qe, eqL L b = qe := ⟨_, rfl⟩
                rw [hqe] at hcl
                have HQ := Lib.hid hqe
                clear hqe
                cases qe with
                | false =>
                  have HK1 : Hid (∀ j : Nat, j < k + 1 → ¬ OkAt b false c n (decide (j = 1))) := Lib.hid (fun j hj => by
                    by_cases e : j = k
                    · subst e; rw [HSD.out]; exact HN2.out (by rw [HQ.out]; simp)
                    · exact HK.out j (by omega))
                  go_wp2_with (first
                    | (refine wpList_load_row_want (by kernel_rfl) 23 (.tmp 12) rfl gl rfl _ _ _ _ HL6.out Try.underlying23 rfl info_line ?_)
                    | (refine wpList_load_row_want (by kernel_rfl) 23 (.tmp 2) rfl w.heap.size rfl _ _ _ _ HS6.out.hl Try.underlying23 rfl info_line ?_))
                  exact ⟨⟨k + 1, by go_num, by omega, HK1, HS6, HR6⟩, by simp [intOf]; omega⟩
                | true =>
                  have HDEC := Lib.hid (HY.out rfl HQ.out)
                  clear HY HN2 HK HJ HI HN
                  go_upto_region 15 with (first
                    | (refine wpList_load_row_want (by kernel_rfl) 23 (.tmp 12) rfl gl rfl _ _ _ _ HL6.out Try.underlying23 rfl info_line ?_)
                    | (refine wpList_load_row_want (by kernel_rfl) 23 (.tmp 2) rfl w.heap.size rfl _ _ _ _ HS6.out.hl Try.underlying23 rfl info_line ?_))
                  clear hcl
                  go_wp2_with (first
                    | (refine wpList_load_row rfl 30 (.tmp 11) rfl gm rfl _ _ _ _ HM6.out Try.underlying30 rfl info_msg ?_)
                    | (refine wpList_store_row rfl 30 (.tmp 4) (.tmp 73) rfl (w.heap.size + 1) (mAr G) rfl rfl _ _ HS6.out.hz info_msg rfl (mAr_one G) ?_))
                  exact bodyPost_ret ((results_cell_tmp_row rfl _ _ (w.heap.size + 1) _ _ _ _ rfl (setRow_heap _ _ _ (mAr G) _ _ HS6.out.hz) Try.underlying30 rfl info_msg).trans (by rfl)) rfl ⟨by rw [HDEC.out]; rfl, below_setRow HS6.out.hb (by omega) _⟩
              · have e0 : (er == 0) = false := by simpa using he
                have HK1 : Hid (∀ j : Nat, j < k + 1 → ¬ OkAt b false c n (decide (j = 1))) := Lib.hid (fun j hj => by
                  by_cases e : j = k
                  · subst e; rw [HSD.out]; exact HN2.out (fun h => he h.1)
                  · exact HK.out j (by omega))
                go_wp2_with fail
                exact ⟨⟨k + 1, by go_num, by omega, HK1, HS6, HR6⟩, by simp [intOf]; omega⟩
            · go_wp2_with fail
              have HJ1 : Hid (∀ (n' : Nat) (sd : Bool), n' < n + 1 → ¬ OkAt b false c n' sd) := Lib.hid (fun n' sd h => by
                by_cases e : n' = n
                · subst e
                  have := HK.out (if sd = true then 1 else 0) (by cases sd <;> simp <;> omega)
                  cases sd <;> simpa using this
                · exact HJ.out n' sd (by omega))
              have hn1 : n + 1 ≤ 5 ∨ n + 1 ≤ 8 ∧ (c = 2 ∨ c = 11) := by have := HVAL.out; omega
              exact ⟨⟨n + 1, by go_num, hn1, HJ1, HS4, HR4⟩, by simp [intOf]; omega⟩
        · have hsp : (n ≤ 7 ∧ ¬ n ≤ 4 ∧ ¬ (c = 2 ∨ c = 11)) ∨ ¬ n ≤ 7 := by omega
          have hn1 : ∀ n' : Nat, (n' ≤ 4 ∨ n' ≤ 7 ∧ (c = 2 ∨ c = 11)) → n' < n := fun n' h => by omega
          have HJ1 := Lib.hid (fun (n' : Nat) (sd : Bool) (h : n' ≤ 4 ∨ n' ≤ 7 ∧ (c = 2 ∨ c = 11)) => HJ.out n' sd (hn1 n' h))
          clear hn1
          rcases hsp with ⟨hv7, hv, hd⟩ | hv7
          all_goals
            (try rw [decide_eq_false hd] at m7)
            go_wp2_with fail
            exact ⟨⟨c + 1, rfl, by omega, by omega, Lib.hid (hi_next HI.out (fun _ => HJ1.out)), HS3⟩, by simp [intOf]; omega⟩
    | true =>
      cases qa with
      | false =>
        go_wp2_with (go_at_call 11; refine (HAN.out rfl _).mono ?_; rintro e w2 ⟨rfl, rfl⟩)
        exact ⟨⟨c + 1, rfl, by omega, by omega, Lib.hid (hi_next HI.out (fun h => by rw [HA.out] at h; cases h)), HS2⟩, by simp [intOf]; omega⟩
      | true =>
        go_wp2_with (go_at_call 11; refine (HAN.out rfl _).mono ?_; rintro e w2 ⟨rfl, rfl⟩)
        clear HAN HAS
        go_loopw [9] (fun t wr => ∃ n : Nat, t = .int .i64 n ∧ (n ≤ 5 ∨ n ≤ 8 ∧ (c = 2 ∨ c = 11)) ∧ Hid (∀ (n' : Nat) (sd : Bool), n' < n → ¬ OkAt b true c n' sd) ∧ Hid (DE w b wr) ∧ Hid (wr.heap[gr]? = some (.cells RX 41 (0, 0)))) (fun t _ => 8 - (intOf t).toNat)
        case atStart => exact ⟨0, rfl, by omega, Lib.hid (fun n' sd h => by omega), HS2, HR2⟩
        case round =>
        clear HS2 HR2
        obtain ⟨n, rfl, hn, HJ, HS3, HR3⟩ := hrel
        have m7 : wr.cell? ⟨gr, 7, none⟩ = some (.bool (decide (c = 2 ∨ c = 11))) := (cell_of_row _ _ _ _ _ _ HR3.out).trans HD.out
        by_cases hval : n ≤ 4 ∨ n ≤ 7 ∧ (c = 2 ∨ c = 11)
        · have hv7 : n ≤ 7 := by omega
          have HVAL := Lib.hid hval
          have hsp : n ≤ 4 ∨ (¬ n ≤ 4 ∧ (c = 2 ∨ c = 11)) := by omega
          clear hval
          rcases hsp with hv | ⟨hv, hd⟩
          all_goals
            (try rw [decide_eq_true hd] at m7)
            go_wp2_with fail
            clear m7
            go_loopw [10] (fun t wr => ∃ k : Nat, t = .int .i64 k ∧ k ≤ 2 ∧ Hid (∀ j : Nat, j < k → ¬ OkAt b true c n (decide (j = 1))) ∧ Hid (DE w b wr) ∧ Hid (wr.heap[gr]? = some (.cells RX 41 (0, 0)))) (fun t _ => 2 - (intOf t).toNat)
            case atStart => exact ⟨0, rfl, by omega, Lib.hid (fun j h => by omega), HS3, HR3⟩
            case round =>
            clear HS3 HR3
            obtain ⟨k, rfl, hk, HK, HS4, HR4⟩ := hrel
            by_cases hk2 : k < 2
            · go_wp2_with (first
                | (refine wpList_load_row rfl 23 (.tmp 2) rfl w.heap.size rfl _ _ _ _ HS4.out.hl Try.underlying23 rfl info_line ?_)
                | (refine wpList_load_row rfl 41 (.tmp 7) rfl gr rfl _ _ _ _ HR4.out Try.underlying41 rfl HIR.out ?_))
              obtain ⟨sd, hsd⟩ : ∃ sd : Bool, ((k : Int) == 1) = sd := ⟨_, rfl⟩
              rw [hsd]
              have HSD : Hid (decide (k = 1) = sd) := Lib.hid (by
                rw [← hsd]
                have : k = 0 ∨ k = 1 := by omega
                rcases this with rfl | rfl <;> rfl)
              clear hsd
              refine (HGU.out n HVAL.out sd _).mono ?_
              rintro e w3 ⟨rfl, hb3⟩
              have hen : ∀ w, Calls Try.prog 14 #[.agg (mAr (gueM c n sd b))] w fun e w' => e = .returned (.tuple #[.agg (lnA (encM (gueM c n sd b)).1), .int .i64 (encM (gueM c n sd b)).2]) ∧ Below w.heap.size w w' := fun w => renc_any _ w
              have hY : (encM (gueM c n sd b)).2 = 0 → eqL (encM (gueM c n sd b)).1 b = true → decM b true = (gueM c n sd b, 0) := fun h1 h2 => ok_sound ⟨h1, h2⟩ HA.out
              have hN : ¬ ((encM (gueM c n sd b)).2 = 0 ∧ eqL (encM (gueM c n sd b)).1 b = true) → ¬ OkAt b true c n sd := fun h => h
              generalize gueM c n sd b = G at *
              generalize encM G = E at hen hY hN
              obtain ⟨L, er⟩ := E
              simp only at hen hY hN
              have HMZ := Lib.hid (heap_alloc_new w3 zmO)
              have HS5 := Lib.hid (HS4.out.fresh hb3 zmO (mAr G))
              have HR5 := Lib.hid (keep_fresh HR4.out hb3 zmO (mAr G))
              have HM5 : Hid (((w3.alloc zmO).setRow w3.heap.size (mAr G)).heap[w3.heap.size]? = some (.cells (mAr G) 30 (0, 0))) := Lib.hid (setRow_heap _ _ _ (mAr G) _ _ (heap_alloc_new w3 _))
              have HEN := Lib.hid hen
              have HY := Lib.hid hY
              have HN2 := Lib.hid hN
              clear hen hY hN hb3 HS4 HR4 HGU
              go_upto_region 13 with (refine wpList_store_row rfl 30 (.tmp 11) (.tmp 60) rfl w3.heap.size (mAr G) rfl rfl _ _ HMZ.out info_msg rfl (mAr_one G) ?_)
              clear HMZ
              generalize (w3.alloc zmO).setRow w3.heap.size (mAr G) = x3 at *
              generalize w3.heap.size = gm at *
              go_wp2_with (refine wpList_load_row rfl 30 (.tmp 11) rfl gm rfl _ _ _ _ HM5.out Try.underlying30 rfl info_msg ?_)
              refine (HEN.out _).mono ?_
              rintro e w4 ⟨rfl, hb4⟩
              have HLZ := Lib.hid (heap_alloc_new w4 z8O)
              have HS6 := Lib.hid (HS5.out.fresh hb4 z8O (lnA L))
              have HR6 := Lib.hid (keep_fresh HR5.out hb4 z8O (lnA L))
              have HM6 := Lib.hid (keep_fresh HM5.out hb4 z8O (lnA L))
              have HL6 : Hid (((w4.alloc z8O).setRow w4.heap.size (lnA L)).heap[w4.heap.size]? = some (.cells (lnA L) 23 (0, 0))) := Lib.hid (setRow_heap _ _ _ (lnA L) _ _ (heap_alloc_new w4 _))
              clear hb4 HS5 HR5 HM5 HEN
              go_upto_region 14 with (refine wpList_store_row rfl 23 (.tmp 12) (.tmp 64) rfl w4.heap.size (lnA L) rfl rfl _ _ HLZ.out info_line rfl (ln_one _) ?_)
              clear HLZ
              generalize (w4.alloc z8O).setRow w4.heap.size (lnA L) = x4 at *
              generalize w4.heap.size = gl at *
              by_cases he : er = 0
              · subst he
                have hcl := fun w => run_eqL L b w
                obtain ⟨qe, hqe⟩ : ∃ qe, eqL L b = qe := ⟨_, rfl⟩
                rw [hqe] at hcl
                have HQ := Lib.hid hqe
                clear hqe
                cases qe with
                | false =>
                  have HK1 : Hid (∀ j : Nat, j < k + 1 → ¬ OkAt b true c n (decide (j = 1))) := Lib.hid (fun j hj => by
                    by_cases e : j = k
                    · subst e; rw [HSD.out]; exact HN2.out (by rw [HQ.out]; simp)
                    · exact HK.out j (by omega))
                  go_wp2_with (first
                    | (refine wpList_load_row_want (by kernel_rfl) 23 (.tmp 12) rfl gl rfl _ _ _ _ HL6.out Try.underlying23 rfl info_line ?_)
                    | (refine wpList_load_row_want (by kernel_rfl) 23 (.tmp 2) rfl w.heap.size rfl _ _ _ _ HS6.out.hl Try.underlying23 rfl info_line ?_))
                  exact ⟨⟨k + 1, by go_num, by omega, HK1, HS6, HR6⟩, by simp [intOf]; omega⟩
                | true =>
                  have HDEC := Lib.hid (HY.out rfl HQ.out)
                  clear HY HN2 HK HJ HI HN
                  go_upto_region 15 with (first
                    | (refine wpList_load_row_want (by kernel_rfl) 23 (.tmp 12) rfl gl rfl _ _ _ _ HL6.out Try.underlying23 rfl info_line ?_)
                    | (refine wpList_load_row_want (by kernel_rfl) 23 (.tmp 2) rfl w.heap.size rfl _ _ _ _ HS6.out.hl Try.underlying23 rfl info_line ?_))
                  clear hcl
                  go_wp2_with (first
                    | (refine wpList_load_row rfl 30 (.tmp 11) rfl gm rfl _ _ _ _ HM6.out Try.underlying30 rfl info_msg ?_)
                    | (refine wpList_store_row rfl 30 (.tmp 4) (.tmp 73) rfl (w.heap.size + 1) (mAr G) rfl rfl _ _ HS6.out.hz info_msg rfl (mAr_one G) ?_))
                  exact bodyPost_ret ((results_cell_tmp_row rfl _ _ (w.heap.size + 1) _ _ _ _ rfl (setRow_heap _ _ _ (mAr G) _ _ HS6.out.hz) Try.underlying30 rfl info_msg).trans (by rfl)) rfl ⟨by rw [HDEC.out]; rfl, below_setRow HS6.out.hb (by omega) _⟩
              · have e0 : (er == 0) = false := by simpa using he
                have HK1 : Hid (∀ j : Nat, j < k + 1 → ¬ OkAt b true c n (decide (j = 1))) := Lib.hid (fun j hj => by
                  by_cases e : j = k
                  · subst e; rw [HSD.out]; exact HN2.out (fun h => he h.1)
                  · exact HK.out j (by omega))
                go_wp2_with fail
                exact ⟨⟨k + 1, by go_num, by omega, HK1, HS6, HR6⟩, by simp [intOf]; omega⟩
            · go_wp2_with fail
              have HJ1 : Hid (∀ (n' : Nat) (sd : Bool), n' < n + 1 → ¬ OkAt b true c n' sd) := Lib.hid (fun n' sd h => by
                by_cases e : n' = n
                · subst e
                  have := HK.out (if sd = true then 1 else 0) (by cases sd <;> simp <;> omega)
                  cases sd <;> simpa using this
                · exact HJ.out n' sd (by omega))
              have hn1 : n + 1 ≤ 5 ∨ n + 1 ≤ 8 ∧ (c = 2 ∨ c = 11) := by have := HVAL.out; omega
              exact ⟨⟨n + 1, by go_num, hn1, HJ1, HS4, HR4⟩, by simp [intOf]; omega⟩
        · have hsp : (n ≤ 7 ∧ ¬ n ≤ 4 ∧ ¬ (c = 2 ∨ c = 11)) ∨ ¬ n ≤ 7 := by omega
          have hn1 : ∀ n' : Nat, (n' ≤ 4 ∨ n' ≤ 7 ∧ (c = 2 ∨ c = 11)) → n' < n := fun n' h => by omega
          have HJ1 := Lib.hid (fun (n' : Nat) (sd : Bool) (h : n' ≤ 4 ∨ n' ≤ 7 ∧ (c = 2 ∨ c = 11)) => HJ.out n' sd (hn1 n' h))
          clear hn1
          rcases hsp with ⟨hv7, hv, hd⟩ | hv7
          all_goals
            (try rw [decide_eq_false hd] at m7)
            go_wp2_with fail
            exact ⟨⟨c + 1, rfl, by omega, by omega, Lib.hid (hi_next HI.out (fun _ => HJ1.out)), HS3⟩, by simp [intOf]; omega⟩
  · have hdec : decM b ans = (zM, 4) := HN.out (fun c' n sd h1 h2 h3 => HI.out c' n sd h1.1 (by omega) h2 h3)
    have HDEC := Lib.hid hdec
    clear hdec HI
    go_wp2_with (refine wpList_store_row rfl 30 (.tmp 4) (.tmp 74) rfl (w.heap.size + 1) (mAr zM) rfl rfl _ _ HS.out.hz info_msg rfl (mAr_one zM) ?_)
    exact bodyPost_ret ((results_cell_tmp_row rfl _ _ (w.heap.size + 1) _ _ _ _ rfl (setRow_heap _ _ _ (mAr zM) _ _ HS.out.hz) Try.underlying30 rfl info_msg).trans (by rfl)) rfl ⟨by rw [HDEC.out]; rfl, below_setRow HS.out.hb (by omega) _⟩
end Go.Proofs.Ytoamgdcjmkkmfaa
namespace Go.Proofs.Ytoamgdcjmkkmfaa
open Go.RowKit
set_option maxHeartbeats 4000000
set_option maxRecDepth 8000 in
theorem decodes_walk (l : List Int) (ans : Bool) (w : World) (hb : Byte8 l) :
    Calls Try.prog 3 #[.agg (lnA l), .bool ans] w fun e w' => e = .returned (.bool true) ∧ Below w.heap.size w w' := by
  have hl0 : LnAt (w.alloc (.cells (lnA l) 23)) w.heap.size l := heap_alloc_new w _
  have hb0 : Below w.heap.size w (w.alloc (.cells (lnA l) 23)) := (Below.refl _ _).alloc (Nat.le_refl _) _
  have hs0 : (w.alloc (.cells (lnA l) 23)).heap.size = w.heap.size + 1 := by simp
  have hde := fun w => decode_any l ans hb w
  have hre := fun w => rdec_any l ans hb w
  generalize decM l ans = E at hde hre
  obtain ⟨M, er⟩ := E
  simp only at hde hre
  have hcl : ∀ w : World, (Op.equalIn 10000 30 (.agg (mAr M)) (.agg (mAr M))).run Try.prog w = .ok true w := fun w => by
    have := run_eqM M M w
    rw [eqM_refl] at this
    exact this
  have her : (er == er) = true := by simp
  have HL0 := Lib.hid hl0
  have HB0 := Lib.hid hb0
  have HS0 := Lib.hid hs0
  have HDE := Lib.hid hde
  have HRE := Lib.hid hre
  clear hl0 hb0 hs0 hde hre hb
  go_enter Try.func3, Try.ntmps3
  go_wp2_with (refine wpList_load_row rfl 23 (.tmp 2) rfl w.heap.size rfl _ _ _ _ HL0.out Try.underlying23 rfl info_line ?_)
  refine (HDE.out _).mono ?_
  rintro e w1 ⟨rfl, hb1⟩
  have hs1 : w.heap.size + 1 ≤ w1.heap.size := by have := hb1.size; rw [HS0.out] at this; exact this
  have HZ1 := Lib.hid (heap_alloc_new w1 zmO)
  have HL1 := Lib.hid ((setRow_other (w1.alloc zmO) w1.heap.size w.heap.size (mAr M) (by omega)).trans ((heap_alloc_old w1 _ (by omega)).trans ((hb1.block w.heap.size (by rw [HS0.out]; omega)).trans HL0.out)))
  have HN1 : Hid ((_root_.Go.World.setRow (w1.alloc zmO) w1.heap.size (mAr M)).heap[w1.heap.size]? = some (.cells (mAr M) 30 (0, 0))) := Lib.hid (setRow_heap _ _ _ (mAr M) _ _ (heap_alloc_new w1 _))
  have HB1 := Lib.hid (below_setRow ((HB0.out.trans (hb1.mono HB0.out.size)).alloc (Nat.le_trans HB0.out.size hb1.size) zmO) (show w.heap.size ≤ w1.heap.size by omega) (mAr M))
  have HG1 : Hid (w.heap.size + 1 ≤ w1.heap.size ∧ w1.heap.size < (_root_.Go.World.setRow (w1.alloc zmO) w1.heap.size (mAr M)).heap.size) := Lib.hid ⟨hs1, by rw [size_setRow]; simp⟩
  clear hb1 hs1 HL0 HB0 HS0
  go_upto_region 2 with (refine wpList_store_row rfl 30 (.tmp 5) (.tmp 13) rfl w1.heap.size (mAr M) rfl rfl _ _ HZ1.out info_msg rfl (mAr_one M) ?_)
  clear HZ1
  generalize (_root_.Go.World.setRow (w1.alloc zmO) w1.heap.size (mAr M)) = wa at *
  generalize w1.heap.size = g1 at *
  go_wp2_with (refine wpList_load_row rfl 23 (.tmp 2) rfl w.heap.size rfl _ _ _ _ HL1.out Try.underlying23 rfl info_line ?_)
  refine (HRE.out _).mono ?_
  rintro e w2 ⟨rfl, hb2⟩
  have hs2 := hb2.size
  have HZ2 := Lib.hid (heap_alloc_new w2 zmO)
  have HN2 := Lib.hid ((setRow_other (w2.alloc zmO) w2.heap.size g1 (mAr M) (by have := HG1.out; omega)).trans ((heap_alloc_old w2 _ (by have := HG1.out; omega)).trans ((hb2.block g1 HG1.out.2).trans HN1.out)))
  have HP2 : Hid ((_root_.Go.World.setRow (w2.alloc zmO) w2.heap.size (mAr M)).heap[w2.heap.size]? = some (.cells (mAr M) 30 (0, 0))) := Lib.hid (setRow_heap _ _ _ (mAr M) _ _ (heap_alloc_new w2 _))
  have HB2 := Lib.hid (below_setRow ((HB1.out.trans (hb2.mono HB1.out.size)).alloc (Nat.le_trans HB1.out.size hb2.size) zmO) (show w.heap.size ≤ w2.heap.size from Nat.le_trans HB1.out.size hb2.size) (mAr M))
  have HG2 : Hid (g1 < w2.heap.size ∧ w2.heap.size < (_root_.Go.World.setRow (w2.alloc zmO) w2.heap.size (mAr M)).heap.size) := Lib.hid ⟨by have := HG1.out; omega, by rw [size_setRow]; simp⟩
  clear hb2 hs2 HL1 HB1 HN1 HG1
  go_upto_region 3 with (refine wpList_store_row rfl 30 (.tmp 7) (.tmp 19) rfl w2.heap.size (mAr M) rfl rfl _ _ HZ2.out info_msg rfl (mAr_one M) ?_)
  clear HZ2
  generalize (_root_.Go.World.setRow (w2.alloc zmO) w2.heap.size (mAr M)) = wb at *
  generalize w2.heap.size = g2 at *
  go_wp2_with fail
  refine (live17_any _).mono ?_
  rintro e w3 ⟨rfl, hb3⟩
  have HN3 := Lib.hid ((hb3.block g1 (by have := HG2.out; omega)).trans HN2.out)
  have HP3 := Lib.hid ((hb3.block g2 HG2.out.2).trans HP2.out)
  have HB3 := Lib.hid (HB2.out.trans (hb3.mono HB2.out.size))
  clear hb3 HN2 HP2 HB2 HG2
  go_wp2_with (first
    | (refine wpList_load_row_want (by kernel_rfl) 30 (.tmp 5) rfl g1 rfl _ _ _ _ HN3.out Try.underlying30 rfl info_msg ?_)
    | (refine wpList_load_row_want (by kernel_rfl) 30 (.tmp 7) rfl g2 rfl _ _ _ _ HP3.out Try.underlying30 rfl info_msg ?_))
  go_ret
  exact ⟨rfl, HB3.out⟩
end Go.Proofs.Ytoamgdcjmkkmfaa
