/- DictFull, walked. -/
import Derived.Test.YtacfpdjpionolaaDq
import Derived.Test.YtacfpdjpionolaaDr
import Derived.Deep.CutBlock
namespace Go.Proofs.Ytacfpdjpionolaa
open Go.RowKit Go.Shelf
attribute [local go_sem] Oper.semAt_some
set_option linter.unusedSimpArgs false
set_option linter.unusedVariables false

theorem run_neq_func_nil {P : Program} (w : World) (t : TypeId) {x1 x2 : Array TypeId} {x3 : Bool} (h : P.underlying t = some (.func x1 x2 x3)) (f : Fn) (cap lb : Array Value) : (binOp .neq t (.func f cap lb) .nilFunc).run P w = .ok (.bool true) w := by
  simp only [binOp]
  simp [Op.equal, Op.maxDepth, run_equalIn_func_nil w 9999 t h f cap lb]
theorem neq_keys (w : World) (g : Nat) : (binOp .neq 70 (.func (Fn.func 59) #[] #[.pointer (some ⟨g, 0, none⟩)]) .nilFunc).run Try.prog w = .ok (.bool true) w := run_neq_func_nil w _ Try.underlying70 _ _ _
theorem neq_subs (w : World) (g h : Nat) : (binOp .neq 59 (.func (Fn.func 44) #[] #[.pointer (some ⟨g, 0, none⟩), .pointer (some ⟨h, 0, none⟩)]) .nilFunc).run Try.prog w = .ok (.bool true) w := run_neq_func_nil w _ Try.underlying59 _ _ _
/-- What the ranges over nothing find. -/
def NoB (w : World) (p nb : Nat) (ki kj : Int) {α : Type} (_ : List α) (X : World) : Prop := X.heap[nb]? = some (.cells #[.int .i64 0] 3 (0, 0)) ∧ FulC w X p ki kj
theorem NoB_own (w : World) (p nb Bn : Nat) (ki kj : Int) {α : Type} (h1 : w.heap.size < Bn) (h2 : p < Bn) (h3 : nb < Bn) : OwnFrom Bn (NoB w p nb ki kj (α := α)) := fun s X Y row ⟨h, hk⟩ hg hr =>
  ⟨own_heap (β := Unit) nb Bn _ h3 () X Y row h hg hr, own_heap (β := Unit) _ Bn _ h1 () X Y row hk.key hg hr, own_heap (β := Unit) p Bn _ h2 () X Y row hk.spc hg hr, hk.bel.grown hg hk.bel.size (fun k e => by have := (hr k e).1; omega)⟩
def NoC (w : World) (p nb D : Nat) (ki kj : Int) {α : Type} (l : List α) (X : World) : Prop := NoB w p nb ki kj l X ∧ X.heap[D]? = some (.deferred (some []))
theorem NoC_own (w : World) (p nb D Bn : Nat) (ki kj : Int) {α : Type} (h1 : w.heap.size < Bn) (h2 : p < Bn) (h3 : nb < Bn) (h4 : D < Bn) : OwnFrom Bn (NoC w p nb D ki kj (α := α)) := fun s X Y row ⟨h, hd⟩ hg hr =>
  ⟨NoB_own w p nb Bn ki kj h1 h2 h3 s X Y row h hg hr, own_heap (β := Unit) D Bn _ h4 () X Y row hd hg hr⟩
set_option maxRecDepth 100000 in
set_option maxHeartbeats 8000000 in
theorem full_in (ki kj : Int) (w : World) :
    CallsIn Fence.wide 9 Try.prog 6 #[.agg #[.int .i64 ki, .int .i64 kj]] w fun e w' => e = .returned (.bool true) ∧ Below w.heap.size w w' := by
  have hk0 : Key2 (w.alloc (.cells #[.int .i64 ki, .int .i64 kj] 31)) w.heap.size ki kj := heap_alloc_new w _
  have hb0 : Below w.heap.size w (w.alloc (.cells #[.int .i64 ki, .int .i64 kj] 31)) := (Below.refl _ _).alloc (Nat.le_refl _) _
  have HN := Lib.hid (dnew_any (w.alloc (.cells #[.int .i64 ki, .int .i64 kj] 31)))
  have HK0 := Lib.hid hk0
  have HB0 := Lib.hid hb0
  have HQ1 := neq_keys
  have HQ2 := neq_subs
  clear hk0 hb0
  refine callsIn_of_wp_marks Try.func6 rfl trivial ?_ rfl
  simp only [Try.ntmps6, List.size_toArray, List.length_cons, List.length_nil, Nat.reduceAdd, Nat.reduceSub, Array.replicate_succ, Array.replicate_zero, List.push_toArray, List.append_toArray, List.nil_append, List.cons_append]
  refine wpIn_wide.2 ?_
  go_wp2_with fail
  generalize w.alloc (.cells #[.int .i64 ki, .int .i64 kj] 31) = w0 at *
  refine HN.out.mono ?_
  rintro e w1 ⟨g, s, rfl, hd, hg, hs, hb1⟩
  have hbs : Below w1.heap.size w1 (w1.alloc (.cells #[.int .i64 2, .int .i64 3, .int .i64 0, .int .i64 255] 35)) := (Below.refl _ _).alloc (Nat.le_refl _) _
  have HF : Hid (FulAt w (w1.alloc (.cells #[.int .i64 2, .int .i64 3, .int .i64 0, .int .i64 255] 35)) g s w1.heap.size ki kj w0.heap.size (.slice none 0 0) (tabN 0)) := Lib.hid
    ⟨⟨(HK0.out.below hb1).below hbs, heap_alloc_new w1 _, kF (kF hbs hb1) HB0.out⟩, hd.below hbs, by have := hb1.size; have := hbs.size; omega, by have := HB0.out.size; omega, by have := HB0.out.size; omega, fun b e => by cases e⟩
  have hpw : w.heap.size < w1.heap.size := by have := hb1.size; have := (Array.getElem?_eq_some_iff.1 HK0.out).1; omega
  clear hd hg hs hb1 hbs HN HK0 HB0
  go_wp2_with fail
  generalize w1.alloc (.cells #[.int .i64 2, .int .i64 3, .int .i64 0, .int .i64 255] 35) = w2 at *
  generalize w1.heap.size = p at *
  generalize w0.heap.size = base at *
  go_loopg [5] 512 (fun k i wr => ∃ (j : Nat) (v : Value), j + k = 512 ∧ i = .int .i64 j ∧ Hid (FulAt w wr g s p ki kj base v (tabN j)))
  case atStart => exact ⟨0, _, by omega, rfl, HF⟩
  case round =>
    clear HF
    obtain ⟨j, v, hj, rfl, HF⟩ := hrel
    by_cases hlt : j < 512
    · have hjz : (j : Int) < 512 := by omega
      obtain ⟨p0, p1, p2, p3⟩ := HF.out.spc.cells
      have hq : wrap64 ((j : Int).tdiv 4) = (j : Int) / 4 := by rw [Int.tdiv_eq_ediv_of_nonneg (by omega)]; unfold wrap64; omega
      have hr : (j : Int).tmod 4 = (j : Int) % 4 := Int.tmod_eq_emod_of_nonneg (by omega)
      go_wp2_with fail
      refine (ful_add HF.out hlt _ _ rfl rfl).mono ?_
      rintro e w3 ⟨rfl, v', hf⟩
      have HF3 := Lib.hid hf
      clear hf HF p0 p1 p2 p3 hq hr
      go_wp2_with fail
      go_roundg (gk - 1)
      case measure => omega
      case rel => exact ⟨j + 1, v', by omega, by go_num, HF3⟩
    · obtain rfl : j = 512 := by omega
      obtain ⟨p0, p1, p2, p3⟩ := HF.out.spc.cells
      obtain ⟨c0, c1⟩ := HF.out.key.cells
      clear hlt hj
      go_wp2_with fail
      have hba : Below wr.heap.size wr (wr.alloc (.cells #[.int .u8 1] 5)) := (Below.refl _ _).alloc (Nat.le_refl _) _
      have hB1 : Byt (wr.alloc (.cells #[.int .u8 1] 5)) (wr.alloc (.cells #[.int .u8 1] 5)).heap.size (some ⟨wr.heap.size, 0, none⟩) 1 1 [1] := (Byt.new wr 5 [1] (by simp) (by simp [maxLen])).more (by simp)
      have hlst := ful_last (HF.out.below hba) hB1
      refine hlst.mono ?_
      rintro e w3 ⟨rfl, hc⟩
      have HC3 := Lib.hid hc
      clear hba hB1 hlst hc HF p0 p1 p2 p3 c0 c1
      have HWN := Lib.hid (show wantI ki kj = wantI ki kj from rfl)
      have HW0 := Lib.hid (fun (h : okN ki kj = false) => show wantI ki kj = 2 from if_pos h)
      have HW1 := Lib.hid (fun (h : okN ki kj = true) (h1 : ki ≤ 128) (h2 : kj < 4) => show wantI ki kj = 8 from by unfold wantI; rw [if_neg (by simp [h]), if_pos ⟨h1, h2⟩])
      have HW2 := Lib.hid (fun (h : okN ki kj = true) (h1 : ¬ (ki ≤ 128 ∧ kj < 4)) => show wantI ki kj = 6 from by unfold wantI; rw [if_neg (by simp [h]), if_neg h1])
      have hnm := fun x => rname_any ki kj x
      generalize wantI ki kj = q at HW0 HW1 HW2 ⊢
      generalize okN ki kj = ok at HW0 HW1 HW2 hnm
      have HNM := Lib.hid hnm
      clear HWN hnm
      obtain ⟨c0, c1⟩ := HC3.out.key.cells
      go_wp2_with fail
      refine (HNM.out _).mono ?_
      rintro e w4 ⟨rfl, hb⟩
      have HC4 := Lib.hid (HC3.out.below hb)
      clear hb c0 c1 HC3 HNM
      go_upto_if 37 with fail
      go_cut [7] from 38 to 45 (fun s7 wx => s7 = .int .i64 q ∧ Hid (FulC w wx p ki kj))
      case first =>
        obtain ⟨c0, c1⟩ := HC4.out.key.cells
        cases ok with
        | false =>
          have HQ := Lib.hid (HW0.out rfl)
          clear HW0 HW1 HW2
          go_wp2_with fail
          go_meet
          exact ⟨by rw [HQ.out], HC4⟩
        | true =>
          by_cases h1 : ki ≤ 128
          · by_cases h2 : kj < 4
            · have HQ := Lib.hid (HW1.out rfl h1 h2)
              clear HW0 HW1 HW2
              go_wp2_with fail
              go_meet
              exact ⟨by rw [HQ.out], HC4⟩
            · have HQ := Lib.hid (HW2.out rfl (fun h => h2 h.2))
              clear HW0 HW1 HW2
              go_wp2_with fail
              go_meet
              exact ⟨by rw [HQ.out], HC4⟩
          · have HQ := Lib.hid (HW2.out rfl (fun h => h1 h.1))
            clear HW0 HW1 HW2
            go_wp2_with fail
            go_meet
            exact ⟨by rw [HQ.out], HC4⟩
      case rest =>
        clear HW0 HW1 HW2 HC4
        obtain ⟨rfl, HC⟩ := hcut
        have hrd : rdE e0 100794368 = 100794368 := by decide
        have hrr := read_of wc none ki kj e0 100794368 (findc_nil wc ki kj) (fun h => absurd h (by decide))
        unfold ReadP at hrr
        rw [hrd] at hrr
        have HRR := Lib.hid hrr
        clear hrd hrr
        obtain ⟨c0, c1⟩ := HC.out.key.cells
        go_wp2_with fail
        refine HRR.out.mono ?_
        rintro e w4 ⟨A, n, c, L, rfl, -, -, hb4⟩
        have HC4 := Lib.hid (HC.out.below hb4)
        clear hb4 c0 c1 HRR HC
        go_wp2_with fail
        refine (len_nil _).mono ?_
        rintro e w5 ⟨rfl, rfl⟩
        go_wp2_with fail
        refine (chg_nil _).mono ?_
        rintro e w5 ⟨rfl, rfl⟩
        have hba : Below w4.heap.size w4 (w4.alloc (.cells #[.int .i64 0] 3)) := (Below.refl _ _).alloc (Nat.le_refl _) _
        have hn5 := heap_alloc_new w4 (.cells #[.int .i64 0] 3)
        have HC5 := Lib.hid (HC4.out.below hba)
        have HN5 := Lib.hid hn5
        have HZ5 := Lib.hid (show (w4.alloc (.cells #[.int .i64 0] 3)).heap.size = w4.heap.size + 1 by simp)
        clear hba hn5 HC4
        go_wp2_with fail
        generalize w4.alloc (.cells #[.int .i64 0] 3) = w5 at *
        refine (keys_any _ _).mono ?_
        rintro e w6 ⟨rfl, rfl⟩
        have hba : Below w5.heap.size w5 (w5.alloc (.cells #[.pointer none] 23)) := (Below.refl _ _).alloc (Nat.le_refl _) _
        have hx6 := heap_alloc_new w5 (.cells #[.pointer none] 23)
        have HC6 := Lib.hid (HC5.out.below hba)
        have HN6 := Lib.hid ((hba.block _ (by rw [HZ5.out]; omega)).trans HN5.out)
        have HX6 := Lib.hid hx6
        have HZ6 := Lib.hid (show (w5.alloc (.cells #[.pointer none] 23)).heap.size = w5.heap.size + 1 by simp)
        clear hba hx6 HC5 HN5
        go_wp2_with fail
        have hw4 := HC6.out.bel.size
        have hz5 := HZ5.out
        have hz6 := HZ6.out
        have hp6 : p < (w5.alloc (.cells #[.pointer none] 23)).heap.size := (Array.getElem?_eq_some_iff.1 HC6.out.spc).1
        have hk6 : w.heap.size < (w5.alloc (.cells #[.pointer none] 23)).heap.size := (Array.getElem?_eq_some_iff.1 HC6.out.key).1
        have hst := keys_nil_L 8 (by omega) w5.heap.size (fun _ => False) (fun _ => none) _ HX6.out
        have hI : NoB w p w4.heap.size ki kj ([] : List (Int × Int)) (w5.alloc (.cells #[.pointer none] 23)) := ⟨HN6.out, HC6.out⟩
        generalize w5.alloc (.cells #[.pointer none] 23) = w6 at *
        refine (wpIn_wide (n := 9)).1 ?_
        refine range_L (by omega) (gf := 59) (lb := #[.pointer (some ⟨w5.heap.size, 0, none⟩)]) rfl (enters_of Try.func59 (by kernel_rfl) rfl) hst kq_t (fun X k o o' hk ho hc _ => kq_put loc_none (Nat.zero_le _) ho hc) (Below.refl _ _) (fun _ => rfl)
          (NoB w p w4.heap.size ki kj) (fun _ _ _ => False) (NoB_own w p _ _ ki kj hk6 hp6 (by omega)) (fun _ => fun _ _ _ _ h _ _ => h) hI ?a1 ?assign ?body ?done ?stop
        case assign =>
          intro lp y X K hK
          dsimp only [encK]
          gi_wp2
          exact hK
        case body =>
          intro lp pre y X _ hlen
          exact absurd hlen (Nat.not_lt_zero _)
        case stop =>
          intro D cc pre X hD hSp hX hK
          exact absurd hX (fun h => h)
        case done =>
          rintro D ys X hD rfl ⟨hnX, hcX⟩ hKD
          have HNX := Lib.hid hnX
          have HCX := Lib.hid hcX
          have HKD := Lib.hid hKD
          have HDL := Lib.hid (Array.getElem?_eq_some_iff.1 hKD).1
          have HC6z := Lib.hid (show w.heap.size ≤ w6.heap.size by omega)
          clear hnX hcX hKD hI hst HC6 HN6 HX6
          obtain ⟨c0, c1⟩ := HCX.out.key.cells
          go_wp2_with fail
          refine (dsubs_any _ _ _).mono ?_
          rintro e w7 ⟨rfl, rfl⟩
          have hba : Below X.heap.size X ((X.alloc (.cells #[.pointer none] 23)).alloc (.cells #[.int .i64 ki] 3)) := kA ((Below.refl _ _).alloc (Nat.le_refl _) _) _
          have hx7 := heap_alloc2_old X (.cells #[.pointer none] 23) (.cells #[.int .i64 ki] 3)
          have HC7 := Lib.hid (HCX.out.below hba)
          have HN7 := Lib.hid ((hba.block _ (Array.getElem?_eq_some_iff.1 HNX.out).1).trans HNX.out)
          have HD7 := Lib.hid ((hba.block _ HDL.out).trans HKD.out)
          have HX7 := Lib.hid hx7
          clear hba hx7 HCX HNX HKD c0 c1
          go_wp2_with fail
          generalize X.heap.size = B7 at *
          have hn7 : w4.heap.size < ((X.alloc (.cells #[.pointer none] 23)).alloc (.cells #[.int .i64 ki] 3)).heap.size := (Array.getElem?_eq_some_iff.1 HN7.out).1
          have hd7 : D < ((X.alloc (.cells #[.pointer none] 23)).alloc (.cells #[.int .i64 ki] 3)).heap.size := (Array.getElem?_eq_some_iff.1 HD7.out).1
          have hp7 : p < ((X.alloc (.cells #[.pointer none] 23)).alloc (.cells #[.int .i64 ki] 3)).heap.size := (Array.getElem?_eq_some_iff.1 HC7.out.spc).1
          have hk7 : w.heap.size < ((X.alloc (.cells #[.pointer none] 23)).alloc (.cells #[.int .i64 ki] 3)).heap.size := (Array.getElem?_eq_some_iff.1 HC7.out.key).1
          have hst7 := subs_nil_L 8 (by omega) B7 (B7 + 1) (fun _ => False) (fun _ => none) _ HX7.out
          have hI7 : NoC w p w4.heap.size D ki kj ([] : List Int) ((X.alloc (.cells #[.pointer none] 23)).alloc (.cells #[.int .i64 ki] 3)) := ⟨⟨HN7.out, HC7.out⟩, HD7.out⟩
          generalize (X.alloc (.cells #[.pointer none] 23)).alloc (.cells #[.int .i64 ki] 3) = w7 at *
          refine (wpIn_wide (n := 9)).1 ?_
          refine range_L (by omega) (gf := 44) (lb := #[.pointer (some ⟨B7, 0, none⟩), .pointer (some ⟨B7 + 1, 0, none⟩)]) rfl (enters_of Try.func44 (by kernel_rfl) rfl) hst7 kq_t (fun X k o o' hk ho hc _ => kq_put loc_none (Nat.zero_le _) ho hc) (Below.refl _ _) (fun _ => rfl)
            (NoC w p w4.heap.size D ki kj) (fun _ _ _ => False) (NoC_own w p _ D _ ki kj hk7 hp7 hn7 hd7) (fun _ => fun _ _ _ _ h _ _ => h) hI7 ?a2 ?assign2 ?body2 ?done2 ?stop2
          case assign2 =>
            intro lp y X K hK
            dsimp only [encS]
            gi_wp2
            exact hK
          case body2 =>
            intro lp pre y X _ hlen
            exact absurd hlen (Nat.not_lt_zero _)
          case stop2 =>
            intro D cc pre X hD hSp hX hK
            exact absurd hX (fun h => h)
          case done2 =>
            rintro D2 ys Y hD2 rfl ⟨⟨hnY, hcY⟩, hdY⟩ hKE
            have HZD := Lib.hid (show D < D2 by omega)
            have HWW := Lib.hid (show w.heap.size ≤ D by have := HC6z.out; omega)
            have hS : ∀ x, Below Y.heap.size Y x → FulC w x p ki kj ∧ x.heap[D]? = some (.deferred (some [])) ∧ x.heap[D2]? = some (.deferred (some [])) ∧ x.cell? ⟨w4.heap.size, 0, none⟩ = some (.int .i64 0) := fun x hx =>
              ⟨hcY.below hx, (hx.block _ (Array.getElem?_eq_some_iff.1 hdY).1).trans hdY, (hx.block _ (Array.getElem?_eq_some_iff.1 hKE).1).trans hKE, by rw [cell_of_row _ _ _ _ _ _ ((hx.block _ (Array.getElem?_eq_some_iff.1 hnY).1).trans hnY)]; rfl⟩
            have HS := Lib.hid hS
            have HWB := Lib.hid (show wrE e0 100794368 [] = 100794368 by decide)
            clear hnY hcY hdY hKE hS hI7 hst7 HC7 HN7 HX7 HD7 hn7 hd7 hp7 hk7
            go_wp2_with fail
            refine (live14_any _).mono ?_
            rintro e y1 ⟨rfl, hb1⟩
            have HB1 := Lib.hid hb1
            obtain ⟨c0, c1⟩ := (HS.out _ HB1.out).1.key.cells
            clear hb1
            go_wp2_with fail
            have hwb := write_bad y1 none ki kj e0 100794368 none 0 0 [] (findc_nil y1 ki kj) (Byt.nil_ _ _) (by decide)
            rw [HWB.out] at hwb
            refine hwb.mono ?_
            rintro e y2 ⟨rfl, hb2⟩
            have HB2 := Lib.hid (kF hb2 HB1.out)
            clear hb2 hwb c0 c1
            obtain ⟨c0, c1⟩ := (HS.out _ HB2.out).1.key.cells
            obtain ⟨p0, p1, p2, p3⟩ := (HS.out _ HB2.out).1.spc.cells
            go_wp2_with fail
            refine (add_nil _ _ _ _ _ _ _ _ _ _).mono ?_
            rintro e y3 ⟨rfl, hb3⟩
            have HB3 := Lib.hid (kF hb3 HB2.out)
            clear hb3 c0 c1 p0 p1 p2 p3
            obtain ⟨c0, c1⟩ := (HS.out _ HB3.out).1.key.cells
            go_wp2_with fail
            refine (put_nilD _ _ _ _ _ _).mono ?_
            rintro e y4 ⟨rfl, hb4⟩
            have HB4 := Lib.hid (kF hb4 HB3.out)
            clear hb4 c0 c1
            obtain ⟨c0, c1⟩ := (HS.out _ HB4.out).1.key.cells
            go_wp2_with fail
            refine (set_nilD _ _ _ _).mono ?_
            rintro e y5 ⟨rfl, hb5⟩
            have HB5 := Lib.hid (kF hb5 HB4.out)
            clear hb5 c0 c1
            have c5 := (HS.out _ HB5.out).2.2.2
            go_wp2_with fail
            refine (fork_nil _).mono ?_
            rintro e y6 ⟨rfl, rfl⟩
            clear c5
            have hd5 := (HS.out _ HB5.out).2.1
            have he5 := (HS.out _ HB5.out).2.2.1
            have hb5 := (HS.out _ HB5.out).1.bel
            have hzd := HZD.out
            have hww := HWW.out
            have hd6 : (y5.putObj D2 (.deferred none)).heap[D]? = some (.deferred (some [])) := (World.putObj_heap_other (by omega)).trans hd5
            have hb6 := hb5.grown (grownBy_putObj' y5 D2 (.deferred none)) hb5.size (fun k e => by cases e; omega)
            have hb7 := hb6.grown (grownBy_putObj' (y5.putObj D2 (.deferred none)) D (.deferred none)) hb6.size (fun k e => by cases e; omega)
            have HD6 := Lib.hid hd6
            have HE5 := Lib.hid he5
            have HB7 := Lib.hid hb7
            clear hd5 he5 hb5 hzd hww hd6 hb6 hb7
            go_wp2_with fail
            refine ⟨by simp, .inl ⟨_, _, rfl, run_takeDeferred HE5.out, ⟨by simp, .inl ⟨_, _, rfl, run_takeDeferred HD6.out, ?_⟩⟩⟩⟩
            exact ⟨_, results_tmp rfl _ _ _, rfl, HB7.out⟩
theorem full_any (ki kj : Int) (w : World) :
    Calls Try.prog 6 #[.agg #[.int .i64 ki, .int .i64 kj]] w fun e w' => e = .returned (.bool true) ∧ Below w.heap.size w w' := callsIn_wide.1 (full_in ki kj w)
end Go.Proofs.Ytacfpdjpionolaa
