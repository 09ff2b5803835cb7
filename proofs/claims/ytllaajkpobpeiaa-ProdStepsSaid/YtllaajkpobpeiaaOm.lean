/- prod: steps that came in; the walk of ProdApart. -/
import Derived.Test.YtllaajkpobpeiaaOl
import Derived.OpenShut
import Derived.Lib.SmallJoins
import Derived.Deep.Slices
namespace Go.Proofs.Ytllaajkpobpeiaa
open Go.RowKit Go.Joins Go.ChangeShapes Go.WideShapes Go.Deep
set_option linter.unusedSimpArgs false
set_option linter.unusedVariables false

/-- A step of the laws: by how many ticks, on, by the other table, the bytes, one less. -/
structure TkV where
  y : Int
  on : Bool
  ot : Bool
  b : Nat → Int
  sh : Bool
structure TkC (w : World) (b o : Nat) (x : TkV) : Prop where
  y : w.cell? ⟨b, o, none⟩ = some (.int .u8 x.y)
  on : w.cell? ⟨b, o + 1, none⟩ = some (.bool x.on)
  ot : w.cell? ⟨b, o + 2, none⟩ = some (.bool x.ot)
  by_ : ∀ j, j < 8 → w.cell? ⟨b, o + 3 + j, none⟩ = some (.int .u8 (x.b j))
  sh : w.cell? ⟨b, o + 11, none⟩ = some (.bool x.sh)
  ry : 0 ≤ x.y ∧ x.y ≤ 255
  rb : ∀ j, j < 8 → 0 ≤ x.b j ∧ x.b j ≤ 255
theorem TkC.below {w w' : World} {B b o : Nat} {x : TkV} (h : TkC w b o x) (hlt : b < B) (hb : Below B w w') : TkC w' b o x :=
  ⟨(hb.cell (p := ⟨b, _, none⟩) hlt).trans h.y, (hb.cell (p := ⟨b, _, none⟩) hlt).trans h.on, (hb.cell (p := ⟨b, _, none⟩) hlt).trans h.ot, fun j hj => (hb.cell (p := ⟨b, _, none⟩) hlt).trans (h.by_ j hj), (hb.cell (p := ⟨b, _, none⟩) hlt).trans h.sh, h.ry, h.rb⟩
abbrev TksP (w : World) (B : Nat) (A : Option Addr) (n c : Nat) (fs : Nat → TkV) : Prop := Els TkC 12 w B A n c fs
def tkL (x : TkV) (k : Nat) : List Int := [x.b 0, x.b 1, x.b 2, x.b 3, x.b 4, x.b 5, x.b 6, x.b 7].take k
theorem tkL_get (x : TkV) {k j : Nat} (hk : k ≤ 8) (hj : j < k) : (tkL x k).getD j 0 = x.b j := by
  have : j = 0 ∨ j = 1 ∨ j = 2 ∨ j = 3 ∨ j = 4 ∨ j = 5 ∨ j = 6 ∨ j = 7 := by omega
  unfold tkL
  rw [List.getD, List.getElem?_take_of_lt hj]
  rcases this with rfl | rfl | rfl | rfl | rfl | rfl | rfl | rfl <;> rfl
theorem TkC.byt {w : World} {b o : Nat} {x : TkV} (h : TkC w b o x) (hb : b < w.heap.size) {k : Nat} (hk : k ≤ 8) : Byt w w.heap.size (some ⟨b, o + 3, none⟩) k 8 (tkL x k) := by
  refine ⟨by simp [tkL]; omega, hk, by simp [maxLen], fun y hy => ?_, fun _ => ⟨b, o + 3, rfl, hb, fun j hj => by rw [tkL_get x hk hj]; exact h.by_ j (by omega)⟩⟩
  obtain ⟨j, hj, rfl⟩ := List.mem_iff_getElem.1 (List.mem_of_mem_take hy)
  have hj8 : j < 8 := by simpa using hj
  have : [x.b 0, x.b 1, x.b 2, x.b 3, x.b 4, x.b 5, x.b 6, x.b 7][j] = x.b j := by
    have : j = 0 ∨ j = 1 ∨ j = 2 ∨ j = 3 ∨ j = 4 ∨ j = 5 ∨ j = 6 ∨ j = 7 := by omega
    rcases this with rfl | rfl | rfl | rfl | rfl | rfl | rfl | rfl <;> rfl
  rw [this]
  exact h.rb j hj8
/-- What stands beside: two makers, the table, a step. -/
structure PaS (w w' : World) (tb g q : Nat) (X : ChV) (S : Option (ChV × Int)) (N : Int) (S2 : Option (ChV × Int)) (N2 : Int) (bk o : Nat) (x : TkV) : Prop where
  bel : Below w.heap.size w w'
  ch : ChAt w' tb X
  tk : TkC w' bk o x
  mg : MkS w' g S N
  mq : MkS w' q S2 N2
  lb : bk < w.heap.size
  lt : w.heap.size ≤ tb ∧ tb < g ∧ g < q
section
variable {w w' w'' : World} {tb g q : Nat} {X : ChV} {S S2 S' : Option (ChV × Int)} {N N2 N' : Int} {bk o : Nat} {x : TkV}
theorem PaS.below (h : PaS w w' tb g q X S N S2 N2 bk o x) (hb : Below w'.heap.size w' w'') : PaS w w'' tb g q X S N S2 N2 bk o x :=
  ⟨kF hb h.bel, h.ch.below hb, h.tk.below h.lb (hb.mono h.bel.size), h.mg.below hb, h.mq.below hb, h.lb, h.lt⟩
theorem PaS.onq (h : PaS w w' tb g q X S N S2 N2 bk o x) (ho : Onl q w' w'') (hm : MkS w'' q S' N') : PaS w w'' tb g q X S N S' N' bk o x :=
  ⟨h.bel.trans (ho.from_ (by have := h.lt; omega)), (ho.oth tb (Array.getElem?_eq_some_iff.1 h.ch).1 (by have := h.lt; omega)).trans h.ch, h.tk.below h.lb (ho.from_ (by have := h.lt; omega)), h.mg.onl ho (by have := h.lt; omega), hm, h.lb, h.lt⟩
theorem PaS.ong (h : PaS w w' tb g q X S N S2 N2 bk o x) (ho : Onl g w' w'') (hm : MkS w'' g S' N') : PaS w w'' tb g q X S' N' S2 N2 bk o x :=
  ⟨h.bel.trans (ho.from_ (by have := h.lt; omega)), (ho.oth tb (Array.getElem?_eq_some_iff.1 h.ch).1 (by have := h.lt; omega)).trans h.ch, h.tk.below h.lb (ho.from_ (by have := h.lt; omega)), hm, h.mq.onl ho (by have := h.lt; omega), h.lb, h.lt⟩
end
theorem chB_self (x : ChV) : chB x x = true := chB_iff.2 rfl
set_option maxRecDepth 100000 in
set_option maxHeartbeats 16000000 in
theorem apart_walk (time : Int) (A : Option Addr) (n c : Nat) (fs : Nat → TkV) (w : World) (h1 : 0 ≤ time ∧ time ≤ 255) (h : TksP w w.heap.size A n c fs) :
    Calls Try.prog 5 #[.int .u8 time, .slice A n c] w fun e w' => e = .returned (.bool true) ∧ Below w.heap.size w w' := by
  have c1 : IntKind.i64.wrap time = time := IntWalk.i64_in _ (by omega)
  obtain ⟨t1, ht1⟩ : ∃ t, time.tmod 30 = t := ⟨_, rfl⟩
  have hb1 : 0 ≤ t1 ∧ t1 ≤ 29 := by rw [← ht1, Int.tmod_eq_emod_of_nonneg h1.1]; omega
  have c2 : IntKind.i64.wrap t1 = t1 := IntWalk.i64_in _ (by omega)
  obtain ⟨TT, hTT⟩ : ∃ t, 1 + t1 = t := ⟨_, rfl⟩
  have c3 : IntKind.i64.wrap (1 + t1) = TT := by rw [hTT]; exact IntWalk.i64_in _ (by omega)
  have hT1 : 1 ≤ TT := by omega
  have hT2 : TT ≤ 30 := by omega
  have hcap := h.cap
  have hmax := h.max
  simp only [maxLen] at hmax
  have HC := Lib.hid (fun (x : World) (hx : Below w.heap.size w x) (h0 : 0 < n) => show ∃ b off, A = some ⟨b, off, none⟩ ∧ b < w.heap.size ∧ ∀ i, i < n → TkC x b (off + i * 12) (fs i) from by
    obtain ⟨b, off, e, hb, hh⟩ := h.cells h0
    exact ⟨b, off, e, hb, fun i hi => (hh i hi).below hb hx⟩)
  have HTA := Lib.hid (table_any TT w)
  have HMY : Hid (mayS true (tabX TT) 1 = true) := Lib.hid (by unfold mayS; rw [tab_sends ⟨hT1, by omega⟩, tab_size]; rfl)
  have HXT : Hid ((tabX TT).time = TT) := Lib.hid rfl
  clear h h1 hb1 hTT
  obtain ⟨X, hX⟩ : ∃ X, tabX TT = X := ⟨_, rfl⟩
  rw [hX] at HTA HMY HXT
  clear hX
  have HLV := Lib.hid (fun w => live29_any w)
  have HCX : Hid ((Try.prog.info? 29).map (·.size) = some (chA X).toList.length) := Lib.hid info_chan
  have HCC : Hid ((Try.prog.info? 29).map (·.size) = some (chA X).size) := Lib.hid info_chan
  have HLD : Hid (∀ (w' : World) {k : Nat}, ChAt w' k X → w'.rangeAt k 0 (chA X).toList) := Lib.hid (fun w' k h j v hv => by rw [cell_of_row _ _ _ _ _ _ h, Nat.zero_add]; simpa using hv)
  have H1X := Lib.hid (chA_one X)
  have HE0 : Hid ((chA c0X).size = (chA X).size) := Lib.hid rfl
  go_enter Try.func5, Try.ntmps5
  go_upto_region 2 with (first
    | (go_at_call 21; refine (HTA.out).mono ?_; rintro e w1 ⟨rfl, b1⟩; have HB1 := Lib.hid b1; have HZ1 : Hid ((w1.alloc (.cells (chA c0X) 29)).heap[w1.heap.size]? = some (.cells (chA c0X) 29 (0, 0))) := Lib.hid (heap_alloc_new w1 _); clear b1)
    | (refine wpList_store_row rfl _ (.tmp 5) (.tmp 17) rfl w1.heap.size _ rfl rfl _ _ HZ1.out HCC.out HE0.out H1X.out ?_))
  have HY1 : Hid (ChAt ((w1.alloc (.cells (chA c0X) 29)).setRow w1.heap.size (chA X)) w1.heap.size X) := Lib.hid (setRow_heap _ _ _ _ _ (0, 0) HZ1.out)
  have HB2 : Hid (Below w.heap.size w ((w1.alloc (.cells (chA c0X) 29)).setRow w1.heap.size (chA X))) := Lib.hid (below_setRow (HB1.out.alloc HB1.out.size _) HB1.out.size _)
  have HTB := Lib.hid HB1.out.size
  clear HZ1 HB1 HTA
  change Code.wp _ _ _ _ ((w1.alloc (.cells (chA c0X) 29)).setRow w1.heap.size (chA X))
  generalize (w1.alloc (.cells (chA c0X) 29)).setRow w1.heap.size (chA X) = w2 at *
  generalize w1.heap.size = tb at *
  go_wp2_with (go_at_call 14; refine (pnew_any w2).mono ?_; rintro e w3 ⟨g, hg, rfl, h3, b3⟩; have HM3 := Lib.hid (show MkS w3 g none 0 from h3); have HB3 := Lib.hid (kF b3 HB2.out); have HY3 := Lib.hid (HY1.out.below b3); have HG := Lib.hid (show tb < g from Nat.lt_of_lt_of_le (Array.getElem?_eq_some_iff.1 HY1.out).1 hg); clear h3 b3 hg)
  clear HY1 HB2 c1 c2 c3 ht1
  go_loopw [7, 8, 9] (fun t7 t8 t9 wr => ∃ (j : Nat) (now last N : Int) (S : Option (ChV × Int)), j ≤ 80 ∧ t7 = .int .i64 now ∧ t8 = .int .i64 last ∧ t9 = .int .i64 j ∧ Hid (0 ≤ now ∧ now ≤ 7 * (j : Int)) ∧ Hid (0 ≤ N ∧ N ≤ (j : Int)) ∧ Hid ((S = none ∧ last = -1) ∨ (S = some (X, last) ∧ 0 ≤ last ∧ last ≤ now)) ∧ Hid (MkS wr g S N) ∧ Hid (ChAt wr tb X) ∧ Hid (Below w.heap.size w wr)) (fun _ _ t9 _ => 100 - (intOf t9).toNat)
  case atStart => exact ⟨0, 0, -1, 0, none, by omega, rfl, rfl, rfl, Lib.hid (by omega), Lib.hid (by omega), Lib.hid (.inl ⟨rfl, rfl⟩), HM3, HY3, HB3⟩
  case round =>
    clear HM3 HB3 HY3
    obtain ⟨j, now, last, N, S, hj, rfl, rfl, rfl, HN, HNN, HS, HM, HY, HB⟩ := hrel
    by_cases hlt : j < n ∧ j < 80
    · obtain ⟨hjn, hj80⟩ := hlt
      have hjI : (j : Int) < (n : Int) := by omega
      have hj8I : (j : Int) < 80 := by omega
      obtain ⟨bk, off, rfl, hbk, hcs⟩ := HC.out wr HB.out (by omega)
      have htk := hcs j hjn
      have hyr := htk.ry
      have hy0 := htk.y
      have HTK := Lib.hid htk
      have hn0 := HN.out
      obtain ⟨r1, hr1⟩ : ∃ t, (fs j).y.tmod 8 = t := ⟨_, rfl⟩
      have hrb : 0 ≤ r1 ∧ r1 ≤ 7 := by rw [← hr1, Int.tmod_eq_emod_of_nonneg hyr.1]; omega
      have d1 : IntKind.i64.wrap (fs j).y = (fs j).y := IntWalk.i64_in _ (by omega)
      have d2 : IntKind.i64.wrap r1 = r1 := IntWalk.i64_in _ (by omega)
      obtain ⟨now2, hnow2⟩ : ∃ t, now + r1 = t := ⟨_, rfl⟩
      have d3 : IntKind.i64.wrap (now + r1) = now2 := by rw [hnow2]; exact IntWalk.i64_in _ (by omega)
      have HN2 := Lib.hid (show 0 ≤ now2 ∧ now2 ≤ 7 * ((j : Int) + 1) ∧ now ≤ now2 by omega)
      clear hcs htk hyr hn0 hrb hnow2
      have HFK := Lib.hid (forkS_any HM.out)
      go_upto_region 9 with (go_at_call 22; refine (HFK.out).mono ?_; rintro e w4 ⟨q, hq, rfl, h4, b4⟩; have HQ := Lib.hid (Nat.lt_of_lt_of_le HM.out.lt hq); have Hw4 := Lib.hid (show PaS w w4 tb g q X S N S N bk (off + j * 12) (fs j) from ⟨kF b4 HB.out, HY.out.below b4, HTK.out.below hbk (b4.mono HB.out.size), HM.out.below b4, h4, hbk, HTB.out, HG.out, HQ.out⟩); clear h4 b4 hq)
      clear HFK hy0 hr1 d1 d2 d3
      obtain ⟨ONV, hON⟩ : ∃ t, (fs j).on = t := ⟨_, rfl⟩
      have HONV := Lib.hid hON
      clear hON
      have HOK : Hid (okT S now2) := Lib.hid (fun p hp => by
        rcases HS.out with ⟨h1, _⟩ | ⟨h1, h2, h3⟩
        · rw [h1] at hp; cases hp
        · rw [h1] at hp; cases hp; exact ⟨h2, Int.le_trans h3 HN2.out.2.2⟩)
      have HP1 := Lib.hid (fun (x : World) (hx : PaS w x tb g q X S N S N bk (off + j * 12) (fs j)) => pstepS (l := tkL (fs j) 1) now2 ONV X hx.mq (hx.tk.byt (Nat.lt_of_lt_of_le hx.lb hx.bel.size) (by omega)) (by have := HN2.out; omega) HOK.out (by have := HNN.out; omega))
      have Hd4 := Lib.hid (Hw4.out.below (kD w4))
      refine wp_region_last (fun w' => ∃ S1 N1 S2 N2, PaS w w' tb g q X S1 N1 S2 N2 bk (off + j * 12) (fs j)) 14 (by kernel_rfl) (⟨_, _, _, _, Hd4.out⟩) (fun hHeld => ?_)
      refine wpAnyL_take (i := 0) (v := .pointer (some ⟨q, 0, none⟩)) rfl (by kernel_rfl) (by kernel_rfl) (by kernel_rfl) (by kernel_rfl) (by kernel_rfl) (fun _ _ _ h => h) (Or.inl ⟨by rfl, ?_⟩) (by assumption) ?_
      · intro wq hSw; (try dsimp only at hSw); first | (go_simp; done) | (go_simp; with_reducible rfl) | with_reducible rfl
      go_simp
      refine wpAnyL_take (i := 1) (v := .int .i64 now2) rfl (by kernel_rfl) (by kernel_rfl) (by kernel_rfl) (by kernel_rfl) (by kernel_rfl) (fun _ _ _ h => h) (Or.inl ⟨by rfl, ?_⟩) (by assumption) ?_
      · intro wq hSw; (try dsimp only at hSw); first | (go_simp; done) | (go_simp; with_reducible rfl) | with_reducible rfl
      go_simp
      refine wpAnyL_take (i := 2) (v := .slice (some ⟨bk, off, none⟩) n c) rfl (by kernel_rfl) (by kernel_rfl) (by kernel_rfl) (by kernel_rfl) (by kernel_rfl) (fun _ _ _ h => h) (Or.inl ⟨by rfl, ?_⟩) (by assumption) ?_
      · intro wq hSw; (try dsimp only at hSw); first | (go_simp; done) | (go_simp; with_reducible rfl) | with_reducible rfl
      go_simp
      refine wpAnyL_take (i := 3) (v := .int .i64 (j : Int)) rfl (by kernel_rfl) (by kernel_rfl) (by kernel_rfl) (by kernel_rfl) (by kernel_rfl) (fun _ _ _ h => h) (Or.inl ⟨by rfl, ?_⟩) (by assumption) ?_
      · intro wq hSw; (try dsimp only at hSw); first | (go_simp; done) | (go_simp; with_reducible rfl) | with_reducible rfl
      go_simp
      refine wpAnyL_take (i := 4) (v := .pointer (some ⟨bk, off + j * 12, none⟩)) rfl (by kernel_rfl) (by kernel_rfl) (by kernel_rfl) (by kernel_rfl) (by kernel_rfl) (fun _ _ _ h => h) (Or.inl ⟨by rfl, ?_⟩) (by assumption) ?_
      · intro wq hSw; (try dsimp only at hSw); first | (go_simp; done) | (go_simp; with_reducible rfl) | with_reducible rfl
      go_simp
      refine wpAnyL_take (i := 5) (v := .pointer (some ⟨bk, off + j * 12 + 1, none⟩)) rfl (by kernel_rfl) (by kernel_rfl) (by kernel_rfl) (by kernel_rfl) (by kernel_rfl) (fun _ _ _ h => h) (Or.inl ⟨by rfl, ?_⟩) (by assumption) ?_
      · intro wq hSw; (try dsimp only at hSw); first | (go_simp; done) | (go_simp; with_reducible rfl) | with_reducible rfl
      go_simp
      refine wpAnyL_take (i := 6) (v := .bool ONV) rfl (by kernel_rfl) (by kernel_rfl) (by kernel_rfl) (by kernel_rfl) (by kernel_rfl) (fun _ _ _ h => h) (Or.inl ⟨by rfl, ?_⟩) (by assumption) ?_
      · intro wq hSw; (try dsimp only at hSw); obtain ⟨_, _, _, _, hSx⟩ := hSw; have c1 := hSx.tk.on; rw [HONV.out] at c1; first | (go_simp; done) | (go_simp; with_reducible rfl) | with_reducible rfl
      go_simp
      refine wpAnyL_take (i := 7) rfl (by kernel_rfl) (by kernel_rfl) (by kernel_rfl) (by kernel_rfl) (by kernel_rfl) (fun _ _ _ h => h) (yieldsIf_load_mid (by kernel_rfl) _ (.tmp 5) rfl tb 0 rfl _ _ (fun w' h' => by obtain ⟨_, _, _, _, hSx⟩ := h'; exact HLD.out w' hSx.ch) Try.underlying29 rfl HCX.out) (by assumption) ?_
      (try go_simp)
      (try simp only [Array.toArray_toList])
      refine wpAnyL_take (i := 8) (v := .slice (some ⟨bk, off, none⟩) n c) rfl (by kernel_rfl) (by kernel_rfl) (by kernel_rfl) (by kernel_rfl) (by kernel_rfl) (fun _ _ _ h => h) (Or.inl ⟨by rfl, ?_⟩) (by assumption) ?_
      · intro wq hSw; (try dsimp only at hSw); first | (go_simp; done) | (go_simp; with_reducible rfl) | with_reducible rfl
      go_simp
      refine wpAnyL_take (i := 9) (v := .int .i64 (j : Int)) rfl (by kernel_rfl) (by kernel_rfl) (by kernel_rfl) (by kernel_rfl) (by kernel_rfl) (fun _ _ _ h => h) (Or.inl ⟨by rfl, ?_⟩) (by assumption) ?_
      · intro wq hSw; (try dsimp only at hSw); first | (go_simp; done) | (go_simp; with_reducible rfl) | with_reducible rfl
      go_simp
      refine wpAnyL_take (i := 10) (v := .pointer (some ⟨bk, off + j * 12, none⟩)) rfl (by kernel_rfl) (by kernel_rfl) (by kernel_rfl) (by kernel_rfl) (by kernel_rfl) (fun _ _ _ h => h) (Or.inl ⟨by rfl, ?_⟩) (by assumption) ?_
      · intro wq hSw; (try dsimp only at hSw); first | (go_simp; done) | (go_simp; with_reducible rfl) | with_reducible rfl
      go_simp
      refine wpAnyL_take (i := 11) (v := .pointer (some ⟨bk, off + j * 12 + 3, none⟩)) rfl (by kernel_rfl) (by kernel_rfl) (by kernel_rfl) (by kernel_rfl) (by kernel_rfl) (fun _ _ _ h => h) (Or.inl ⟨by rfl, ?_⟩) (by assumption) ?_
      · intro wq hSw; (try dsimp only at hSw); first | (go_simp; done) | (go_simp; with_reducible rfl) | with_reducible rfl
      go_simp
      refine wpAnyL_take (i := 12) (v := .slice (some ⟨bk, off + j * 12 + 3, none⟩) 1 8) rfl (by kernel_rfl) (by kernel_rfl) (by kernel_rfl) (by kernel_rfl) (by kernel_rfl) (fun _ _ _ h => h) (Or.inl ⟨by rfl, ?_⟩) (by assumption) ?_
      · intro wq hSw; (try dsimp only at hSw); first | (go_simp; done) | (go_simp; with_reducible rfl) | with_reducible rfl
      go_simp
      refine wpAnyL_ready (rs := [13]) (by kernel_rfl) (by simp) ?_
      refine (AllReadyL.cons rfl (fun K hK => ?_) AllReadyL.nil)
      go_simp
      go_wp2_with fail
      refine (HP1.out _ Hd4.out).mono ?_
      rintro e w5 ⟨F1, rfl, hf1, hm1, ho1⟩
      have Hw5 := Lib.hid (Hd4.out.onq ho1 hm1)
      have HF1 := Lib.hid hf1
      clear hf1 hm1 ho1
      refine hK.out _ _ ?_ (fun hHeld => ?_)
      · (try dsimp only); exact ⟨_, _, _, _, Hw5.out⟩
      clear hK K
      refine wpAnyL_ready (rs := [14]) (by kernel_rfl) (by simp) ?_
      refine AllReadyL.last rfl (fun K hK => ?_)
      go_simp
      refine hK.out _ _ ?_
      clear hK K
      refine wpAnyL_done (by kernel_rfl) ?_ _
      clear hHeld
      go_upto_region 10 with fail
      have Hd5 := Lib.hid (Hw5.out.below (kD w5))
      have HFd := Lib.hid (HF1.out.below (kD w5))
      have HG4 := Lib.hid (Hd4.out.mg.lt)
      have HP2 := Lib.hid (fun (x : World) {S2 : Option (ChV × Int)} {N2 : Int} (hx : PaS w x tb g q X S N S2 N2 bk (off + j * 12) (fs j)) => pstepS (l := tkL (fs j) 1) now2 ONV X hx.mg (hx.tk.byt (Nat.lt_of_lt_of_le hx.lb hx.bel.size) (by omega)) (by have := HN2.out; omega) HOK.out (by have := HNN.out; omega))
      refine wp_region_last (fun w' => ∃ S1 N1 S2 N2, PaS w w' tb g q X S1 N1 S2 N2 bk (off + j * 12) (fs j)) 14 (by kernel_rfl) (⟨_, _, _, _, Hd5.out⟩) (fun hHeld => ?_)
      refine wpAnyL_take (i := 0) (v := .pointer (some ⟨g, 0, none⟩)) rfl (by kernel_rfl) (by kernel_rfl) (by kernel_rfl) (by kernel_rfl) (by kernel_rfl) (fun _ _ _ h => h) (Or.inl ⟨by rfl, ?_⟩) (by assumption) ?_
      · intro wq hSw; (try dsimp only at hSw); first | (go_simp; done) | (go_simp; with_reducible rfl) | with_reducible rfl
      go_simp
      refine wpAnyL_take (i := 1) (v := .int .i64 now2) rfl (by kernel_rfl) (by kernel_rfl) (by kernel_rfl) (by kernel_rfl) (by kernel_rfl) (fun _ _ _ h => h) (Or.inl ⟨by rfl, ?_⟩) (by assumption) ?_
      · intro wq hSw; (try dsimp only at hSw); first | (go_simp; done) | (go_simp; with_reducible rfl) | with_reducible rfl
      go_simp
      refine wpAnyL_take (i := 2) (v := .slice (some ⟨bk, off, none⟩) n c) rfl (by kernel_rfl) (by kernel_rfl) (by kernel_rfl) (by kernel_rfl) (by kernel_rfl) (fun _ _ _ h => h) (Or.inl ⟨by rfl, ?_⟩) (by assumption) ?_
      · intro wq hSw; (try dsimp only at hSw); first | (go_simp; done) | (go_simp; with_reducible rfl) | with_reducible rfl
      go_simp
      refine wpAnyL_take (i := 3) (v := .int .i64 (j : Int)) rfl (by kernel_rfl) (by kernel_rfl) (by kernel_rfl) (by kernel_rfl) (by kernel_rfl) (fun _ _ _ h => h) (Or.inl ⟨by rfl, ?_⟩) (by assumption) ?_
      · intro wq hSw; (try dsimp only at hSw); first | (go_simp; done) | (go_simp; with_reducible rfl) | with_reducible rfl
      go_simp
      refine wpAnyL_take (i := 4) (v := .pointer (some ⟨bk, off + j * 12, none⟩)) rfl (by kernel_rfl) (by kernel_rfl) (by kernel_rfl) (by kernel_rfl) (by kernel_rfl) (fun _ _ _ h => h) (Or.inl ⟨by rfl, ?_⟩) (by assumption) ?_
      · intro wq hSw; (try dsimp only at hSw); first | (go_simp; done) | (go_simp; with_reducible rfl) | with_reducible rfl
      go_simp
      refine wpAnyL_take (i := 5) (v := .pointer (some ⟨bk, off + j * 12 + 1, none⟩)) rfl (by kernel_rfl) (by kernel_rfl) (by kernel_rfl) (by kernel_rfl) (by kernel_rfl) (fun _ _ _ h => h) (Or.inl ⟨by rfl, ?_⟩) (by assumption) ?_
      · intro wq hSw; (try dsimp only at hSw); first | (go_simp; done) | (go_simp; with_reducible rfl) | with_reducible rfl
      go_simp
      refine wpAnyL_take (i := 6) (v := .bool ONV) rfl (by kernel_rfl) (by kernel_rfl) (by kernel_rfl) (by kernel_rfl) (by kernel_rfl) (fun _ _ _ h => h) (Or.inl ⟨by rfl, ?_⟩) (by assumption) ?_
      · intro wq hSw; (try dsimp only at hSw); obtain ⟨_, _, _, _, hSx⟩ := hSw; have c1 := hSx.tk.on; rw [HONV.out] at c1; first | (go_simp; done) | (go_simp; with_reducible rfl) | with_reducible rfl
      go_simp
      refine wpAnyL_take (i := 7) rfl (by kernel_rfl) (by kernel_rfl) (by kernel_rfl) (by kernel_rfl) (by kernel_rfl) (fun _ _ _ h => h) (yieldsIf_load_mid (by kernel_rfl) _ (.tmp 5) rfl tb 0 rfl _ _ (fun w' h' => by obtain ⟨_, _, _, _, hSx⟩ := h'; exact HLD.out w' hSx.ch) Try.underlying29 rfl HCX.out) (by assumption) ?_
      (try go_simp)
      (try simp only [Array.toArray_toList])
      refine wpAnyL_take (i := 8) (v := .slice (some ⟨bk, off, none⟩) n c) rfl (by kernel_rfl) (by kernel_rfl) (by kernel_rfl) (by kernel_rfl) (by kernel_rfl) (fun _ _ _ h => h) (Or.inl ⟨by rfl, ?_⟩) (by assumption) ?_
      · intro wq hSw; (try dsimp only at hSw); first | (go_simp; done) | (go_simp; with_reducible rfl) | with_reducible rfl
      go_simp
      refine wpAnyL_take (i := 9) (v := .int .i64 (j : Int)) rfl (by kernel_rfl) (by kernel_rfl) (by kernel_rfl) (by kernel_rfl) (by kernel_rfl) (fun _ _ _ h => h) (Or.inl ⟨by rfl, ?_⟩) (by assumption) ?_
      · intro wq hSw; (try dsimp only at hSw); first | (go_simp; done) | (go_simp; with_reducible rfl) | with_reducible rfl
      go_simp
      refine wpAnyL_take (i := 10) (v := .pointer (some ⟨bk, off + j * 12, none⟩)) rfl (by kernel_rfl) (by kernel_rfl) (by kernel_rfl) (by kernel_rfl) (by kernel_rfl) (fun _ _ _ h => h) (Or.inl ⟨by rfl, ?_⟩) (by assumption) ?_
      · intro wq hSw; (try dsimp only at hSw); first | (go_simp; done) | (go_simp; with_reducible rfl) | with_reducible rfl
      go_simp
      refine wpAnyL_take (i := 11) (v := .pointer (some ⟨bk, off + j * 12 + 3, none⟩)) rfl (by kernel_rfl) (by kernel_rfl) (by kernel_rfl) (by kernel_rfl) (by kernel_rfl) (fun _ _ _ h => h) (Or.inl ⟨by rfl, ?_⟩) (by assumption) ?_
      · intro wq hSw; (try dsimp only at hSw); first | (go_simp; done) | (go_simp; with_reducible rfl) | with_reducible rfl
      go_simp
      refine wpAnyL_take (i := 12) (v := .slice (some ⟨bk, off + j * 12 + 3, none⟩) 1 8) rfl (by kernel_rfl) (by kernel_rfl) (by kernel_rfl) (by kernel_rfl) (by kernel_rfl) (fun _ _ _ h => h) (Or.inl ⟨by rfl, ?_⟩) (by assumption) ?_
      · intro wq hSw; (try dsimp only at hSw); first | (go_simp; done) | (go_simp; with_reducible rfl) | with_reducible rfl
      go_simp
      refine wpAnyL_ready (rs := [13]) (by kernel_rfl) (by simp) ?_
      refine (AllReadyL.cons rfl (fun K hK => ?_) AllReadyL.nil)
      go_simp
      go_wp2_with fail
      refine (HP2.out _ Hd5.out).mono ?_
      rintro e w6 ⟨F2, rfl, hf2, hm2, ho2⟩
      have Hw6 := Lib.hid (Hd5.out.ong ho2 hm2)
      have HF2 := Lib.hid hf2
      have HFe := Lib.hid (HFd.out.onl ho2 HG4.out)
      clear hf2 hm2 ho2
      refine hK.out _ _ ?_ (fun hHeld => ?_)
      · (try dsimp only); exact ⟨_, _, _, _, Hw6.out⟩
      clear hK K
      refine wpAnyL_ready (rs := [14]) (by kernel_rfl) (by simp) ?_
      refine AllReadyL.last rfl (fun K hK => ?_)
      go_simp
      refine hK.out _ _ ?_
      clear hK K
      refine wpAnyL_done (by kernel_rfl) ?_ _
      clear hHeld
      go_upto_region 13 with (go_at_call 16; refine (same_any _ _ _ _ _ _ _ _ _ _ HFe.out HF2.out).mono ?_; rintro e w7 ⟨rfl, b7⟩; have Hw7 := Lib.hid (Hw6.out.below b7); have HF7 := Lib.hid (HF2.out.below b7); clear b7)
      have con := Hw7.out.tk.on
      rw [HONV.out] at con
      clear HP1 HP2 Hw4 Hw5 Hd4 Hd5 HF1 HFd HFe HG4
      cases ONV with
      | false =>
        have e1 : stepS S now2 false X 1 = none := rfl
        have e2 : sentS S now2 false X 1 = false := rfl
        have HMg : Hid (MkS w7 g none N) := Lib.hid (by have := Hw7.out.mg; rw [e1, e2] at this; exact this)
        have HF9 := HF7.out
        rw [e2] at HF9
        obtain rfl : F2 = _ := HF9
        clear e1 e2 HF7 HF2
        go_wp2_with fail
        exact ⟨⟨j + 1, now2, -1, N, none, by omega, rfl, rfl, by go_num, Lib.hid (by have := HN2.out; omega), Lib.hid (by have := HNN.out; omega), Lib.hid (.inl ⟨rfl, rfl⟩), HMg, Lib.hid Hw7.out.ch, Lib.hid Hw7.out.bel⟩, by simp [intOf]; omega⟩
      | true =>
        have htm := Hw7.out.ch.cells.2.1
        rw [HXT.out] at htm
        have HMX := HMY.out
        rcases HS.out with ⟨hS, hl⟩ | ⟨hS, hl0, hl1⟩
        · subst hl
          have e1 : stepS S now2 true X 1 = some (X, now2) := by rw [hS]; exact (if_pos HMX).trans (if_pos rfl)
          have e2 : sentS S now2 true X 1 = true := by rw [hS]; unfold sentS; rw [HMX]; rfl
          have HMg : Hid (MkS w7 g (some (X, now2)) (N + 1)) := Lib.hid (by have := Hw7.out.mg; rw [e1, e2] at this; exact this)
          have HF9 := HF7.out
          rw [e2] at HF9
          obtain ⟨qq, _, rfl, _⟩ := HF9
          clear e1 e2 HF7 HF2 hS HMX
          go_wp2_with fail
          exact ⟨⟨j + 1, now2, now2, (N + 1), (some (X, now2)), by omega, rfl, rfl, by go_num, Lib.hid (by have := HN2.out; omega), Lib.hid (by have := HNN.out; omega), Lib.hid (.inr ⟨rfl, by have := HN2.out; omega, Int.le_refl _⟩), HMg, Lib.hid Hw7.out.ch, Lib.hid Hw7.out.bel⟩, by simp [intOf]; omega⟩
        · have hw : IntKind.i64.wrap (now2 - last) = now2 - last := IntWalk.i64_in _ (by have := HN2.out; omega)
          have hlast : ¬ last < 0 := by omega
          by_cases hd : TT ≤ now2 - last
          · have hdu : dueS S now2 X = true := by rw [hS]; simp only [dueS]; rw [HXT.out, decide_eq_true hd]; simp
            have e1 : stepS S now2 true X 1 = some (X, now2) := (if_pos HMX).trans (if_pos hdu)
            have e2 : sentS S now2 true X 1 = true := by unfold sentS; rw [HMX, hdu]; rfl
            have HMg : Hid (MkS w7 g (some (X, now2)) (N + 1)) := Lib.hid (by have := Hw7.out.mg; rw [e1, e2] at this; exact this)
            have HF9 := HF7.out
            rw [e2] at HF9
            obtain ⟨qq, _, rfl, _⟩ := HF9
            have hd2 : ¬ now2 - last < TT := by omega
            clear e1 e2 HF7 HF2 hS HMX hdu
            go_wp2_with fail
            exact ⟨⟨j + 1, now2, now2, (N + 1), (some (X, now2)), by omega, rfl, rfl, by go_num, Lib.hid (by have := HN2.out; omega), Lib.hid (by have := HNN.out; omega), Lib.hid (.inr ⟨rfl, by have := HN2.out; omega, Int.le_refl _⟩), HMg, Lib.hid Hw7.out.ch, Lib.hid Hw7.out.bel⟩, by simp [intOf]; omega⟩
          · have hdu : dueS S now2 X = false := by rw [hS]; simp only [dueS]; rw [HXT.out, chB_self, decide_eq_false hd]; rfl
            have e1 : stepS S now2 true X 1 = S := (if_pos HMX).trans (if_neg (by rw [hdu]; simp))
            have e2 : sentS S now2 true X 1 = false := by unfold sentS; rw [HMX, hdu]; rfl
            have HMg : Hid (MkS w7 g S N) := Lib.hid (by have := Hw7.out.mg; rw [e1, e2] at this; exact this)
            have HF9 := HF7.out
            rw [e2] at HF9
            obtain rfl : F2 = _ := HF9
            have hd2 : now2 - last < TT := by omega
            have HSS := Lib.hid hS
            clear e1 e2 HF7 HF2 hS HMX hdu
            go_wp2_with fail
            exact ⟨⟨j + 1, now2, last, N, S, by omega, rfl, rfl, by go_num, Lib.hid (by have := HN2.out; omega), Lib.hid (by have := HNN.out; omega), Lib.hid (.inr ⟨HSS.out, hl0, Int.le_trans hl1 HN2.out.2.2⟩), HMg, Lib.hid Hw7.out.ch, Lib.hid Hw7.out.bel⟩, by simp [intOf]; omega⟩
    · have HB9 := Lib.hid HB.out
      by_cases hjn : j < n
      · have hjI : (j : Int) < (n : Int) := by omega
        have hj8I : ¬ (j : Int) < 80 := by omega
        go_wp2_with (go_at_call 20; refine (HLV.out _).mono ?_; rintro e w9 ⟨rfl, b9⟩; have HB10 := Lib.hid (kF b9 HB9.out); clear b9)
        go_ret
        exact ⟨rfl, HB10.out⟩
      · have hjI : ¬ (j : Int) < (n : Int) := by omega
        go_wp2_with (go_at_call 20; refine (HLV.out _).mono ?_; rintro e w9 ⟨rfl, b9⟩; have HB10 := Lib.hid (kF b9 HB9.out); clear b9)
        go_ret
        exact ⟨rfl, HB10.out⟩
end Go.Proofs.Ytllaajkpobpeiaa
