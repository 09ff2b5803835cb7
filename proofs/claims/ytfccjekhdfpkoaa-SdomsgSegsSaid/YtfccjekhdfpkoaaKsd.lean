/- SdomsgSegs: the walk. -/
import Derived.Deep.CutBlock
import Derived.Deep.QuietTactic
import Derived.Test.YtfccjekhdfpkoaaKsb
import Derived.Test.YtfccjekhdfpkoaaKsc
import Derived.Test.YtfccjekhdfpkoaaKv
namespace Go.Proofs.Ytfccjekhdfpkoaa
open Go.RowKit
set_option linter.unusedSimpArgs false
set_option linter.unusedVariables false
set_option maxHeartbeats 4000000
/-- What stands beside: the line and the key that came in, the two lines that were made, the bytes. -/
structure SL (w : World) (b : List Int) (ki ks : Int) (g1 g2 : Nat) (L : List Int) (A : Option Addr) (n c : Nat) (l : List Int) (x : World) : Prop where
  hl : LnAt x w.heap.size b
  hk : x.heap[w.heap.size + 1]? = some (.cells #[.int .i64 ki, .int .i64 ks] 24 (0, 0))
  h1 : LnAt x g1 L
  h2 : LnAt x g2 L
  hB : Byt x w.heap.size A n c l
  hg : w.heap.size + 2 ≤ g1 ∧ g1 < g2 ∧ g2 < x.heap.size
  hb : Below w.heap.size w x
theorem SL.below {w : World} {b : List Int} {ki ks : Int} {g1 g2 : Nat} {L : List Int} {A : Option Addr} {n c : Nat} {l : List Int} {x y : World} (h : SL w b ki ks g1 g2 L A n c l x) (hy : Below x.heap.size x y) : SL w b ki ks g1 g2 L A n c l y :=
  have h1 := h.hg
  ⟨(hy.block _ (by omega)).trans h.hl, (hy.block _ (by omega)).trans h.hk, (hy.block _ (by omega)).trans h.h1, (hy.block _ (by omega)).trans h.h2, h.hB.below (hy.mono h.hb.size), ⟨h1.1, h1.2.1, Nat.lt_of_lt_of_le h1.2.2 hy.size⟩, h.hb.trans (hy.mono h.hb.size)⟩
theorem sl_start {w x : World} {LV : Array Value} {b : List Int} {ki ks : Int} (hx : (w.alloc (.cells LV 30)).alloc (.cells #[.int .i64 ki, .int .i64 ks] 24) = x) (hL : LV = lnA b) : LnAt x w.heap.size b ∧ x.heap[w.heap.size + 1]? = some (.cells #[.int .i64 ki, .int .i64 ks] 24 (0, 0)) ∧ x.heap.size = w.heap.size + 2 ∧ Below w.heap.size w x := by
  subst hx hL
  refine ⟨LnAt.alloc (heap_alloc_new w _) _, ?_, by simp, ((Below.refl _ _).alloc (Nat.le_refl _) _).alloc (by simp) _⟩
  have := heap_alloc_new (w.alloc (.cells (lnA b) 30)) (.cells #[.int .i64 ki, .int .i64 ks] 24); simpa using this
theorem seg_byte {seq : Int} {last : Bool} {l : List Int} (hs : 1 ≤ seq ∧ seq ≤ 127) (hl : ∀ x ∈ l, 0 ≤ x ∧ x ≤ 255) : Byte8 ((seq + bitN last 128) :: l) := byte8_of (fun x hx => by
  rcases List.mem_cons.1 hx with rfl | hx
  · cases last <;> simp [bitN] <;> omega
  · exact hl x hx)
theorem rest_take (x : Int) : ∀ l : List Int, l.length ≤ 7 → (restL (x :: l)).take l.length = l
  | [], _ => rfl
  | [_], _ => rfl
  | [_, _], _ => rfl
  | [_, _, _], _ => rfl
  | [_, _, _, _], _ => rfl
  | [_, _, _, _, _], _ => rfl
  | [_, _, _, _, _, _], _ => rfl
  | [_, _, _, _, _, _, _], _ => rfl
  | _ :: _ :: _ :: _ :: _ :: _ :: _ :: _ :: _, h => by simp at h
theorem conv_anyK {w : World} {B n c : Nat} {A : Option Addr} {l : List Int} (h : Byt w B A n c l) : (convert 39 9 (.slice A n c)).run Try.prog w = .ok (.string (strOfNums l)) w := run_str 39 5 Try.underlying39 Try.underlying5 h 9 Try.underlying9
theorem rest_get (b : List Int) {p : Nat} (h : p < 7) : (restL b).getD p 0 = b.getD (p + 1) 0 := by
  have : p = 0 ∨ p = 1 ∨ p = 2 ∨ p = 3 ∨ p = 4 ∨ p = 5 ∨ p = 6 := by omega
  rcases this with rfl | rfl | rfl | rfl | rfl | rfl | rfl <;> rfl
def SegC (w : World) (seq : Int) (last : Bool) (A : Option Addr) (n c : Nat) (l L : List Int) (er : Int) : Prop :=
  (∀ y, Below w.heap.size w y → Calls Try.prog 11 #[.int .i64 seq, .bool last, .slice A n c] y fun e y' => e = .returned (.tuple #[.agg (lnA L), .int .i64 er]) ∧ Below y.heap.size y y') ∧
  (∀ y, Below w.heap.size w y → Calls Try.prog 12 #[.int .i64 seq, .bool last, .slice A n c] y fun e y' => e = .returned (.tuple #[.agg (lnA L), .int .i64 er]) ∧ Below y.heap.size y y')
theorem seg_both (seq : Int) (last : Bool) (A : Option Addr) (n c : Nat) (l : List Int) (w : World) (hB : Byt w w.heap.size A n c l) :
    (∃ er, ¬ er = 0 ∧ SegC w seq last A n c l [] er) ∨ ((1 ≤ seq ∧ seq ≤ 127) ∧ n ≤ 7 ∧ SegC w seq last A n c l ((seq + bitN last 128) :: l) 0) := by
  by_cases hok : (1 ≤ seq ∧ seq ≤ 127) ∧ n ≤ 7
  · exact .inr ⟨hok.1, hok.2, fun y hy => mseg_yes seq last A n c l y hok.1 hok.2 ((hB.below hy).more hy.size), fun y hy => rseg_yes seq last A n c l y hok.1 hok.2 ((hB.below hy).more hy.size)⟩
  · have hn : inB seq 1 127 = false ∨ 7 < n := by
      by_cases h1 : 1 ≤ seq ∧ seq ≤ 127
      · exact .inr (by omega)
      · exact .inl (by simp [inB]; omega)
    have hm : n ≤ maxLen := Nat.le_trans hB.cap hB.max
    exact .inl ⟨3, by decide, fun y _ => mseg_no seq last A n c y hn hm, fun y _ => rseg_no seq last A n c y hn hm⟩
set_option maxRecDepth 8000 in
theorem segs_all (seq : Int) (last : Bool) (A : Option Addr) (n c : Nat) (l b L : List Int) (er ki ks a : Int) (w : World) (hB : Byt w w.heap.size A n c l) (hb : Byte8 b) (hC : SegC w seq last A n c l L er) (hq : (¬ er = 0) ∨ (er = 0 ∧ (1 ≤ seq ∧ seq ≤ 127) ∧ n ≤ 7 ∧ L = (seq + bitN last 128) :: l)) :
    Calls Try.prog 5 #[.int .i64 seq, .bool last, .slice A n c, .agg (lnA b), .agg #[.int .i64 ki, .int .i64 ks], .int .i64 a] w fun e w' => e = .returned (.bool true) ∧ Below w.heap.size w w' := by
  have hab := fun y => abort_any ki ks a y
  have hrb := fun y => rabort_any ki ks a y
  generalize (putM (quitM ki ks a)).1 = Q at hab hrb
  have hcl : ∀ w : World, (Op.equalIn 10000 30 (.agg (lnA L)) (.agg (lnA L))).run Try.prog w = .ok true w := fun w => by
    have := run_eqL L L w
    rw [eqL_refl] at this
    exact this
  have hcq : ∀ w : World, (Op.equalIn 10000 30 (.agg (lnA Q)) (.agg (lnA Q))).run Try.prog w = .ok true w := fun w => by
    have := run_eqL Q Q w
    rw [eqL_refl] at this
    exact this
  have her : (er == er) = true := by simp
  have HBY := Lib.hid hB
  have HB8 := Lib.hid hb
  have HC := Lib.hid hC
  have HAB := Lib.hid hab
  have HRB := Lib.hid hrb
  have HH := Lib.hid hq
  clear hB hb hC hab hrb hq
  go_enter Try.func5, Try.ntmps5
  generalize hLV : lnA b = LV at *
  go_upto_region 1 with fail
  generalize hx0 : (w.alloc (.cells LV 30)).alloc (.cells #[.int .i64 ki, .int .i64 ks] 24) = x0 at *
  obtain ⟨q1, q2, q3, q4⟩ := sl_start hx0 hLV.symm
  have HQ1 := Lib.hid q1
  have HQ2 := Lib.hid q2
  have HQ3 := Lib.hid q3
  have HQ4 := Lib.hid q4
  clear q1 q2 q3 q4 hx0
  go_wp2_with fail
  refine (HC.out.1 _ HQ4.out).mono ?_
  rintro e w1 ⟨rfl, hb1⟩
  have hs1 : w.heap.size + 2 ≤ w1.heap.size := by have := hb1.size; rw [HQ3.out] at this; exact this
  have HZ1 := Lib.hid (ln_zero w1)
  have H11 : Hid (LnAt (_root_.Go.World.setRow (w1.alloc (.cells #[.int .u8 0, .int .u8 0, .int .u8 0, .int .u8 0, .int .u8 0, .int .u8 0, .int .u8 0, .int .u8 0] 30)) w1.heap.size (lnA L)) w1.heap.size L) := Lib.hid (setRow_heap _ _ _ _ _ _ HZ1.out)
  have H1L : Hid (LnAt (_root_.Go.World.setRow (w1.alloc (.cells #[.int .u8 0, .int .u8 0, .int .u8 0, .int .u8 0, .int .u8 0, .int .u8 0, .int .u8 0, .int .u8 0] 30)) w1.heap.size (lnA L)) w.heap.size b) := Lib.hid ((setRow_other _ _ _ _ (by omega)).trans (LnAt.alloc (HQ1.out.below hb1 (by rw [HQ3.out]; omega)) _))
  have H1K : Hid ((_root_.Go.World.setRow (w1.alloc (.cells #[.int .u8 0, .int .u8 0, .int .u8 0, .int .u8 0, .int .u8 0, .int .u8 0, .int .u8 0, .int .u8 0] 30)) w1.heap.size (lnA L)).heap[w.heap.size + 1]? = some (.cells #[.int .i64 ki, .int .i64 ks] 24 (0, 0))) := Lib.hid ((setRow_other _ _ _ _ (by omega)).trans ((heap_alloc_old _ _ (by omega)).trans ((hb1.block _ (by rw [HQ3.out]; omega)).trans HQ2.out)))
  have H1B : Hid (Below w.heap.size w (_root_.Go.World.setRow (w1.alloc (.cells #[.int .u8 0, .int .u8 0, .int .u8 0, .int .u8 0, .int .u8 0, .int .u8 0, .int .u8 0, .int .u8 0] 30)) w1.heap.size (lnA L))) := Lib.hid (below_setRow ((HQ4.out.trans (hb1.mono HQ4.out.size)).alloc (by omega) _) (by omega) _)
  have H1G : Hid (w.heap.size + 2 ≤ w1.heap.size ∧ w1.heap.size < (_root_.Go.World.setRow (w1.alloc (.cells #[.int .u8 0, .int .u8 0, .int .u8 0, .int .u8 0, .int .u8 0, .int .u8 0, .int .u8 0, .int .u8 0] 30)) w1.heap.size (lnA L)).heap.size) := Lib.hid ⟨hs1, by rw [size_setRow]; simp⟩
  clear hb1 hs1 HQ1 HQ2 HQ3 HQ4
  go_upto_region 2 with (refine wpList_store_row rfl 30 (.tmp 13) (.tmp 29) rfl w1.heap.size (lnA L) rfl rfl _ _ HZ1.out info_line rfl (ln_one _) ?_)
  clear HZ1
  generalize _root_.Go.World.setRow (w1.alloc (.cells #[.int .u8 0, .int .u8 0, .int .u8 0, .int .u8 0, .int .u8 0, .int .u8 0, .int .u8 0, .int .u8 0] 30)) w1.heap.size (lnA L) = x1 at *
  generalize w1.heap.size = g1 at *
  go_wp2_with fail
  refine (HC.out.2 _ H1B.out).mono ?_
  rintro e w2 ⟨rfl, hb2⟩
  have hs2 : x1.heap.size ≤ w2.heap.size := hb2.size
  have HZ2 := Lib.hid (ln_zero w2)
  have HS : Hid (SL w b ki ks g1 w2.heap.size L A n c l (_root_.Go.World.setRow (w2.alloc (.cells #[.int .u8 0, .int .u8 0, .int .u8 0, .int .u8 0, .int .u8 0, .int .u8 0, .int .u8 0, .int .u8 0] 30)) w2.heap.size (lnA L))) := Lib.hid (
    have h1 := H1G.out
    have hb3 : Below w.heap.size w (_root_.Go.World.setRow (w2.alloc (.cells #[.int .u8 0, .int .u8 0, .int .u8 0, .int .u8 0, .int .u8 0, .int .u8 0, .int .u8 0, .int .u8 0] 30)) w2.heap.size (lnA L)) := below_setRow ((H1B.out.trans (hb2.mono H1B.out.size)).alloc (by omega) _) (by omega) _
    ⟨(setRow_other _ _ _ _ (by omega)).trans (LnAt.alloc (H1L.out.below hb2 (by omega)) _), (setRow_other _ _ _ _ (by omega)).trans ((heap_alloc_old _ _ (by omega)).trans ((hb2.block _ (by omega)).trans H1K.out)), (setRow_other _ _ _ _ (by omega)).trans (LnAt.alloc (H11.out.below hb2 (by omega)) _), setRow_heap _ _ _ _ _ _ HZ2.out, HBY.out.below hb3, ⟨h1.1, by omega, by rw [size_setRow]; simp⟩, hb3⟩)
  clear hb2 hs2 H11 H1L H1K H1B H1G HBY
  go_upto_region 3 with (refine wpList_store_row rfl 30 (.tmp 15) (.tmp 36) rfl w2.heap.size (lnA L) rfl rfl _ _ HZ2.out info_line rfl (ln_one _) ?_)
  clear HZ2
  generalize _root_.Go.World.setRow (w2.alloc (.cells #[.int .u8 0, .int .u8 0, .int .u8 0, .int .u8 0, .int .u8 0, .int .u8 0, .int .u8 0, .int .u8 0] 30)) w2.heap.size (lnA L) = x2 at *
  generalize w2.heap.size = g2 at *
  have HKC : Hid (∀ y, SL w b ki ks g1 g2 L A n c l y → y.cell? ⟨w.heap.size + 1, 0, none⟩ = some (.int .i64 ki) ∧ y.cell? ⟨w.heap.size + 1, 1, none⟩ = some (.int .i64 ks)) := Lib.hid (fun y h => ⟨by rw [cell_of_row _ _ _ _ _ _ h.hk]; rfl, by rw [cell_of_row _ _ _ _ _ _ h.hk]; rfl⟩)
  refine wp_region_last (fun y => SL w b ki ks g1 g2 L A n c l y) 16 (by kernel_rfl) (HS.out.below ((Below.refl _ _).drew)) (fun hHeld => ?_)
  have HSd := Lib.hid hHeld
  clear HS
  refine wpAnyL_take (i := 0) (v := .agg (lnA L)) rfl (by kernel_rfl) (by kernel_rfl) (by kernel_rfl) (by kernel_rfl) (by kernel_rfl) (fun _ _ _ h => h) (Or.inl ⟨by rfl, ?_⟩) (by assumption) ?_
  · intro wq hSw
    exact run_load_row (x := .tmp 13) rfl rfl hSw.h1 rfl Try.underlying30 info_line
  try simp only [Act.put, List.getElem_toArray, List.getElem_cons_zero, List.getElem_cons_succ, List.setIfInBounds_toArray, List.set_cons_zero, List.set_cons_succ]
  refine wpAnyL_take (i := 1) (v := .agg (lnA L)) rfl (by kernel_rfl) (by kernel_rfl) (by kernel_rfl) (by kernel_rfl) (by kernel_rfl) (fun _ _ _ h => h) (Or.inl ⟨by rfl, ?_⟩) (by assumption) ?_
  · intro wq hSw
    exact run_load_row (x := .tmp 15) rfl rfl hSw.h2 rfl Try.underlying30 info_line
  try simp only [Act.put, List.getElem_toArray, List.getElem_cons_zero, List.getElem_cons_succ, List.setIfInBounds_toArray, List.set_cons_zero, List.set_cons_succ]
  refine wpAnyL_take (i := 2) (v := ?_) rfl (by kernel_rfl) (by kernel_rfl) (by kernel_rfl) (by kernel_rfl) (by kernel_rfl) (fun _ _ _ h => h) (Or.inl ⟨by rfl, ?_⟩) (by assumption) ?_
  rotate_left
  · intro wq hSw; (try dsimp only at hSw); obtain ⟨g1_, g2_⟩ := HKC.out wq hSw; first | (go_simp; done) | (go_simp; with_reducible rfl) | with_reducible rfl
  try simp only [Act.put, List.getElem_toArray, List.getElem_cons_zero, List.getElem_cons_succ, List.setIfInBounds_toArray, List.set_cons_zero, List.set_cons_succ]
  refine wpAnyL_take (i := 3) (v := ?_) rfl (by kernel_rfl) (by kernel_rfl) (by kernel_rfl) (by kernel_rfl) (by kernel_rfl) (fun _ _ _ h => h) (Or.inl ⟨by rfl, ?_⟩) (by assumption) ?_
  rotate_left
  · intro wq hSw; (try dsimp only at hSw); obtain ⟨g1_, g2_⟩ := HKC.out wq hSw; first | (go_simp; done) | (go_simp; with_reducible rfl) | with_reducible rfl
  try simp only [Act.put, List.getElem_toArray, List.getElem_cons_zero, List.getElem_cons_succ, List.setIfInBounds_toArray, List.set_cons_zero, List.set_cons_succ]
  refine wpAnyL_take (i := 4) (v := ?_) rfl (by kernel_rfl) (by kernel_rfl) (by kernel_rfl) (by kernel_rfl) (by kernel_rfl) (fun _ _ _ h => h) (Or.inl ⟨by rfl, ?_⟩) (by assumption) ?_
  rotate_left
  · intro wq hSw; (try dsimp only at hSw); obtain ⟨g1_, g2_⟩ := HKC.out wq hSw; first | (go_simp; done) | (go_simp; with_reducible rfl) | with_reducible rfl
  try simp only [Act.put, List.getElem_toArray, List.getElem_cons_zero, List.getElem_cons_succ, List.setIfInBounds_toArray, List.set_cons_zero, List.set_cons_succ]
  refine wpAnyL_take (i := 5) (v := ?_) rfl (by kernel_rfl) (by kernel_rfl) (by kernel_rfl) (by kernel_rfl) (by kernel_rfl) (fun _ _ _ h => h) (Or.inl ⟨by rfl, ?_⟩) (by assumption) ?_
  rotate_left
  · intro wq hSw; (try dsimp only at hSw); obtain ⟨g1_, g2_⟩ := HKC.out wq hSw; first | (go_simp; done) | (go_simp; with_reducible rfl) | with_reducible rfl
  try simp only [Act.put, List.getElem_toArray, List.getElem_cons_zero, List.getElem_cons_succ, List.setIfInBounds_toArray, List.set_cons_zero, List.set_cons_succ]
  refine wpAnyL_take (i := 6) (v := ?_) rfl (by kernel_rfl) (by kernel_rfl) (by kernel_rfl) (by kernel_rfl) (by kernel_rfl) (fun _ _ _ h => h) (Or.inl ⟨by rfl, ?_⟩) (by assumption) ?_
  rotate_left
  · intro wq hSw; (try dsimp only at hSw); obtain ⟨g1_, g2_⟩ := HKC.out wq hSw; first | (go_simp; done) | (go_simp; with_reducible rfl) | with_reducible rfl
  try simp only [Act.put, List.getElem_toArray, List.getElem_cons_zero, List.getElem_cons_succ, List.setIfInBounds_toArray, List.set_cons_zero, List.set_cons_succ]
  refine wpAnyL_take (i := 7) (v := ?_) rfl (by kernel_rfl) (by kernel_rfl) (by kernel_rfl) (by kernel_rfl) (by kernel_rfl) (fun _ _ _ h => h) (Or.inl ⟨by rfl, ?_⟩) (by assumption) ?_
  rotate_left
  · intro wq hSw; (try dsimp only at hSw); obtain ⟨g1_, g2_⟩ := HKC.out wq hSw; first | (go_simp; done) | (go_simp; with_reducible rfl) | with_reducible rfl
  try simp only [Act.put, List.getElem_toArray, List.getElem_cons_zero, List.getElem_cons_succ, List.setIfInBounds_toArray, List.set_cons_zero, List.set_cons_succ]
  refine wpAnyL_take (i := 8) (v := ?_) rfl (by kernel_rfl) (by kernel_rfl) (by kernel_rfl) (by kernel_rfl) (by kernel_rfl) (fun _ _ _ h => h) (Or.inl ⟨by rfl, ?_⟩) (by assumption) ?_
  rotate_left
  · intro wq hSw; (try dsimp only at hSw); obtain ⟨g1_, g2_⟩ := HKC.out wq hSw; first | (go_simp; done) | (go_simp; with_reducible rfl) | with_reducible rfl
  try simp only [Act.put, List.getElem_toArray, List.getElem_cons_zero, List.getElem_cons_succ, List.setIfInBounds_toArray, List.set_cons_zero, List.set_cons_succ]
  refine wpAnyL_take (i := 9) (v := ?_) rfl (by kernel_rfl) (by kernel_rfl) (by kernel_rfl) (by kernel_rfl) (by kernel_rfl) (fun _ _ _ h => h) (Or.inl ⟨by rfl, ?_⟩) (by assumption) ?_
  rotate_left
  · intro wq hSw; (try dsimp only at hSw); obtain ⟨g1_, g2_⟩ := HKC.out wq hSw; first | (go_simp; done) | (go_simp; with_reducible rfl) | with_reducible rfl
  try simp only [Act.put, List.getElem_toArray, List.getElem_cons_zero, List.getElem_cons_succ, List.setIfInBounds_toArray, List.set_cons_zero, List.set_cons_succ]
  refine wpAnyL_take (i := 10) (v := ?_) rfl (by kernel_rfl) (by kernel_rfl) (by kernel_rfl) (by kernel_rfl) (by kernel_rfl) (fun _ _ _ h => h) (Or.inl ⟨by rfl, ?_⟩) (by assumption) ?_
  rotate_left
  · intro wq hSw; (try dsimp only at hSw); obtain ⟨g1_, g2_⟩ := HKC.out wq hSw; first | (go_simp; done) | (go_simp; with_reducible rfl) | with_reducible rfl
  try simp only [Act.put, List.getElem_toArray, List.getElem_cons_zero, List.getElem_cons_succ, List.setIfInBounds_toArray, List.set_cons_zero, List.set_cons_succ]
  refine wpAnyL_take (i := 12) (v := ?_) rfl (by kernel_rfl) (by kernel_rfl) (by kernel_rfl) (by kernel_rfl) (by kernel_rfl) (fun _ _ _ h => h) (Or.inl ⟨by rfl, ?_⟩) (by assumption) ?_
  rotate_left
  · intro wq hSw; (try dsimp only at hSw); obtain ⟨g1_, g2_⟩ := HKC.out wq hSw; first | (go_simp; done) | (go_simp; with_reducible rfl) | with_reducible rfl
  try simp only [Act.put, List.getElem_toArray, List.getElem_cons_zero, List.getElem_cons_succ, List.setIfInBounds_toArray, List.set_cons_zero, List.set_cons_succ]
  refine wpAnyL_take (i := 13) (v := ?_) rfl (by kernel_rfl) (by kernel_rfl) (by kernel_rfl) (by kernel_rfl) (by kernel_rfl) (fun _ _ _ h => h) (Or.inl ⟨by rfl, ?_⟩) (by assumption) ?_
  rotate_left
  · intro wq hSw; (try dsimp only at hSw); obtain ⟨g1_, g2_⟩ := HKC.out wq hSw; first | (go_simp; done) | (go_simp; with_reducible rfl) | with_reducible rfl
  try simp only [Act.put, List.getElem_toArray, List.getElem_cons_zero, List.getElem_cons_succ, List.setIfInBounds_toArray, List.set_cons_zero, List.set_cons_succ]
  refine wpAnyL_ready (rs := [11]) (by kernel_rfl) (by simp) ?_
  refine (AllReadyL.cons rfl (fun K hK => ?_) AllReadyL.nil)
  go_simp
  go_wp2_with fail
  refine (HAB.out _).mono ?_
  rintro e w11 ⟨rfl, hy⟩
  have HSe := Lib.hid (HSd.out.below hy)
  clear hy HSd
  have HSd := HSe
  clear HSe
  refine hK.out _ _ HSd.out (fun hHeld => ?_)
  clear hK K
  refine wpAnyL_ready (rs := [14]) (by kernel_rfl) (by simp) ?_
  refine (AllReadyL.cons rfl (fun K hK => ?_) AllReadyL.nil)
  go_simp
  go_wp2_with fail
  refine (HRB.out _).mono ?_
  rintro e w14 ⟨rfl, hy⟩
  have HSe := Lib.hid (HSd.out.below hy)
  clear hy HSd
  have HSd := HSe
  clear HSe
  refine hK.out _ _ HSd.out (fun hHeld => ?_)
  clear hK K
  refine wpAnyL_take (i := 15) (v := ?_) rfl (by kernel_rfl) (by kernel_rfl) (by kernel_rfl) (by kernel_rfl) (by kernel_rfl) (fun _ _ _ h => h) (Or.inl ⟨by rfl, ?_⟩) (by assumption) ?_
  rotate_left
  · intro wq hSw; (try dsimp only at hSw); obtain ⟨g1_, g2_⟩ := HKC.out wq hSw; first | (go_simp; done) | (go_simp; with_reducible rfl) | with_reducible rfl
  try simp only [Act.put, List.getElem_toArray, List.getElem_cons_zero, List.getElem_cons_succ, List.setIfInBounds_toArray, List.set_cons_zero, List.set_cons_succ]
  refine wpAnyL_ready (rs := [16]) (by kernel_rfl) (by simp) ?_
  refine AllReadyL.last rfl (fun K hK => ?_)
  go_simp
  refine hK.out _ _ ?_
  clear hK K hHeld
  refine wpAnyL_done (by kernel_rfl) ?_ _
  have HS := HSd
  clear HSd HKC HAB HRB HC
  subst hLV
  rcases HH.out with h0 | ⟨h0, h1, h2, h3⟩
  · have e0 : (er == 0) = false := by simpa using h0
    clear HH h0
    go_wp2_with (refine wpList_load_row rfl 30 (.tmp 9) rfl w.heap.size rfl _ _ _ _ HS.out.hl Try.underlying30 rfl info_line ?_)
    refine (unseg_any b HB8.out _).mono ?_
    rintro e w5 ⟨AT, cT, rfl, hy5, hb5⟩
    have HS5 := Lib.hid (HS.out.below hb5)
    have HY5 := Lib.hid hy5
    clear hb5 hy5 HS
    have c0 := HS5.out.hl.cell 0 (by omega)
    have h00 := (HB8.out 0).1
    have h01 := (HB8.out 0).2
    generalize b.getD 0 0 = h at *
    have e1 : h.tmod 128 = h % 128 := Int.tmod_eq_emod_of_nonneg h00
    have e2 : IntKind.u8.wrap (h % 128) = h % 128 := IntWalk.u8_in _ (by omega)
    have e3 : IntKind.i64.wrap (h % 128) = h % 128 := IntWalk.i64_in _ (by omega)
    go_upto_region 12 with fail
    clear c0
    go_wp2_with fail
    clear e1 e2 e3 h00 h01 HB8
    go_loopw [23] (fun t wr => ∃ p : Nat, p ≤ 7 ∧ t = .int .i64 p ∧ Hid (SL w b ki ks g1 g2 L A n c l wr) ∧ Hid (Byt wr w5.heap.size AT 7 cT (restL b))) (fun t _ => 7 - (intOf t).toNat)
    case atStart => exact ⟨0, by omega, rfl, HS5, HY5⟩
    case round =>
      clear HS5 HY5
      obtain ⟨p, hp, rfl, HS6, HY6⟩ := hrel
      by_cases hlt : p < 7
      · obtain ⟨bT, oT, rfl, hbT, hcT⟩ := HY6.out.cells (by omega)
        have cb := hcT p hlt
        rw [rest_get b hlt] at cb
        have c1 := HS6.out.hl.cell (p + 1) (by omega)
        have hcap := HY6.out.cap
        have hmax := HY6.out.max
        simp only [maxLen] at hmax
        clear hcT hbT
        generalize b.getD (p + 1) 0 = v at cb c1
        go_upto_region 15 with fail
        go_quiet (fail)
        have HS7 := Lib.hid (HS6.out.below (below_drewN (Below.refl _ _) nq))
        have HY7 : Hid (Byt (wr.drewN nq) w5.heap.size (some ⟨bT, oT, none⟩) 7 cT (restL b)) := Lib.hid (HY6.out.drewN nq)
        clear cb c1 HS6 HY6
        go_wp2_with fail
        exact ⟨⟨p + 1, by omega, by go_num, HS7, HY7⟩, by simp [intOf]; omega⟩
      · go_wp2_with fail
        refine (live17_any _).mono ?_
        rintro e w7 ⟨rfl, hb7⟩
        have HB7 := Lib.hid (HS6.out.hb.trans (hb7.mono HS6.out.hb.size))
        clear hb7 HS6 HY6
        go_wp2_with fail
        go_ret
        exact ⟨rfl, HB7.out⟩
  · subst h0
    have hLn : l.length = n := HS.out.hB.len
    have hrt : (restL L).take n = l := by rw [h3, ← hLn]; exact rest_take _ l (by omega)
    have hBL : Byte8 L := by rw [h3]; exact seg_byte h1 HS.out.hB.rng
    have hu1 : L.getD 0 0 % 128 = seq := by
      rw [h3]; show (seq + bitN last 128) % 128 = seq
      cases last <;> simp only [bitN] <;> simp <;> omega
    have hu2 : decide (128 ≤ L.getD 0 0) = last := by
      rw [h3]; show decide (128 ≤ seq + bitN last 128) = last
      cases last <;> simp [bitN] <;> omega
    have HU := Lib.hid (fun y => unseg_any L hBL y)
    have HR := Lib.hid hrt
    have HU1 := Lib.hid hu1
    have HU2 := Lib.hid hu2
    clear h1 h3 hBL hLn HH hrt hu1 hu2
    go_wp2_with (refine wpList_load_row rfl 30 (.tmp 13) rfl g1 rfl _ _ _ _ HS.out.h1 Try.underlying30 rfl info_line ?_)
    refine (HU.out _).mono ?_
    rintro e w4 ⟨AU, cU, rfl, hy4, hb4⟩
    rw [HU1.out, HU2.out]
    have HS4 := Lib.hid (HS.out.below hb4)
    have hcap := hy4.cap
    have hmax := hy4.max
    have hyt := hy4.take h2
    have hnc : n ≤ cU := Nat.le_trans h2 hcap
    rw [HR.out] at hyt
    have HY4 := Lib.hid hyt
    simp only [maxLen] at hmax
    clear hb4 hy4 hyt HS HR HU1 HU2 HU
    generalize w4.heap.size = q at *
    obtain ⟨S, hS⟩ : ∃ S, strOfNums l = S := ⟨_, rfl⟩
    have HKC : Hid (∀ y, (SL w b ki ks g1 g2 L A n c l y ∧ Byt y q AU n cU l) → (convert 39 9 (.slice AU n cU)).run Try.prog y = .ok (.string S) y ∧ (convert 39 9 (.slice A n c)).run Try.prog y = .ok (.string S) y) := Lib.hid (fun y h => ⟨by rw [← hS]; exact conv_anyK h.2, by rw [← hS]; exact conv_anyK h.1.hB⟩)
    clear hS
    go_upto_region 7 with fail
    refine wp_region_last (fun y => SL w b ki ks g1 g2 L A n c l y ∧ Byt y q AU n cU l) 22 (by kernel_rfl) ⟨HS4.out.below ((Below.refl _ _).drew), HY4.out.below ((Below.refl _ _).drew)⟩ (fun hHeld => ?_)
    clear HS4 HY4
    refine wpAnyL_take (i := 0) (v := ?_) rfl (by kernel_rfl) (by kernel_rfl) (by kernel_rfl) (by kernel_rfl) (by kernel_rfl) (fun _ _ _ h => h) (Or.inl ⟨by rfl, ?_⟩) (by assumption) ?_
    rotate_left
    · intro wq hSw; (try dsimp only at hSw); obtain ⟨g1_, g2_⟩ := HKC.out wq hSw; first | (go_simp; done) | (go_simp; with_reducible rfl) | with_reducible rfl
    try simp only [Act.put, List.getElem_toArray, List.getElem_cons_zero, List.getElem_cons_succ, List.setIfInBounds_toArray, List.set_cons_zero, List.set_cons_succ]
    refine wpAnyL_take (i := 1) (v := ?_) rfl (by kernel_rfl) (by kernel_rfl) (by kernel_rfl) (by kernel_rfl) (by kernel_rfl) (fun _ _ _ h => h) (Or.inl ⟨by rfl, ?_⟩) (by assumption) ?_
    rotate_left
    · intro wq hSw; (try dsimp only at hSw); obtain ⟨g1_, g2_⟩ := HKC.out wq hSw; first | (go_simp; done) | (go_simp; with_reducible rfl) | with_reducible rfl
    try simp only [Act.put, List.getElem_toArray, List.getElem_cons_zero, List.getElem_cons_succ, List.setIfInBounds_toArray, List.set_cons_zero, List.set_cons_succ]
    refine wpAnyL_take (i := 2) (v := ?_) rfl (by kernel_rfl) (by kernel_rfl) (by kernel_rfl) (by kernel_rfl) (by kernel_rfl) (fun _ _ _ h => h) (Or.inl ⟨by rfl, ?_⟩) (by assumption) ?_
    rotate_left
    · intro wq hSw; (try dsimp only at hSw); obtain ⟨g1_, g2_⟩ := HKC.out wq hSw; first | (go_simp; done) | (go_simp; with_reducible rfl) | with_reducible rfl
    try simp only [Act.put, List.getElem_toArray, List.getElem_cons_zero, List.getElem_cons_succ, List.setIfInBounds_toArray, List.set_cons_zero, List.set_cons_succ]
    refine wpAnyL_take (i := 3) (v := ?_) rfl (by kernel_rfl) (by kernel_rfl) (by kernel_rfl) (by kernel_rfl) (by kernel_rfl) (fun _ _ _ h => h) (Or.inl ⟨by rfl, ?_⟩) (by assumption) ?_
    rotate_left
    · intro wq hSw; (try dsimp only at hSw); obtain ⟨g1_, g2_⟩ := HKC.out wq hSw; first | (go_simp; done) | (go_simp; with_reducible rfl) | with_reducible rfl
    try simp only [Act.put, List.getElem_toArray, List.getElem_cons_zero, List.getElem_cons_succ, List.setIfInBounds_toArray, List.set_cons_zero, List.set_cons_succ]
    refine wpAnyL_take (i := 4) (v := ?_) rfl (by kernel_rfl) (by kernel_rfl) (by kernel_rfl) (by kernel_rfl) (by kernel_rfl) (fun _ _ _ h => h) (Or.inl ⟨by rfl, ?_⟩) (by assumption) ?_
    rotate_left
    · intro wq hSw; (try dsimp only at hSw); obtain ⟨g1_, g2_⟩ := HKC.out wq hSw; first | (go_simp; done) | (go_simp; with_reducible rfl) | with_reducible rfl
    try simp only [Act.put, List.getElem_toArray, List.getElem_cons_zero, List.getElem_cons_succ, List.setIfInBounds_toArray, List.set_cons_zero, List.set_cons_succ]
    refine wpAnyL_take (i := 5) (v := ?_) rfl (by kernel_rfl) (by kernel_rfl) (by kernel_rfl) (by kernel_rfl) (by kernel_rfl) (fun _ _ _ h => h) (Or.inl ⟨by rfl, ?_⟩) (by assumption) ?_
    rotate_left
    · intro wq hSw; (try dsimp only at hSw); obtain ⟨g1_, g2_⟩ := HKC.out wq hSw; first | (go_simp; done) | (go_simp; with_reducible rfl) | with_reducible rfl
    try simp only [Act.put, List.getElem_toArray, List.getElem_cons_zero, List.getElem_cons_succ, List.setIfInBounds_toArray, List.set_cons_zero, List.set_cons_succ]
    refine wpAnyL_take (i := 6) (v := ?_) rfl (by kernel_rfl) (by kernel_rfl) (by kernel_rfl) (by kernel_rfl) (by kernel_rfl) (fun _ _ _ h => h) (Or.inl ⟨by rfl, ?_⟩) (by assumption) ?_
    rotate_left
    · intro wq hSw; (try dsimp only at hSw); obtain ⟨g1_, g2_⟩ := HKC.out wq hSw; first | (go_simp; done) | (go_simp; with_reducible rfl) | with_reducible rfl
    try simp only [Act.put, List.getElem_toArray, List.getElem_cons_zero, List.getElem_cons_succ, List.setIfInBounds_toArray, List.set_cons_zero, List.set_cons_succ]
    refine wpAnyL_take (i := 7) (v := ?_) rfl (by kernel_rfl) (by kernel_rfl) (by kernel_rfl) (by kernel_rfl) (by kernel_rfl) (fun _ _ _ h => h) (Or.inl ⟨by rfl, ?_⟩) (by assumption) ?_
    rotate_left
    · intro wq hSw; (try dsimp only at hSw); obtain ⟨g1_, g2_⟩ := HKC.out wq hSw; first | (go_simp; done) | (go_simp; with_reducible rfl) | with_reducible rfl
    try simp only [Act.put, List.getElem_toArray, List.getElem_cons_zero, List.getElem_cons_succ, List.setIfInBounds_toArray, List.set_cons_zero, List.set_cons_succ]
    refine wpAnyL_take (i := 8) (v := ?_) rfl (by kernel_rfl) (by kernel_rfl) (by kernel_rfl) (by kernel_rfl) (by kernel_rfl) (fun _ _ _ h => h) (Or.inl ⟨by rfl, ?_⟩) (by assumption) ?_
    rotate_left
    · intro wq hSw; (try dsimp only at hSw); obtain ⟨g1_, g2_⟩ := HKC.out wq hSw; first | (go_simp; done) | (go_simp; with_reducible rfl) | with_reducible rfl
    try simp only [Act.put, List.getElem_toArray, List.getElem_cons_zero, List.getElem_cons_succ, List.setIfInBounds_toArray, List.set_cons_zero, List.set_cons_succ]
    refine wpAnyL_take (i := 9) (v := ?_) rfl (by kernel_rfl) (by kernel_rfl) (by kernel_rfl) (by kernel_rfl) (by kernel_rfl) (fun _ _ _ h => h) (Or.inl ⟨by rfl, ?_⟩) (by assumption) ?_
    rotate_left
    · intro wq hSw; (try dsimp only at hSw); obtain ⟨g1_, g2_⟩ := HKC.out wq hSw; first | (go_simp; done) | (go_simp; with_reducible rfl) | with_reducible rfl
    try simp only [Act.put, List.getElem_toArray, List.getElem_cons_zero, List.getElem_cons_succ, List.setIfInBounds_toArray, List.set_cons_zero, List.set_cons_succ]
    refine wpAnyL_take (i := 10) (v := ?_) rfl (by kernel_rfl) (by kernel_rfl) (by kernel_rfl) (by kernel_rfl) (by kernel_rfl) (fun _ _ _ h => h) (Or.inl ⟨by rfl, ?_⟩) (by assumption) ?_
    rotate_left
    · intro wq hSw; (try dsimp only at hSw); obtain ⟨g1_, g2_⟩ := HKC.out wq hSw; first | (go_simp; done) | (go_simp; with_reducible rfl) | with_reducible rfl
    try simp only [Act.put, List.getElem_toArray, List.getElem_cons_zero, List.getElem_cons_succ, List.setIfInBounds_toArray, List.set_cons_zero, List.set_cons_succ]
    refine wpAnyL_take (i := 11) (v := ?_) rfl (by kernel_rfl) (by kernel_rfl) (by kernel_rfl) (by kernel_rfl) (by kernel_rfl) (fun _ _ _ h => h) (Or.inl ⟨by rfl, ?_⟩) (by assumption) ?_
    rotate_left
    · intro wq hSw; (try dsimp only at hSw); obtain ⟨g1_, g2_⟩ := HKC.out wq hSw; first | (go_simp; done) | (go_simp; with_reducible rfl) | with_reducible rfl
    try simp only [Act.put, List.getElem_toArray, List.getElem_cons_zero, List.getElem_cons_succ, List.setIfInBounds_toArray, List.set_cons_zero, List.set_cons_succ]
    refine wpAnyL_take (i := 12) (v := ?_) rfl (by kernel_rfl) (by kernel_rfl) (by kernel_rfl) (by kernel_rfl) (by kernel_rfl) (fun _ _ _ h => h) (Or.inl ⟨by rfl, ?_⟩) (by assumption) ?_
    rotate_left
    · intro wq hSw; (try dsimp only at hSw); obtain ⟨g1_, g2_⟩ := HKC.out wq hSw; first | (go_simp; done) | (go_simp; with_reducible rfl) | with_reducible rfl
    try simp only [Act.put, List.getElem_toArray, List.getElem_cons_zero, List.getElem_cons_succ, List.setIfInBounds_toArray, List.set_cons_zero, List.set_cons_succ]
    refine wpAnyL_take (i := 13) (v := ?_) rfl (by kernel_rfl) (by kernel_rfl) (by kernel_rfl) (by kernel_rfl) (by kernel_rfl) (fun _ _ _ h => h) (Or.inl ⟨by rfl, ?_⟩) (by assumption) ?_
    rotate_left
    · intro wq hSw; (try dsimp only at hSw); obtain ⟨g1_, g2_⟩ := HKC.out wq hSw; first | (go_simp; done) | (go_simp; with_reducible rfl) | with_reducible rfl
    try simp only [Act.put, List.getElem_toArray, List.getElem_cons_zero, List.getElem_cons_succ, List.setIfInBounds_toArray, List.set_cons_zero, List.set_cons_succ]
    refine wpAnyL_take (i := 14) (v := ?_) rfl (by kernel_rfl) (by kernel_rfl) (by kernel_rfl) (by kernel_rfl) (by kernel_rfl) (fun _ _ _ h => h) (Or.inl ⟨by rfl, ?_⟩) (by assumption) ?_
    rotate_left
    · intro wq hSw; (try dsimp only at hSw); obtain ⟨g1_, g2_⟩ := HKC.out wq hSw; first | (go_simp; done) | (go_simp; with_reducible rfl) | with_reducible rfl
    try simp only [Act.put, List.getElem_toArray, List.getElem_cons_zero, List.getElem_cons_succ, List.setIfInBounds_toArray, List.set_cons_zero, List.set_cons_succ]
    refine wpAnyL_take (i := 15) (v := ?_) rfl (by kernel_rfl) (by kernel_rfl) (by kernel_rfl) (by kernel_rfl) (by kernel_rfl) (fun _ _ _ h => h) (Or.inl ⟨by rfl, ?_⟩) (by assumption) ?_
    rotate_left
    · intro wq hSw; (try dsimp only at hSw); obtain ⟨g1_, g2_⟩ := HKC.out wq hSw; first | (go_simp; done) | (go_simp; with_reducible rfl) | with_reducible rfl
    try simp only [Act.put, List.getElem_toArray, List.getElem_cons_zero, List.getElem_cons_succ, List.setIfInBounds_toArray, List.set_cons_zero, List.set_cons_succ]
    refine wpAnyL_take (i := 16) (v := ?_) rfl (by kernel_rfl) (by kernel_rfl) (by kernel_rfl) (by kernel_rfl) (by kernel_rfl) (fun _ _ _ h => h) (Or.inl ⟨by rfl, ?_⟩) (by assumption) ?_
    rotate_left
    · intro wq hSw; (try dsimp only at hSw); obtain ⟨g1_, g2_⟩ := HKC.out wq hSw; first | (go_simp; done) | (go_simp; with_reducible rfl) | with_reducible rfl
    try simp only [Act.put, List.getElem_toArray, List.getElem_cons_zero, List.getElem_cons_succ, List.setIfInBounds_toArray, List.set_cons_zero, List.set_cons_succ]
    refine wpAnyL_take (i := 17) (v := ?_) rfl (by kernel_rfl) (by kernel_rfl) (by kernel_rfl) (by kernel_rfl) (by kernel_rfl) (fun _ _ _ h => h) (Or.inl ⟨by rfl, ?_⟩) (by assumption) ?_
    rotate_left
    · intro wq hSw; (try dsimp only at hSw); obtain ⟨g1_, g2_⟩ := HKC.out wq hSw; first | (go_simp; done) | (go_simp; with_reducible rfl) | with_reducible rfl
    try simp only [Act.put, List.getElem_toArray, List.getElem_cons_zero, List.getElem_cons_succ, List.setIfInBounds_toArray, List.set_cons_zero, List.set_cons_succ]
    refine wpAnyL_take (i := 18) (v := ?_) rfl (by kernel_rfl) (by kernel_rfl) (by kernel_rfl) (by kernel_rfl) (by kernel_rfl) (fun _ _ _ h => h) (Or.inl ⟨by rfl, ?_⟩) (by assumption) ?_
    rotate_left
    · intro wq hSw; (try dsimp only at hSw); obtain ⟨g1_, g2_⟩ := HKC.out wq hSw; first | (go_simp; done) | (go_simp; with_reducible rfl) | with_reducible rfl
    try simp only [Act.put, List.getElem_toArray, List.getElem_cons_zero, List.getElem_cons_succ, List.setIfInBounds_toArray, List.set_cons_zero, List.set_cons_succ]
    refine wpAnyL_take (i := 19) (v := ?_) rfl (by kernel_rfl) (by kernel_rfl) (by kernel_rfl) (by kernel_rfl) (by kernel_rfl) (fun _ _ _ h => h) (Or.inl ⟨by rfl, ?_⟩) (by assumption) ?_
    rotate_left
    · intro wq hSw; (try dsimp only at hSw); obtain ⟨g1_, g2_⟩ := HKC.out wq hSw; first | (go_simp; done) | (go_simp; with_reducible rfl) | with_reducible rfl
    try simp only [Act.put, List.getElem_toArray, List.getElem_cons_zero, List.getElem_cons_succ, List.setIfInBounds_toArray, List.set_cons_zero, List.set_cons_succ]
    refine wpAnyL_take (i := 20) (v := ?_) rfl (by kernel_rfl) (by kernel_rfl) (by kernel_rfl) (by kernel_rfl) (by kernel_rfl) (fun _ _ _ h => h) (Or.inl ⟨by rfl, ?_⟩) (by assumption) ?_
    rotate_left
    · intro wq hSw; (try dsimp only at hSw); obtain ⟨g1_, g2_⟩ := HKC.out wq hSw; first | (go_simp; done) | (go_simp; with_reducible rfl) | with_reducible rfl
    try simp only [Act.put, List.getElem_toArray, List.getElem_cons_zero, List.getElem_cons_succ, List.setIfInBounds_toArray, List.set_cons_zero, List.set_cons_succ]
    refine wpAnyL_take (i := 21) (v := ?_) rfl (by kernel_rfl) (by kernel_rfl) (by kernel_rfl) (by kernel_rfl) (by kernel_rfl) (fun _ _ _ h => h) (Or.inl ⟨by rfl, ?_⟩) (by assumption) ?_
    rotate_left
    · intro wq hSw; (try dsimp only at hSw); obtain ⟨g1_, g2_⟩ := HKC.out wq hSw; first | (go_simp; done) | (go_simp; with_reducible rfl) | with_reducible rfl
    try simp only [Act.put, List.getElem_toArray, List.getElem_cons_zero, List.getElem_cons_succ, List.setIfInBounds_toArray, List.set_cons_zero, List.set_cons_succ]
    have HSw := Lib.hid hHeld
    refine wpAnyL_ready (rs := [22]) (by kernel_rfl) (by simp) ?_
    refine AllReadyL.last rfl (fun K hK => ?_)
    go_simp
    refine hK.out _ _ ?_
    clear hK K
    refine wpAnyL_done (by kernel_rfl) ?_ _
    have HS := Lib.hid HSw.out.1
    clear HSw HKC
    go_wp2_with (refine wpList_load_row rfl 30 (.tmp 9) rfl w.heap.size rfl _ _ _ _ HS.out.hl Try.underlying30 rfl info_line ?_)
    refine (unseg_any b HB8.out _).mono ?_
    rintro e w5 ⟨AT, cT, rfl, hy5, hb5⟩
    have HS5 := Lib.hid (HS.out.below hb5)
    have HY5 := Lib.hid hy5
    clear hb5 hy5 HS
    have c0 := HS5.out.hl.cell 0 (by omega)
    have h00 := (HB8.out 0).1
    have h01 := (HB8.out 0).2
    generalize b.getD 0 0 = h at *
    have e1 : h.tmod 128 = h % 128 := Int.tmod_eq_emod_of_nonneg h00
    have e2 : IntKind.u8.wrap (h % 128) = h % 128 := IntWalk.u8_in _ (by omega)
    have e3 : IntKind.i64.wrap (h % 128) = h % 128 := IntWalk.i64_in _ (by omega)
    go_upto_region 12 with fail
    clear c0
    go_wp2_with fail
    clear e1 e2 e3 h00 h01 HB8
    go_loopw [23] (fun t wr => ∃ p : Nat, p ≤ 7 ∧ t = .int .i64 p ∧ Hid (SL w b ki ks g1 g2 L A n c l wr) ∧ Hid (Byt wr w5.heap.size AT 7 cT (restL b))) (fun t _ => 7 - (intOf t).toNat)
    case atStart => exact ⟨0, by omega, rfl, HS5, HY5⟩
    case round =>
      clear HS5 HY5
      obtain ⟨p, hp, rfl, HS6, HY6⟩ := hrel
      by_cases hlt : p < 7
      · obtain ⟨bT, oT, rfl, hbT, hcT⟩ := HY6.out.cells (by omega)
        have cb := hcT p hlt
        rw [rest_get b hlt] at cb
        have c1 := HS6.out.hl.cell (p + 1) (by omega)
        have hcap := HY6.out.cap
        have hmax := HY6.out.max
        simp only [maxLen] at hmax
        clear hcT hbT
        generalize b.getD (p + 1) 0 = v at cb c1
        go_upto_region 15 with fail
        go_quiet (fail)
        have HS7 := Lib.hid (HS6.out.below (below_drewN (Below.refl _ _) nq))
        have HY7 : Hid (Byt (wr.drewN nq) w5.heap.size (some ⟨bT, oT, none⟩) 7 cT (restL b)) := Lib.hid (HY6.out.drewN nq)
        clear cb c1 HS6 HY6
        go_wp2_with fail
        exact ⟨⟨p + 1, by omega, by go_num, HS7, HY7⟩, by simp [intOf]; omega⟩
      · go_wp2_with fail
        refine (live17_any _).mono ?_
        rintro e w7 ⟨rfl, hb7⟩
        have HB7 := Lib.hid (HS6.out.hb.trans (hb7.mono HS6.out.hb.size))
        clear hb7 HS6 HY6
        go_wp2_with fail
        go_ret
        exact ⟨rfl, HB7.out⟩
end Go.Proofs.Ytfccjekhdfpkoaa
