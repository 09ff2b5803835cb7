/- What head answers, of all; lines as they lie in memory; what is copied into a block. -/
import Derived.Test.YtoamgdcjmkkmfaaKg
import Derived.Test.YtoamgdcjmkkmfaaKd
namespace Go.Proofs.Ytoamgdcjmkkmfaa
open Go.RowKit
set_option linter.unusedSimpArgs false
set_option linter.unusedVariables false
set_option maxHeartbeats 4000000
theorem info_msg : (Try.prog.info? 30).map (·.size) = some 21 := by kernel_rfl
theorem beg_rng {fa : Bool} {sz n : Int} (hn : fa = true → 1 ≤ n ∧ n ≤ 4) : 0 ≤ begunE fa sz n ∧ begunE fa sz n ≤ 15 := by
  unfold begunE bitN
  cases fa
  · by_cases h : sz = -1 <;> simp [h]
  · have := hn rfl
    simp
    omega
theorem head_1 (c ki ks : Int) (tg la fa su : Bool) (sz n d0 d1 d2 d3 d4 d5 d6 co sq bl sp cr : Int) (hk : canE c fa n sq bl sp = true) (hc : c = 1) (w : World) :
    Calls Try.prog 37 #[.agg #[.int .i64 c, .int .i64 ki, .int .i64 ks, .bool tg, .bool la, .bool fa, .bool su, .int .i64 sz, .int .i64 n, .int .u8 d0, .int .u8 d1, .int .u8 d2, .int .u8 d3, .int .u8 d4, .int .u8 d5, .int .u8 d6, .int .i64 co, .int .i64 sq, .int .i64 bl, .int .i64 sp, .int .i64 cr]] w fun e w' => e = .returned (.int .i64 (headE c tg la fa su sz n sp)) ∧ Below w.heap.size w w' := by
  subst hc
  have hn : fa = true → 1 ≤ n ∧ n ≤ 4 := by
    intro h
    subst h
    simpa [canE, inB] using hk
  obtain ⟨q, hq, h0, h1⟩ : ∃ q, begunE fa sz n = q ∧ 0 ≤ q ∧ q ≤ 15 := ⟨_, rfl, (beg_rng hn).1, (beg_rng hn).2⟩
  have e1 : headE 1 tg la fa su sz n sp = 32 + q := by rw [← hq]; simp [headE]
  rw [e1]
  have hca := fun w => begun_any 1 ki ks tg la fa su sz n d0 d1 d2 d3 d4 d5 d6 co sq bl sp cr hn w
  rw [hq] at hca
  have HCA := Lib.hid hca
  clear hca hn hk hq e1
  have hm : MsAt (w.alloc (.cells #[.int .i64 1, .int .i64 ki, .int .i64 ks, .bool tg, .bool la, .bool fa, .bool su, .int .i64 sz, .int .i64 n, .int .u8 d0, .int .u8 d1, .int .u8 d2, .int .u8 d3, .int .u8 d4, .int .u8 d5, .int .u8 d6, .int .i64 co, .int .i64 sq, .int .i64 bl, .int .i64 sp, .int .i64 cr] 30)) w.heap.size 1 ki ks tg la fa su sz n d0 d1 d2 d3 d4 d5 d6 co sq bl sp cr := heap_alloc_new w _
  have HM := Lib.hid hm
  clear hm
  go_enter Try.func37, Try.ntmps37
  go_wp2_with (refine wpList_load_row rfl 30 (.tmp 1) rfl w.heap.size rfl _ _ _ _ HM.out Try.underlying30 rfl info_msg ?_)
  refine (HCA.out _).mono ?_
  rintro e w1 ⟨rfl, hb1⟩
  go_wp2_with fail
  go_ret
  refine ⟨?_, (((Below.refl _ _).alloc (Nat.le_refl _) _).trans (hb1.mono (by simp)))⟩
  apply ret_int
  first | (go_simp; unfold wrap64; omega) | (unfold wrap64; omega) | omega | trace_state
theorem head_10 (c ki ks : Int) (tg la fa su : Bool) (sz n d0 d1 d2 d3 d4 d5 d6 co sq bl sp cr : Int) (hk : canE c fa n sq bl sp = true) (hc : c = 10) (w : World) :
    Calls Try.prog 37 #[.agg #[.int .i64 c, .int .i64 ki, .int .i64 ks, .bool tg, .bool la, .bool fa, .bool su, .int .i64 sz, .int .i64 n, .int .u8 d0, .int .u8 d1, .int .u8 d2, .int .u8 d3, .int .u8 d4, .int .u8 d5, .int .u8 d6, .int .i64 co, .int .i64 sq, .int .i64 bl, .int .i64 sp, .int .i64 cr]] w fun e w' => e = .returned (.int .i64 (headE c tg la fa su sz n sp)) ∧ Below w.heap.size w w' := by
  subst hc
  have hn : fa = true → 1 ≤ n ∧ n ≤ 4 := by
    intro h
    subst h
    simpa [canE, inB] using hk
  obtain ⟨q, hq, h0, h1⟩ : ∃ q, begunE fa sz n = q ∧ 0 ≤ q ∧ q ≤ 15 := ⟨_, rfl, (beg_rng hn).1, (beg_rng hn).2⟩
  have e1 : headE 10 tg la fa su sz n sp = 64 + q := by rw [← hq]; simp [headE]
  rw [e1]
  have hca := fun w => begun_any 10 ki ks tg la fa su sz n d0 d1 d2 d3 d4 d5 d6 co sq bl sp cr hn w
  rw [hq] at hca
  have HCA := Lib.hid hca
  clear hca hn hk hq e1
  have hm : MsAt (w.alloc (.cells #[.int .i64 10, .int .i64 ki, .int .i64 ks, .bool tg, .bool la, .bool fa, .bool su, .int .i64 sz, .int .i64 n, .int .u8 d0, .int .u8 d1, .int .u8 d2, .int .u8 d3, .int .u8 d4, .int .u8 d5, .int .u8 d6, .int .i64 co, .int .i64 sq, .int .i64 bl, .int .i64 sp, .int .i64 cr] 30)) w.heap.size 10 ki ks tg la fa su sz n d0 d1 d2 d3 d4 d5 d6 co sq bl sp cr := heap_alloc_new w _
  have HM := Lib.hid hm
  clear hm
  go_enter Try.func37, Try.ntmps37
  go_wp2_with (refine wpList_load_row rfl 30 (.tmp 1) rfl w.heap.size rfl _ _ _ _ HM.out Try.underlying30 rfl info_msg ?_)
  refine (HCA.out _).mono ?_
  rintro e w1 ⟨rfl, hb1⟩
  go_wp2_with fail
  go_ret
  refine ⟨?_, (((Below.refl _ _).alloc (Nat.le_refl _) _).trans (hb1.mono (by simp)))⟩
  apply ret_int
  first | (go_simp; unfold wrap64; omega) | (unfold wrap64; omega) | omega | trace_state
theorem head_any (c ki ks : Int) (tg la fa su : Bool) (sz n d0 d1 d2 d3 d4 d5 d6 co sq bl sp cr : Int) (hk : canE c fa n sq bl sp = true) (hc : 1 ≤ c ∧ c ≤ 17) (w : World) :
    Calls Try.prog 37 #[.agg #[.int .i64 c, .int .i64 ki, .int .i64 ks, .bool tg, .bool la, .bool fa, .bool su, .int .i64 sz, .int .i64 n, .int .u8 d0, .int .u8 d1, .int .u8 d2, .int .u8 d3, .int .u8 d4, .int .u8 d5, .int .u8 d6, .int .i64 co, .int .i64 sq, .int .i64 bl, .int .i64 sp, .int .i64 cr]] w fun e w' => e = .returned (.int .i64 (headE c tg la fa su sz n sp)) ∧ Below w.heap.size w w' := by
  have : c = 1 ∨ c = 2 ∨ c = 3 ∨ c = 4 ∨ c = 5 ∨ c = 6 ∨ c = 7 ∨ c = 8 ∨ c = 9 ∨ c = 10 ∨ c = 11 ∨ c = 12 ∨ c = 13 ∨ c = 14 ∨ c = 15 ∨ c = 16 ∨ c = 17 := by omega
  rcases this with h | h | h | h | h | h | h | h | h | h | h | h | h | h | h | h | h
  · exact head_1 c ki ks tg la fa su sz n d0 d1 d2 d3 d4 d5 d6 co sq bl sp cr hk h w
  · exact head_2 c ki ks tg la fa su sz n d0 d1 d2 d3 d4 d5 d6 co sq bl sp cr hk h w
  · exact head_3 c ki ks tg la fa su sz n d0 d1 d2 d3 d4 d5 d6 co sq bl sp cr hk h w
  · exact head_4 c ki ks tg la fa su sz n d0 d1 d2 d3 d4 d5 d6 co sq bl sp cr hk h w
  · exact head_5 c ki ks tg la fa su sz n d0 d1 d2 d3 d4 d5 d6 co sq bl sp cr hk h w
  · exact head_6 c ki ks tg la fa su sz n d0 d1 d2 d3 d4 d5 d6 co sq bl sp cr hk h w
  · exact head_7 c ki ks tg la fa su sz n d0 d1 d2 d3 d4 d5 d6 co sq bl sp cr hk h w
  · exact head_8 c ki ks tg la fa su sz n d0 d1 d2 d3 d4 d5 d6 co sq bl sp cr hk h w
  · exact head_9 c ki ks tg la fa su sz n d0 d1 d2 d3 d4 d5 d6 co sq bl sp cr hk h w
  · exact head_10 c ki ks tg la fa su sz n d0 d1 d2 d3 d4 d5 d6 co sq bl sp cr hk h w
  · exact head_11 c ki ks tg la fa su sz n d0 d1 d2 d3 d4 d5 d6 co sq bl sp cr hk h w
  · exact head_12 c ki ks tg la fa su sz n d0 d1 d2 d3 d4 d5 d6 co sq bl sp cr hk h w
  · exact head_13 c ki ks tg la fa su sz n d0 d1 d2 d3 d4 d5 d6 co sq bl sp cr hk h w
  · exact head_14 c ki ks tg la fa su sz n d0 d1 d2 d3 d4 d5 d6 co sq bl sp cr hk h w
  · exact head_15 c ki ks tg la fa su sz n d0 d1 d2 d3 d4 d5 d6 co sq bl sp cr hk h w
  · exact head_16 c ki ks tg la fa su sz n d0 d1 d2 d3 d4 d5 d6 co sq bl sp cr hk h w
  · exact head_17 c ki ks tg la fa su sz n d0 d1 d2 d3 d4 d5 d6 co sq bl sp cr hk h w
theorem rest_any {W w : World} {g : Nat} {A0 : Option Addr} {s : Int × List Int} (c ki ks : Int) (tg la fa su : Bool) (sz n d0 d1 d2 d3 d4 d5 d6 co sq bl sp cr : Int) (hk : canE c fa n sq bl sp = true) (hd : ∀ x ∈ dL d0 d1 d2 d3 d4 d5 d6, 0 ≤ x ∧ x ≤ 255) (hc : 1 ≤ c ∧ c ≤ 17) (h : WS W g A0 s.1 s.2 w) (hn : s.2.length ≤ 20) :
    Calls Try.prog 38 #[.pointer (some ⟨g, 0, none⟩), .agg #[.int .i64 c, .int .i64 ki, .int .i64 ks, .bool tg, .bool la, .bool fa, .bool su, .int .i64 sz, .int .i64 n, .int .u8 d0, .int .u8 d1, .int .u8 d2, .int .u8 d3, .int .u8 d4, .int .u8 d5, .int .u8 d6, .int .i64 co, .int .i64 sq, .int .i64 bl, .int .i64 sp, .int .i64 cr]] w fun e w' => (∃ v, e = .returned v) ∧ WS W g A0 (restE c ki ks fa sz n (dL d0 d1 d2 d3 d4 d5 d6) co sq bl cr s).1 (restE c ki ks fa sz n (dL d0 d1 d2 d3 d4 d5 d6) co sq bl cr s).2 w' := by
  have : c = 1 ∨ c = 2 ∨ c = 3 ∨ c = 4 ∨ c = 5 ∨ c = 6 ∨ c = 7 ∨ c = 8 ∨ c = 9 ∨ c = 10 ∨ c = 11 ∨ c = 12 ∨ c = 13 ∨ c = 14 ∨ c = 15 ∨ c = 16 ∨ c = 17 := by omega
  rcases this with e | e | e | e | e | e | e | e | e | e | e | e | e | e | e | e | e
  · have hq : fa = true → 1 ≤ n ∧ n ≤ 4 := by
      intro h
      subst h e
      simpa [canE, inB] using hk
    by_cases hf : fa = true
    · have hq := hq hf
      have : n = 1 ∨ n = 2 ∨ n = 3 ∨ n = 4 := by omega
      rcases this with hh | hh | hh | hh
      · exact rest_1_fast1 c ki ks tg la fa su sz n d0 d1 d2 d3 d4 d5 d6 co sq bl sp cr hk hd e hf hh h hn
      · exact rest_1_fast2 c ki ks tg la fa su sz n d0 d1 d2 d3 d4 d5 d6 co sq bl sp cr hk hd e hf hh h hn
      · exact rest_1_fast3 c ki ks tg la fa su sz n d0 d1 d2 d3 d4 d5 d6 co sq bl sp cr hk hd e hf hh h hn
      · exact rest_1_fast4 c ki ks tg la fa su sz n d0 d1 d2 d3 d4 d5 d6 co sq bl sp cr hk hd e hf hh h hn
    · exact rest_1_size c ki ks tg la fa su sz n d0 d1 d2 d3 d4 d5 d6 co sq bl sp cr hk hd e (by simpa using hf) h hn
  · have hq : 0 ≤ n ∧ n ≤ 7 := by
      subst e
      simpa [canE, inB] using hk
    have : n = 0 ∨ n = 1 ∨ n = 2 ∨ n = 3 ∨ n = 4 ∨ n = 5 ∨ n = 6 ∨ n = 7 := by omega
    rcases this with hh | hh | hh | hh | hh | hh | hh | hh
    · exact rest_2_0 c ki ks tg la fa su sz n d0 d1 d2 d3 d4 d5 d6 co sq bl sp cr hk hd e hh h hn
    · exact rest_2_1 c ki ks tg la fa su sz n d0 d1 d2 d3 d4 d5 d6 co sq bl sp cr hk hd e hh h hn
    · exact rest_2_2 c ki ks tg la fa su sz n d0 d1 d2 d3 d4 d5 d6 co sq bl sp cr hk hd e hh h hn
    · exact rest_2_3 c ki ks tg la fa su sz n d0 d1 d2 d3 d4 d5 d6 co sq bl sp cr hk hd e hh h hn
    · exact rest_2_4 c ki ks tg la fa su sz n d0 d1 d2 d3 d4 d5 d6 co sq bl sp cr hk hd e hh h hn
    · exact rest_2_5 c ki ks tg la fa su sz n d0 d1 d2 d3 d4 d5 d6 co sq bl sp cr hk hd e hh h hn
    · exact rest_2_6 c ki ks tg la fa su sz n d0 d1 d2 d3 d4 d5 d6 co sq bl sp cr hk hd e hh h hn
    · exact rest_2_7 c ki ks tg la fa su sz n d0 d1 d2 d3 d4 d5 d6 co sq bl sp cr hk hd e hh h hn
  · exact rest_3 c ki ks tg la fa su sz n d0 d1 d2 d3 d4 d5 d6 co sq bl sp cr hk hd e h hn
  · exact rest_4 c ki ks tg la fa su sz n d0 d1 d2 d3 d4 d5 d6 co sq bl sp cr hk hd e h hn
  · exact rest_5 c ki ks tg la fa su sz n d0 d1 d2 d3 d4 d5 d6 co sq bl sp cr hk hd e h hn
  · exact rest_6 c ki ks tg la fa su sz n d0 d1 d2 d3 d4 d5 d6 co sq bl sp cr hk hd e h hn
  · exact rest_7 c ki ks tg la fa su sz n d0 d1 d2 d3 d4 d5 d6 co sq bl sp cr hk hd e h hn
  · exact rest_8 c ki ks tg la fa su sz n d0 d1 d2 d3 d4 d5 d6 co sq bl sp cr hk hd e h hn
  · exact rest_9 c ki ks tg la fa su sz n d0 d1 d2 d3 d4 d5 d6 co sq bl sp cr hk hd e h hn
  · have hq : fa = true → 1 ≤ n ∧ n ≤ 4 := by
      intro h
      subst h e
      simpa [canE, inB] using hk
    by_cases hf : fa = true
    · have hq := hq hf
      have : n = 1 ∨ n = 2 ∨ n = 3 ∨ n = 4 := by omega
      rcases this with hh | hh | hh | hh
      · exact rest_10_fast1 c ki ks tg la fa su sz n d0 d1 d2 d3 d4 d5 d6 co sq bl sp cr hk hd e hf hh h hn
      · exact rest_10_fast2 c ki ks tg la fa su sz n d0 d1 d2 d3 d4 d5 d6 co sq bl sp cr hk hd e hf hh h hn
      · exact rest_10_fast3 c ki ks tg la fa su sz n d0 d1 d2 d3 d4 d5 d6 co sq bl sp cr hk hd e hf hh h hn
      · exact rest_10_fast4 c ki ks tg la fa su sz n d0 d1 d2 d3 d4 d5 d6 co sq bl sp cr hk hd e hf hh h hn
    · exact rest_10_size c ki ks tg la fa su sz n d0 d1 d2 d3 d4 d5 d6 co sq bl sp cr hk hd e (by simpa using hf) h hn
  · have hq : 0 ≤ n ∧ n ≤ 7 := by
      subst e
      simpa [canE, inB] using hk
    have : n = 0 ∨ n = 1 ∨ n = 2 ∨ n = 3 ∨ n = 4 ∨ n = 5 ∨ n = 6 ∨ n = 7 := by omega
    rcases this with hh | hh | hh | hh | hh | hh | hh | hh
    · exact rest_11_0 c ki ks tg la fa su sz n d0 d1 d2 d3 d4 d5 d6 co sq bl sp cr hk hd e hh h hn
    · exact rest_11_1 c ki ks tg la fa su sz n d0 d1 d2 d3 d4 d5 d6 co sq bl sp cr hk hd e hh h hn
    · exact rest_11_2 c ki ks tg la fa su sz n d0 d1 d2 d3 d4 d5 d6 co sq bl sp cr hk hd e hh h hn
    · exact rest_11_3 c ki ks tg la fa su sz n d0 d1 d2 d3 d4 d5 d6 co sq bl sp cr hk hd e hh h hn
    · exact rest_11_4 c ki ks tg la fa su sz n d0 d1 d2 d3 d4 d5 d6 co sq bl sp cr hk hd e hh h hn
    · exact rest_11_5 c ki ks tg la fa su sz n d0 d1 d2 d3 d4 d5 d6 co sq bl sp cr hk hd e hh h hn
    · exact rest_11_6 c ki ks tg la fa su sz n d0 d1 d2 d3 d4 d5 d6 co sq bl sp cr hk hd e hh h hn
    · exact rest_11_7 c ki ks tg la fa su sz n d0 d1 d2 d3 d4 d5 d6 co sq bl sp cr hk hd e hh h hn
  · exact rest_12 c ki ks tg la fa su sz n d0 d1 d2 d3 d4 d5 d6 co sq bl sp cr hk hd e h hn
  · exact rest_13 c ki ks tg la fa su sz n d0 d1 d2 d3 d4 d5 d6 co sq bl sp cr hk hd e h hn
  · exact rest_14 c ki ks tg la fa su sz n d0 d1 d2 d3 d4 d5 d6 co sq bl sp cr hk hd e h hn
  · exact rest_15 c ki ks tg la fa su sz n d0 d1 d2 d3 d4 d5 d6 co sq bl sp cr hk hd e h hn
  · exact rest_16 c ki ks tg la fa su sz n d0 d1 d2 d3 d4 d5 d6 co sq bl sp cr hk hd e h hn
  · exact rest_17 c ki ks tg la fa su sz n d0 d1 d2 d3 d4 d5 d6 co sq bl sp cr hk hd e h hn

/-- A line's cells. -/
def lnA (l : List Int) : Array Value := #[.int .u8 (l.getD 0 0), .int .u8 (l.getD 1 0), .int .u8 (l.getD 2 0), .int .u8 (l.getD 3 0), .int .u8 (l.getD 4 0), .int .u8 (l.getD 5 0), .int .u8 (l.getD 6 0), .int .u8 (l.getD 7 0)]
def LnAt (w : World) (g : Nat) (l : List Int) : Prop := w.heap[g]? = some (.cells (lnA l) 23 (0, 0))
theorem LnAt.lt {w : World} {g : Nat} {l : List Int} (h : LnAt w g l) : g < w.heap.size := (Array.getElem?_eq_some_iff.1 h).1
theorem LnAt.below {w w' : World} {g B : Nat} {l : List Int} (h : LnAt w g l) (hb : Below B w w') (hg : g < B) : LnAt w' g l := (hb.block g hg).trans h
theorem LnAt.alloc {w : World} {g : Nat} {l : List Int} (h : LnAt w g l) (x : Obj) : LnAt (w.alloc x) g l := (heap_alloc_old w x h.lt).trans h
theorem ln_size (l : List Int) : (lnA l).size = 8 := rfl
theorem ln_one (l : List Int) : (lnA l).all (·.oneCell') = true := by simp [lnA, Value.oneCell']
theorem info_line : (Try.prog.info? 23).map (·.size) = some 8 := by kernel_rfl
theorem info_key : (Try.prog.info? 26).map (·.size) = some 2 := by kernel_rfl
theorem ln_zero (w : World) : LnAt (w.alloc (.cells #[.int .u8 0, .int .u8 0, .int .u8 0, .int .u8 0, .int .u8 0, .int .u8 0, .int .u8 0, .int .u8 0] 23)) w.heap.size [] := heap_alloc_new w _
theorem LnAt.set {w : World} {g : Nat} {l : List Int} (h : LnAt w g l) (l' : List Int) : LnAt (w.setRow g (lnA l')) g l' := setRow_heap w g _ _ _ _ h
theorem cell_u8 : (Try.prog.info? 5).map (·.size) = some 1 := by kernel_rfl
/-- Bytes are copied into a block. -/
theorem wp_copy_row {wr : World} {o : Oper} {a : Act} {K : Act → World → Prop} {Q : Exit → Act → World → Prop} {g off k k2 m c B T : Nat} {A : Option Addr} {l : List Int} {cur : Array Value} (s t : Operand)
    (ho : o.op = .call { callee := .builtin .copy, args := #[s, t], argTypes := #[49, 49] }) (hs : a.eval s = .slice (some ⟨g, off, none⟩) k k2) (ht : a.eval t = .slice A m c) (hB : Byt wr B A m c l)
    (h : wr.heap[g]? = some (.cells cur T (0, 0))) (hfit : off + k ≤ cur.size)
    (hK : ∀ w' cur', w'.heap[g]? = some (.cells cur' T (0, 0)) → cur'.size = cur.size → (∀ i, cur'[i]? = if off ≤ i ∧ i < off + min m k then some (.int .u8 (l.getD (i - off) 0)) else cur[i]?) → wr.grownBy w' (some g) → K (a.put o.dst (goInt ((min m k : Nat) : Int))) w') :
    o.wp Try.prog a wr K Q := by
  by_cases hm : min m k = 0
  · have hrun := run_copy_none (P := Try.prog) wr 49 49 o.type 5 (some ⟨g, off, none⟩) A k k2 m c Try.underlying49 cell_u8 (by omega)
    unfold Oper.wp
    simp [execOp, ho, resolve, invoke, builtin, hs, ht, hrun, Result.andThen]
    have := hK wr cur h rfl (fun i => by rw [if_neg (by omega)]) (World.grownBy.refl wr _)
    rw [hm] at this
    exact this
  · obtain ⟨b, bo, rfl, hb, hcell⟩ := hB.cells (by omega)
    have hlen := hB.len
    have hl8 : ((l.take k).map (Value.int .u8)).length = min m k := by simp [hlen, Nat.min_comm]
    have hrun := run_copy_rows (P := Try.prog) wr 49 49 o.type 5 1 g off k k2 (some ⟨b, bo, none⟩) m c (min m k) T ((l.take k).map (Value.int .u8)) cur Try.underlying49 cell_u8 rfl (by rw [hl8, Nat.mul_one]) h (by rw [hl8]; omega)
      ⟨⟨b, bo, none⟩, rfl, fun j v hv => by
        have hj : j < min m k := by rw [← hl8]; exact (List.getElem?_eq_some_iff.1 hv).1
        have : (⟨b, bo, none⟩ : Addr).add j = ⟨b, bo + j, none⟩ := by simp [Addr.add]
        rw [this, hcell j (by omega), ← hv]
        simp [show j < k by omega, List.getElem?_eq_getElem (show j < l.length by omega), List.getD]⟩
      (fun v hv => by simp only [List.mem_map] at hv; obtain ⟨x, _, rfl⟩ := hv; rfl)
    obtain ⟨cur', h1, h2, h3⟩ := setCells_blockR ((l.take k).map (Value.int .u8)) wr g off T (0, 0) cur h (by rw [hl8]; omega)
    have hg := setCells_grownR ((l.take k).map (Value.int .u8)) g off (World.grownBy.refl wr (some g))
    unfold Oper.wp
    simp [execOp, ho, resolve, invoke, builtin, hs, ht, hrun, Result.andThen]
    have := hK _ cur' h1 h2 (fun i => by
      rw [h3, hl8]
      by_cases hi : off ≤ i ∧ i < off + min m k
      · rw [if_pos hi, if_pos hi]
        simp [show i - off < k by omega, List.getElem?_eq_getElem (show i - off < l.length by omega), List.getD]
      · rw [if_neg hi, if_neg hi]) hg
    rw [List.map_take] at this
    exact this
/-- A line of which the first bytes are told. -/
theorem ln_copied {l : List Int} {cur' : Array Value} (h2 : cur'.size = 8) (h3 : ∀ i, cur'[i]? = if 0 ≤ i ∧ i < 0 + min l.length 8 then some (.int .u8 (l.getD (i - 0) 0)) else (lnA [])[i]?) : cur' = lnA l := by
  apply Array.ext_getElem?
  intro i
  rw [h3]
  by_cases hi : i < 8
  · by_cases hl : i < l.length
    · rw [if_pos (by omega)]
      have : i = 0 ∨ i = 1 ∨ i = 2 ∨ i = 3 ∨ i = 4 ∨ i = 5 ∨ i = 6 ∨ i = 7 := by omega
      rcases this with rfl | rfl | rfl | rfl | rfl | rfl | rfl | rfl <;> rfl
    · rw [if_neg (by omega)]
      have e : l.getD i 0 = 0 := by simp [List.getD, List.getElem?_eq_none (show l.length ≤ i by omega)]
      have : i = 0 ∨ i = 1 ∨ i = 2 ∨ i = 3 ∨ i = 4 ∨ i = 5 ∨ i = 6 ∨ i = 7 := by omega
      rcases this with rfl | rfl | rfl | rfl | rfl | rfl | rfl | rfl <;> (simp only [lnA]; rw [e]; rfl)
  · rw [if_neg (by omega)]
    rw [Array.getElem?_eq_none (by rw [ln_size]; omega), Array.getElem?_eq_none (by rw [ln_size]; omega)]
end Go.Proofs.Ytoamgdcjmkkmfaa
