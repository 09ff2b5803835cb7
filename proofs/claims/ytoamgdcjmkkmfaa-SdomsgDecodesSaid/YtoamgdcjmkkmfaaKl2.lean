/- What getKey and getSize answer; get up to its switch. -/
import Derived.Test.YtoamgdcjmkkmfaaKi
import Derived.Deep.CutBlock
set_option linter.unusedSimpArgs false
set_option linter.unusedVariables false
namespace Go.Proofs.Ytoamgdcjmkkmfaa
open Go.RowKit
set_option maxHeartbeats 4000000

theorem blk_set {w : World} {g k : Nat} {cs : Array Value} {t : TypeId} {v : Value} (h : w.heap[g]? = some (.cells cs t (0, 0))) : (w.setCell ⟨g, k, none⟩ v).heap[g]? = some (.cells (cs.setIfInBounds k v) t (0, 0)) := by
  simp [World.setCell, Array.getElem?_modify, h]
theorem grown_alloc {w w' : World} {r : Option Nat} (h : w.grownBy w' r) (x : Obj) : w.grownBy (w'.alloc x) r :=
  grownw_trans h (grownw_below ((Below.refl _ _).alloc (Nat.le_refl _) _))
theorem one_two (a b : Int) : (#[.int .i64 a, .int .i64 b] : Array Value).all (·.oneCell') = true := by simp [Value.oneCell']
theorem wp_store_two {o : Oper} {a : Act} {w : World} {K : Act → World → Prop} {Q : Exit → Act → World → Prop} {ty : TypeId} {x y : Operand} (ho : o.op = .store ty x y)
    {g off t : Nat} {u v : Value} {cs : Array Value} (hx : a.eval x = .pointer (some ⟨g, off, none⟩)) (hy : a.eval y = .agg #[u, v]) (hg : w.heap[g]? = some (.cells cs t (0, 0))) (hi : (Try.prog.info? ty).map (·.size) = some 2)
    (hfit : off + 2 ≤ cs.size) (h1 : u.oneCell' = true) (h2 : v.oneCell' = true) (h : K (a.put o.dst undef) ((w.setCell ⟨g, off, none⟩ u).setCell ⟨g, off + 1, none⟩ v)) : o.wp Try.prog a w K Q := by
  have hst := run_stores (P := Try.prog) (o := off) hg [u, v] (by simpa using hfit) (fun z hz => by simp at hz; rcases hz with rfl | rfl <;> assumption)
  cases hq : Try.prog.info? ty with
  | none => simp [hq] at hi
  | some i =>
    have hs : i.size = 2 := by simpa [hq] using hi
    have hr : (storeVar ty ⟨g, off, none⟩ (.agg #[u, v])).run Try.prog w = .ok () ((w.setCell ⟨g, off, none⟩ u).setCell ⟨g, off + 1, none⟩ v) := by
      simp [storeVar, sizeOf, typeInfo, hq, Value.cells, hs, hst]
      rfl
    unfold Oper.wp execOp
    simp only [ho, hx, hy, Instr.storeAt, Instr.sureAddr, Sem.run_bind, Sem.run_pure, Result.andThen_ok, hr]
    exact h
theorem wpList_store_two {ops : Array Oper} {rest : List Oper} {o : Oper} {a : Act} {w : World} {Q : Exit → Act → World → Prop} (hgd : o.guard = none) {ty : TypeId} {x y : Operand} (ho : o.op = .store ty x y)
    {g off t : Nat} {u v : Value} {cs : Array Value} (hx : a.eval x = .pointer (some ⟨g, off, none⟩)) (hy : a.eval y = .agg #[u, v]) (hg : w.heap[g]? = some (.cells cs t (0, 0))) (hi : (Try.prog.info? ty).map (·.size) = some 2)
    (hfit : off + 2 ≤ cs.size) (h1 : u.oneCell' = true) (h2 : v.oneCell' = true) (h : wpList Try.prog ops Q rest (a.put o.dst undef) ((w.setCell ⟨g, off, none⟩ u).setCell ⟨g, off + 1, none⟩ v)) : wpList Try.prog ops Q (o :: rest) a w :=
  wpList_plain hgd fun _ hK => wp_store_two ho hx hy hg hi hfit h1 h2 (hK _ _ h)
def RB (lo : Nat) (w : World) (g : Nat) (er : Int) (l : List Int) : Prop := ∃ A c, RdAt w g er A l.length c ∧ Byt w g A l.length c l ∧ ∀ b o s, A = some ⟨b, o, s⟩ → lo ≤ b
theorem RB.num {lo : Nat} {w : World} {g : Nat} {er : Int} {l : List Int} (h : RB lo w g er l) (k : Int) : Calls Try.prog 18 #[.pointer (some ⟨g, 0, none⟩), .int .i64 k] w fun e w' => e = .returned (.int .i64 (rnN er k l)) ∧ RB lo w' g (rnE er k l) (rnL er k l) ∧ w.grownBy w' (some g) := by
  obtain ⟨A, c, h1, h2, h0⟩ := h
  exact (rnum2_any w g er k A _ c l h1 h2).mono fun e w' ⟨A', c', h3, h4, h5, h6, h7⟩ => ⟨h3, ⟨A', c', h4, h5, fun b o s hx => by obtain ⟨o', s', ho⟩ := h7 b o s hx; exact h0 b o' s' ho⟩, h6⟩
theorem RB.raw {lo : Nat} {w : World} {g : Nat} {er : Int} {l : List Int} (h : RB lo w g er l) (hl : l.length ≤ 1000) (k : Int) : Calls Try.prog 17 #[.pointer (some ⟨g, 0, none⟩), .int .i64 k] w fun e w' => ∃ A2 c2, e = .returned (.slice A2 (rrA er k l).length c2) ∧ Byt w' w'.heap.size A2 (rrA er k l).length c2 (rrA er k l) ∧ w.grownBy w' (some g) := by
  obtain ⟨A, c, h1, h2, h0⟩ := h
  exact (rraw_any w g er k A _ c l h1 h2 (by omega)).mono fun e w' ⟨A', c', A2, c2, h3, h4, h5, h6, h7⟩ => ⟨A2, c2, h3, h4, h7⟩
theorem RB.below {lo : Nat} {w w' : World} {g : Nat} {er : Int} {l : List Int} {B : Nat} (h : RB lo w g er l) (hb : Below B w w') (hg : g < B) : RB lo w' g er l := by
  obtain ⟨A, c, h1, h2, h0⟩ := h
  exact ⟨A, c, h1.below hb hg, h2.keep fun b o hlt => hb.cell (p := ⟨b, o, none⟩) (Nat.lt_trans hlt hg), h0⟩
theorem RB.other {lo : Nat} {w w' : World} {g b : Nat} {er : Int} {l : List Int} (h : RB lo w g er l) (hw : ∀ k, k ≠ b → w'.heap[k]? = w.heap[k]?) (hb : b < lo) (hg : lo ≤ g) : RB lo w' g er l := by
  obtain ⟨A, c, h1, h2, h0⟩ := h
  refine ⟨A, c, (hw g (by omega)).trans h1, ⟨h2.len, h2.cap, h2.max, h2.rng, fun hn => ?_⟩, h0⟩
  obtain ⟨b', off, e, hlt, hc⟩ := h2.cells hn
  refine ⟨b', off, e, hlt, fun j hj => ?_⟩
  have := h0 _ _ _ e
  rw [← hc j hj]
  exact World.cell?_of_block (a := ⟨b', off + j, none⟩) (hw b' (by show b' ≠ b; omega))
theorem set_other {w : World} {b k : Nat} {v : Value} : ∀ j, j ≠ b → (w.setCell ⟨b, k, none⟩ v).heap[j]? = w.heap[j]? := fun j hj => by simp [World.setCell, Array.getElem?_modify, Ne.symm hj]
def gkI (er : Int) (l : List Int) : Int := rnN er 3 l
def gkS (er : Int) (l : List Int) : Int := rnN (rnE er 3 l) 2 (rnL er 3 l)
def gkE (er : Int) (l : List Int) : Int := rnE (rnE er 3 l) 2 (rnL er 3 l)
def gkL (er : Int) (l : List Int) : List Int := rnL (rnE er 3 l) 2 (rnL er 3 l)
theorem getkey_any {lo : Nat} {w : World} {g : Nat} {er : Int} {l : List Int} (h : RB lo w g er l) (hg : g < w.heap.size) : Calls Try.prog 19 #[.pointer (some ⟨g, 0, none⟩)] w fun e w' => e = .returned (.agg #[.int .i64 (gkI er l), .int .i64 (gkS er l)]) ∧ RB lo w' g (gkE er l) (gkL er l) ∧ w.grownBy w' (some g) := by
  have h1 : RB lo (w.alloc (.cells #[.int .i64 0, .int .i64 0] 26)) g er l := h.below (B := w.heap.size) ((Below.refl _ _).alloc (Nat.le_refl _) _) hg
  have hk : (w.alloc (.cells #[.int .i64 0, .int .i64 0] 26)).heap[w.heap.size]? = some (.cells #[.int .i64 0, .int .i64 0] 26 (0, 0)) := heap_alloc_new w _
  have hgr : w.grownBy (w.alloc (.cells #[.int .i64 0, .int .i64 0] 26)) (some g) := grown_alloc (World.grownBy.refl w _) _
  have hs : w.heap.size < (w.alloc (.cells #[.int .i64 0, .int .i64 0] 26)).heap.size := by simp
  have H1 := Lib.hid h1
  have HK := Lib.hid hk
  have HGR := Lib.hid hgr
  have HS := Lib.hid hs
  have HG := Lib.hid hg
  clear h h1 hk hgr hs hg
  go_enter Try.func19, Try.ntmps19
  go_wp2_with fail
  refine (H1.out.num _).mono ?_
  rintro e w1 ⟨rfl, h2, hg2⟩
  have hk2 := (hg2.block _ HS.out (by have := HG.out; simp; omega)).trans HK.out
  have hs2 := Nat.lt_of_lt_of_le HS.out hg2.size
  have HK2 := Lib.hid hk2
  have H2 := Lib.hid h2
  have HG2 := Lib.hid (grownw_trans HGR.out hg2)
  have HS2 := Lib.hid hs2
  clear hk2 h2 hg2 hs2
  go_wp2_with fail
  refine (H2.out.num _).mono ?_
  rintro e w2 ⟨rfl, h3, hg3⟩
  have hk3 := (hg3.block _ HS2.out (by have := HG.out; simp; omega)).trans HK2.out
  have HK3 := Lib.hid hk3
  have HG3 := Lib.hid (grownw_trans HG2.out hg3)
  have H3 := Lib.hid h3
  clear hk3 hg3 h3
  go_wp2_with (refine wpList_store_row rfl 26 (.tmp 2) (.tmp 9) rfl w.heap.size #[.int .i64 (gkI er l), .int .i64 (gkS er l)] rfl rfl _ _ HK3.out info_key rfl (one_two _ _) ?_)
  have hf := setRow_heap w2 w.heap.size _ #[.int .i64 (gkI er l), .int .i64 (gkS er l)] _ _ HK3.out
  have hA : RB lo (w2.setRow w.heap.size #[.int .i64 (gkI er l), .int .i64 (gkS er l)]) g (gkE er l) (gkL er l) := by
    obtain ⟨A, c, k1, k2, k3⟩ := H3.out
    exact ⟨A, c, (setRow_other _ _ _ _ (by have := HG.out; omega)).trans k1, k2.keep fun b o hlt => cell_setRow_other _ _ _ _ (by have := HG.out; show b ≠ w.heap.size; omega), k3⟩
  have hB : w.grownBy (w2.setRow w.heap.size #[.int .i64 (gkI er l), .int .i64 (gkS er l)]) (some g) := by
    have hq := HG3.out
    exact ⟨hq.os, hq.tape, hq.output, by simpa using hq.size, fun k hk hne => (setRow_other _ _ _ _ (by omega)).trans (hq.block k hk hne)⟩
  exact bodyPost_ret (results_cell_row rfl _ _ w.heap.size _ _ _ _ rfl hf Try.underlying26 rfl info_key) rfl ⟨rfl, hA, hB⟩
def gsN (told : Bool) (er : Int) (l : List Int) : Int := if told then rnN er 4 l else -1
theorem getsize_any {lo : Nat} {w : World} {g : Nat} {er : Int} {l : List Int} (h : RB lo w g er l) (told : Bool) : Calls Try.prog 20 #[.pointer (some ⟨g, 0, none⟩), .bool told] w fun e w' => e = .returned (.int .i64 (gsN told er l)) ∧ w.grownBy w' (some g) := by
  have H1 := Lib.hid h
  clear h
  cases told
  · go_enter Try.func20, Try.ntmps20
    go_wp2_with fail
    go_ret
    exact ⟨rfl, World.grownBy.refl w _⟩
  · go_enter Try.func20, Try.ntmps20
    go_wp2_with fail
    refine (H1.out.num _).mono ?_
    rintro e w1 ⟨rfl, h2, hg2⟩
    go_wp2_with fail
    go_ret
    exact ⟨rfl, hg2⟩
end Go.Proofs.Ytoamgdcjmkkmfaa
namespace Go.Proofs.Ytoamgdcjmkkmfaa
open Go.RowKit

theorem rn_u16 {a b : Int} {l : List Int} (ha : 0 ≤ a ∧ a ≤ 255) (hb : 0 ≤ b ∧ b ≤ 255) : rnN 0 3 (a :: b :: l) = a + 256 * b ∧ rnE 0 3 (a :: b :: l) = 0 ∧ rnL 0 3 (a :: b :: l) = l := by
  have hv : valL 3 [a, b] = a + 256 * b := by
    unfold valL
    have e : numL [a, b] = a + 256 * b := by simp [numL]
    rw [e, if_neg (by simp [kHigh]; omega)]
  have hf : fitB 3 (a + 256 * b) = true := by simp [fitB, kSize, kLow, kHigh]; omega
  have hn : nextE 3 (a :: b :: l) = 0 := by
    unfold nextE getE
    simp [kSize, hv, hf]
    omega
  have hE : rnE 0 3 (a :: b :: l) = 0 := by simp [rnE, fe, hn]
  refine ⟨?_, hE, ?_⟩
  · unfold rnN
    rw [if_pos hE]
    unfold nextN getN
    simp [kSize, hv, hf]
    omega
  · unfold rnL
    rw [if_pos hE]
    simp [kSize]
theorem rn_u8 {a : Int} {l : List Int} (ha : 0 ≤ a ∧ a ≤ 255) : rnN 0 2 (a :: l) = a ∧ rnE 0 2 (a :: l) = 0 ∧ rnL 0 2 (a :: l) = l := by
  have hv : valL 2 [a] = a := by
    unfold valL
    have e : numL [a] = a := by simp [numL]
    rw [e, if_neg (by simp [kHigh]; omega)]
  have hf : fitB 2 a = true := by simp [fitB, kSize, kLow, kHigh]; omega
  have hn : nextE 2 (a :: l) = 0 := by
    unfold nextE getE
    simp [kSize, hv, hf]
    omega
  have hE : rnE 0 2 (a :: l) = 0 := by simp [rnE, fe, hn]
  refine ⟨?_, hE, ?_⟩
  · unfold rnN
    rw [if_pos hE]
    unfold nextN getN
    simp [kSize, hv, hf]
    omega
  · unfold rnL
    rw [if_pos hE]
    simp [kSize]
theorem rn_u32 {a b c d : Int} {l : List Int} (ha : 0 ≤ a ∧ a ≤ 255) (hb : 0 ≤ b ∧ b ≤ 255) (hc : 0 ≤ c ∧ c ≤ 255) (hd : 0 ≤ d ∧ d ≤ 255) : rnN 0 4 (a :: b :: c :: d :: l) = a + 256 * b + 65536 * c + 16777216 * d := by
  have hv : valL 4 [a, b, c, d] = a + 256 * b + 65536 * c + 16777216 * d := by
    unfold valL
    have e : numL [a, b, c, d] = a + 256 * b + 65536 * c + 16777216 * d := by simp [numL]; omega
    rw [e, if_neg (by simp [kHigh]; omega)]
  have hf : fitB 4 (a + 256 * b + 65536 * c + 16777216 * d) = true := by simp [fitB, kSize, kLow, kHigh]; omega
  have hn : nextE 4 (a :: b :: c :: d :: l) = 0 := by
    unfold nextE getE
    simp [kSize, hv, hf]
    omega
  have hE : rnE 0 4 (a :: b :: c :: d :: l) = 0 := by simp [rnE, fe, hn]
  unfold rnN
  rw [if_pos hE]
  unfold nextN getN
  simp [kSize, hv, hf]
  omega
theorem gk_line {b1 b2 b3 : Int} {l : List Int} (h1 : 0 ≤ b1 ∧ b1 ≤ 255) (h2 : 0 ≤ b2 ∧ b2 ≤ 255) (h3 : 0 ≤ b3 ∧ b3 ≤ 255) : gkI 0 (b1 :: b2 :: b3 :: l) = b1 + 256 * b2 ∧ gkS 0 (b1 :: b2 :: b3 :: l) = b3 ∧ gkE 0 (b1 :: b2 :: b3 :: l) = 0 ∧ gkL 0 (b1 :: b2 :: b3 :: l) = l := by
  obtain ⟨e1, e2, e3⟩ := rn_u16 (l := b3 :: l) h1 h2
  obtain ⟨e4, e5, e6⟩ := rn_u8 (l := l) h3
  unfold gkI gkS gkE gkL
  rw [e1, e2, e3, e4, e5, e6]
  exact ⟨rfl, rfl, rfl, rfl⟩
theorem rr_line {l : List Int} {k : Int} (h0 : 0 ≤ k) (hk : k ≤ l.length) : rrA 0 k l = l.take k.toNat := by
  have : rrE 0 k l = 0 := by
    unfold rrE lackE fe
    simp
    omega
  unfold rrA
  rw [if_pos this]
theorem bA_all : ∀ h : Fin 256, bits BinOp.and IntKind.i64 (h.val : Int) 16 = h.val / 16 % 2 * 16 ∧ bits BinOp.and IntKind.i64 (h.val : Int) 1 = h.val % 2 ∧ bits BinOp.and IntKind.i64 (h.val : Int) 2 = h.val / 2 % 2 * 2 ∧ bits BinOp.and IntKind.i64 (h.val : Int) 4 = h.val / 4 % 2 * 4 ∧ bits BinOp.and IntKind.i64 ((h.val : Int) / 2) 7 = h.val / 2 % 8 ∧ bits BinOp.and IntKind.i64 ((h.val : Int) / 4) 7 = h.val / 4 % 8 ∧ bits BinOp.and IntKind.i64 ((h.val : Int) / 4) 3 = h.val / 4 % 4 := by decide +kernel
theorem bA {h : Int} (h0 : 0 ≤ h) (h1 : h ≤ 255) : bits BinOp.and IntKind.i64 h 16 = h / 16 % 2 * 16 ∧ bits BinOp.and IntKind.i64 h 1 = h % 2 ∧ bits BinOp.and IntKind.i64 h 2 = h / 2 % 2 * 2 ∧ bits BinOp.and IntKind.i64 h 4 = h / 4 % 2 * 4 ∧ bits BinOp.and IntKind.i64 (h / 2) 7 = h / 2 % 8 ∧ bits BinOp.and IntKind.i64 (h / 4) 7 = h / 4 % 8 ∧ bits BinOp.and IntKind.i64 (h / 4) 3 = h / 4 % 4 := by
  have := bA_all ⟨h.toNat, by omega⟩
  simp only [show ((h.toNat : Nat) : Int) = h by omega] at this
  exact this
theorem b_of {x : Int} {k : Int} (hx : x = 0 ∨ x = 1) (hk : k ≠ 0) : (x * k != 0) = decide (x = 1) := by
  rcases hx with rfl | rfl
  · simp
  · simp [hk]
theorem bT {h : Int} (h0 : 0 ≤ h) (h1 : h ≤ 255) : (bits BinOp.and IntKind.i64 h 16 != 0) = decide (h / 16 % 2 = 1) ∧ (bits BinOp.and IntKind.i64 h 1 != 0) = decide (h % 2 = 1) ∧ (bits BinOp.and IntKind.i64 h 2 != 0) = decide (h / 2 % 2 = 1) ∧ (bits BinOp.and IntKind.i64 h 4 != 0) = decide (h / 4 % 2 = 1) ∧
    wrap64 (7 - bits BinOp.and IntKind.i64 (h / 2) 7) = 7 - h / 2 % 8 ∧ wrap64 (4 - bits BinOp.and IntKind.i64 (h / 4) 3) = 4 - h / 4 % 4 ∧ bits BinOp.and IntKind.i64 (h / 4) 7 = h / 4 % 8 := by
  obtain ⟨e1, e2, e3, e4, e5, e6, e7⟩ := bA h0 h1
  refine ⟨?_, ?_, ?_, ?_, ?_, ?_, e6⟩
  · rw [e1]; exact b_of (by omega) (by omega)
  · rw [e2]; have := b_of (x := h % 2) (k := 1) (by omega) (by omega); simpa using this
  · rw [e3]; exact b_of (by omega) (by omega)
  · rw [e4]; exact b_of (by omega) (by omega)
  · rw [e5]; unfold wrap64; omega
  · rw [e7]; unfold wrap64; omega
end Go.Proofs.Ytoamgdcjmkkmfaa
namespace Go.Proofs.Ytoamgdcjmkkmfaa
open Go.RowKit
set_option maxHeartbeats 4000000
theorem one_msg (c ki ks : Int) (tg la fa su : Bool) (sz n d0 d1 d2 d3 d4 d5 d6 co sq bl sp cr : Int) : (#[.int .i64 c, .int .i64 ki, .int .i64 ks, .bool tg, .bool la, .bool fa, .bool su, .int .i64 sz, .int .i64 n, .int .u8 d0, .int .u8 d1, .int .u8 d2, .int .u8 d3, .int .u8 d4, .int .u8 d5, .int .u8 d6, .int .i64 co, .int .i64 sq, .int .i64 bl, .int .i64 sp, .int .i64 cr] : Array Value).all (·.oneCell') = true := by simp [Value.oneCell']

structure GS (w0 : World) (gr : Nat) (bl : List Int) (m : Array Value) (er : Int) (L : List Int) (w : World) : Prop where
  hb : Below w0.heap.size w0 w
  hl : LnAt w w0.heap.size bl
  hr : w.heap[w0.heap.size + 1]? = some (.cells #[.int .i64 0, .int .i64 0, .int .i64 0, .bool false, .bool false, .bool false, .bool false, .int .i64 0, .int .i64 0, .int .u8 0, .int .u8 0, .int .u8 0, .int .u8 0, .int .u8 0, .int .u8 0, .int .u8 0, .int .i64 0, .int .i64 0, .int .i64 0, .int .i64 0, .int .i64 0] 30 (0, 0))
  hm : w.heap[w0.heap.size + 1 + 1]? = some (.cells m 30 (0, 0))
  hq : RB (w0.heap.size + 3) w gr er L
  hg : w0.heap.size + 3 ≤ gr ∧ gr < w.heap.size
section
variable {w0 w w' : World} {gr : Nat} {bl L L' : List Int} {m m' : Array Value} {er er' : Int}
theorem GS.cong (h : GS w0 gr bl m er L w) (e : m = m') : GS w0 gr bl m' er L w := e ▸ h
theorem GS.set (h : GS w0 gr bl m er L w) (k : Nat) (v : Value) : GS w0 gr bl (m.setIfInBounds k v) er L (w.setCell ⟨w0.heap.size + 1 + 1, k, none⟩ v) :=
  ⟨h.hb.setCell (p := ⟨w0.heap.size + 1 + 1, k, none⟩) (show w0.heap.size ≤ w0.heap.size + 1 + 1 by omega) v, (set_other _ (by omega)).trans h.hl, (set_other _ (by omega)).trans h.hr, blk_set h.hm,
   h.hq.other (b := w0.heap.size + 1 + 1) set_other (by omega) h.hg.1, h.hg.1, by simpa using h.hg.2⟩
theorem GS.drew (h : GS w0 gr bl m er L w) : GS w0 gr bl m er L w.drew := by
  obtain ⟨A, c, k1, k2, k3⟩ := h.hq
  exact ⟨h.hb.drew, h.hl, h.hr, h.hm, ⟨A, c, k1, ⟨k2.len, k2.cap, k2.max, k2.rng, k2.cells⟩, k3⟩, h.hg⟩
theorem GS.step (h : GS w0 gr bl m er L w) (hq : RB (w0.heap.size + 3) w' gr er' L') (hg : w.grownBy w' (some gr)) : GS w0 gr bl m er' L' w' := by
  have h1 := h.hg
  have hs : w0.heap.size + 3 ≤ w.heap.size := by omega
  refine ⟨h.hb.grown hg (Nat.le_trans (Nat.le_add_right _ _) hs) (fun k e => by cases e; omega), (hg.block _ (by omega) (by simp; omega)).trans h.hl, (hg.block _ (by omega) (by simp; omega)).trans h.hr, (hg.block _ (by omega) (by simp; omega)).trans h.hm, hq, h1.1, Nat.lt_of_lt_of_le h1.2 hg.size⟩
theorem GS.keep (h : GS w0 gr bl m er L w) (hg : w.grownBy w' (some (w0.heap.size + 1 + 1))) (hm : w'.heap[w0.heap.size + 1 + 1]? = some (.cells m' 30 (0, 0))) : GS w0 gr bl m' er L w' := by
  have h1 := h.hg
  have hs : w0.heap.size + 3 ≤ w.heap.size := by omega
  obtain ⟨A, c, k1, k2, k3⟩ := h.hq
  refine ⟨h.hb.grown hg (Nat.le_trans (Nat.le_add_right _ _) hs) (fun k e => by cases e; omega), (hg.block _ (by omega) (fun e => by injection e with e; omega)).trans h.hl, (hg.block _ (by omega) (fun e => by injection e with e; omega)).trans h.hr, hm, ⟨A, c, (hg.block _ h1.2 (by simp; omega)).trans k1, ⟨k2.len, k2.cap, k2.max, k2.rng, fun hn => ?_⟩, k3⟩, h1.1, Nat.lt_of_lt_of_le h1.2 hg.size⟩
  obtain ⟨b', off, e, hlt, hc⟩ := k2.cells hn
  refine ⟨b', off, e, hlt, fun j hj => ?_⟩
  have := k3 _ _ _ e
  rw [← hc j hj]
  exact World.cell?_of_block (a := ⟨b', off + j, none⟩) (hg.block b' (by show b' < w.heap.size; omega) (by simp; omega))
structure GT (w0 : World) (bl : List Int) (m : Array Value) (w : World) : Prop where
  hb : Below w0.heap.size w0 w
  hl : LnAt w w0.heap.size bl
  hr : w.heap[w0.heap.size + 1]? = some (.cells #[.int .i64 0, .int .i64 0, .int .i64 0, .bool false, .bool false, .bool false, .bool false, .int .i64 0, .int .i64 0, .int .u8 0, .int .u8 0, .int .u8 0, .int .u8 0, .int .u8 0, .int .u8 0, .int .u8 0, .int .i64 0, .int .i64 0, .int .i64 0, .int .i64 0, .int .i64 0] 30 (0, 0))
  hm : w.heap[w0.heap.size + 1 + 1]? = some (.cells m 30 (0, 0))
theorem GS.off (h : GS w0 gr bl m er L w) : GT w0 bl m w := ⟨h.hb, h.hl, h.hr, h.hm⟩
theorem GS.goes (h : GS w0 gr bl m er L w) (hg : w.grownBy w' (some gr)) : GT w0 bl m w' := by
  have h1 := h.hg
  have hs : w0.heap.size + 3 ≤ w.heap.size := by omega
  exact ⟨h.hb.grown hg (Nat.le_trans (Nat.le_add_right _ _) hs) (fun k e => by cases e; omega), (hg.block _ (by omega) (by simp; omega)).trans h.hl, (hg.block _ (by omega) (by simp; omega)).trans h.hr, (hg.block _ (by omega) (by simp; omega)).trans h.hm⟩
theorem GT.cong (h : GT w0 bl m w) (e : m = m') : GT w0 bl m' w := e ▸ h
theorem GT.set (h : GT w0 bl m w) (k : Nat) (v : Value) : GT w0 bl (m.setIfInBounds k v) (w.setCell ⟨w0.heap.size + 1 + 1, k, none⟩ v) :=
  ⟨h.hb.setCell (p := ⟨w0.heap.size + 1 + 1, k, none⟩) (show w0.heap.size ≤ w0.heap.size + 1 + 1 by omega) v, (set_other _ (by omega)).trans h.hl, (set_other _ (by omega)).trans h.hr, blk_set h.hm⟩
theorem GT.keep (h : GT w0 bl m w) (hs : w0.heap.size + 1 + 1 < w.heap.size) (hg : w.grownBy w' (some (w0.heap.size + 1 + 1))) (hm : w'.heap[w0.heap.size + 1 + 1]? = some (.cells m' 30 (0, 0))) : GT w0 bl m' w' :=
  ⟨h.hb.grown hg (by omega) (fun k e => by cases e; omega), (hg.block _ (by omega) (fun e => by injection e with e; omega)).trans h.hl, (hg.block _ (by omega) (fun e => by injection e with e; omega)).trans h.hr, hm⟩
theorem GT.cell (h : GT w0 bl m w) (k : Nat) : w.cell? ⟨w0.heap.size + 1 + 1, k, none⟩ = m[k]? := by rw [cell_of_row _ _ _ _ _ _ h.hm]
theorem GT.frozen (h : GT w0 bl m w) (k : Nat) : w.frozen? ⟨w0.heap.size + 1 + 1, k, none⟩ = false := frozen_of_row _ _ _ _ _ h.hm
theorem GT.line (h : GT w0 bl m w) (k : Nat) : w.cell? ⟨w0.heap.size, k, none⟩ = (lnA bl)[k]? := by rw [cell_of_row _ _ _ _ _ _ h.hl]
theorem GT.lt (h : GT w0 bl m w) : w0.heap.size + 1 + 1 < w.heap.size := (Array.getElem?_eq_some_iff.1 h.hm).1
end
theorem wrap_u8 {b : Int} (h : 0 ≤ b ∧ b ≤ 255) : IntKind.i64.wrap b = b := by
  have : ((2 : Int) ^ IntKind.i64.bits) = 18446744073709551616 := by decide
  have h2 : ((2 : Int) ^ (IntKind.i64.bits - 1)) = 9223372036854775808 := by decide
  unfold IntKind.wrap
  simp only [this, h2]
  have e : b % 18446744073709551616 = b := by omega
  rw [e, if_neg]
  simp
  intro _
  omega
theorem ms_copied (c ki ks : Int) (tg la fa su : Bool) (sz n co sq bl sp cr : Int) {l : List Int} {cur' : Array Value} (h2 : cur'.size = 21)
    (h3 : ∀ i, cur'[i]? = if 9 ≤ i ∧ i < 9 + min l.length 7 then some (.int .u8 (l.getD (i - 9) 0)) else (#[.int .i64 c, .int .i64 ki, .int .i64 ks, .bool tg, .bool la, .bool fa, .bool su, .int .i64 sz, .int .i64 n, .int .u8 0, .int .u8 0, .int .u8 0, .int .u8 0, .int .u8 0, .int .u8 0, .int .u8 0, .int .i64 co, .int .i64 sq, .int .i64 bl, .int .i64 sp, .int .i64 cr] : Array Value)[i]?) : cur' = #[.int .i64 c, .int .i64 ki, .int .i64 ks, .bool tg, .bool la, .bool fa, .bool su, .int .i64 sz, .int .i64 n, .int .u8 (l.getD 0 0), .int .u8 (l.getD 1 0), .int .u8 (l.getD 2 0), .int .u8 (l.getD 3 0), .int .u8 (l.getD 4 0), .int .u8 (l.getD 5 0), .int .u8 (l.getD 6 0), .int .i64 co, .int .i64 sq, .int .i64 bl, .int .i64 sp, .int .i64 cr] := by
  apply Array.ext_getElem?
  intro i
  rw [h3]
  by_cases hi : i < 9
  · rw [if_neg (by omega)]
    have : i = 0 ∨ i = 1 ∨ i = 2 ∨ i = 3 ∨ i = 4 ∨ i = 5 ∨ i = 6 ∨ i = 7 ∨ i = 8 := by omega
    rcases this with rfl | rfl | rfl | rfl | rfl | rfl | rfl | rfl | rfl <;> rfl
  by_cases hj : i < 16
  · by_cases hl : i - 9 < l.length
    · rw [if_pos (by omega)]
      have : i = 9 ∨ i = 10 ∨ i = 11 ∨ i = 12 ∨ i = 13 ∨ i = 14 ∨ i = 15 := by omega
      rcases this with rfl | rfl | rfl | rfl | rfl | rfl | rfl <;> rfl
    · rw [if_neg (by omega)]
      have e : l.getD (i - 9) 0 = 0 := by simp [List.getD, List.getElem?_eq_none (show l.length ≤ i - 9 by omega)]
      have : i = 9 ∨ i = 10 ∨ i = 11 ∨ i = 12 ∨ i = 13 ∨ i = 14 ∨ i = 15 := by omega
      rcases this with rfl | rfl | rfl | rfl | rfl | rfl | rfl
      all_goals (simp only [Nat.reduceSub] at e; simp only [e]; rfl)
  · rw [if_neg (by omega)]
    by_cases hk : i < 21
    · have : i = 16 ∨ i = 17 ∨ i = 18 ∨ i = 19 ∨ i = 20 := by omega
      rcases this with rfl | rfl | rfl | rfl | rfl <;> rfl
    · rw [Array.getElem?_eq_none (by simp; omega), Array.getElem?_eq_none (by simp; omega)]
end Go.Proofs.Ytoamgdcjmkkmfaa
namespace Go.Proofs.Ytoamgdcjmkkmfaa
open Go.RowKit
set_option maxHeartbeats 4000000
structure P1 (w : World) (bl : List Int) (m : Array Value) (x : World) : Prop where
  hl : LnAt x w.heap.size bl
  hr : x.heap[w.heap.size + 1]? = some (.cells #[.int .i64 0, .int .i64 0, .int .i64 0, .bool false, .bool false, .bool false, .bool false, .int .i64 0, .int .i64 0, .int .u8 0, .int .u8 0, .int .u8 0, .int .u8 0, .int .u8 0, .int .u8 0, .int .u8 0, .int .i64 0, .int .i64 0, .int .i64 0, .int .i64 0, .int .i64 0] 30 (0, 0))
  hm : x.heap[w.heap.size + 2]? = some (.cells m 30 (0, 0))
  hb : Below w.heap.size w x
  hs : x.heap.size = w.heap.size + 3
theorem p1_start {w x : World} {LV : Array Value} {bl : List Int} (hx : ((w.alloc (.cells LV 23)).alloc (.cells #[.int .i64 0, .int .i64 0, .int .i64 0, .bool false, .bool false, .bool false, .bool false, .int .i64 0, .int .i64 0, .int .u8 0, .int .u8 0, .int .u8 0, .int .u8 0, .int .u8 0, .int .u8 0, .int .u8 0, .int .i64 0, .int .i64 0, .int .i64 0, .int .i64 0, .int .i64 0] 30)).alloc (.cells #[.int .i64 0, .int .i64 0, .int .i64 0, .bool false, .bool false, .bool false, .bool false, .int .i64 0, .int .i64 0, .int .u8 0, .int .u8 0, .int .u8 0, .int .u8 0, .int .u8 0, .int .u8 0, .int .u8 0, .int .i64 0, .int .i64 0, .int .i64 0, .int .i64 0, .int .i64 0] 30) = x) (hL : LV = lnA bl) : P1 w bl #[.int .i64 0, .int .i64 0, .int .i64 0, .bool false, .bool false, .bool false, .bool false, .int .i64 0, .int .i64 0, .int .u8 0, .int .u8 0, .int .u8 0, .int .u8 0, .int .u8 0, .int .u8 0, .int .u8 0, .int .i64 0, .int .i64 0, .int .i64 0, .int .i64 0, .int .i64 0] x := by
  subst hx hL
  refine ⟨(heap_alloc_old _ _ (by simp; omega)).trans ((heap_alloc_old _ _ (by simp)).trans (heap_alloc_new w _)), ?_, ?_, (((Below.refl _ _).alloc (Nat.le_refl _) _).alloc (by simp) _).alloc (by simp; omega) _, by simp⟩
  · exact (heap_alloc_old _ _ (by simp)).trans (by have := heap_alloc_new (w.alloc (.cells (lnA bl) 23)) (.cells #[.int .i64 0, .int .i64 0, .int .i64 0, .bool false, .bool false, .bool false, .bool false, .int .i64 0, .int .i64 0, .int .u8 0, .int .u8 0, .int .u8 0, .int .u8 0, .int .u8 0, .int .u8 0, .int .u8 0, .int .i64 0, .int .i64 0, .int .i64 0, .int .i64 0, .int .i64 0] 30); simpa using this)
  · have := heap_alloc_new ((w.alloc (.cells (lnA bl) 23)).alloc (.cells #[.int .i64 0, .int .i64 0, .int .i64 0, .bool false, .bool false, .bool false, .bool false, .int .i64 0, .int .i64 0, .int .u8 0, .int .u8 0, .int .u8 0, .int .u8 0, .int .u8 0, .int .u8 0, .int .u8 0, .int .i64 0, .int .i64 0, .int .i64 0, .int .i64 0, .int .i64 0] 30)) (.cells #[.int .i64 0, .int .i64 0, .int .i64 0, .bool false, .bool false, .bool false, .bool false, .int .i64 0, .int .i64 0, .int .u8 0, .int .u8 0, .int .u8 0, .int .u8 0, .int .u8 0, .int .u8 0, .int .u8 0, .int .i64 0, .int .i64 0, .int .i64 0, .int .i64 0, .int .i64 0] 30); simpa using this
section
variable {w x w2 : World} {bl : List Int} {m : Array Value}
theorem P1.told (h : P1 w bl m x) (m' : Array Value) : P1 w bl m' (x.setRow (w.heap.size + 2) m') :=
  ⟨(setRow_other _ _ _ _ (by omega)).trans h.hl, (setRow_other _ _ _ _ (by omega)).trans h.hr, setRow_heap _ _ _ _ _ _ h.hm, below_setRow h.hb (by omega) _, (size_setRow _ _ _).trans h.hs⟩
theorem P1.drew (h : P1 w bl m x) : P1 w bl m x.drew := ⟨h.hl, h.hr, h.hm, h.hb.drew, h.hs⟩
theorem P1.first (h : P1 w bl m x) : x.cell? ⟨w.heap.size, 0, none⟩ = some (.int .u8 (bl.getD 0 0)) := by rw [cell_of_row _ _ _ _ _ _ h.hl]; rfl
theorem P1.byt {b0 b1 b2 b3 b4 b5 b6 b7 : Int} (h : P1 w [b0, b1, b2, b3, b4, b5, b6, b7] m x) (hr : ∀ v ∈ [b1, b2, b3, b4, b5, b6, b7], 0 ≤ v ∧ v ≤ 255) : Byt x x.heap.size (some ⟨w.heap.size, 1, none⟩) 7 7 [b1, b2, b3, b4, b5, b6, b7] := by
  refine ⟨rfl, Nat.le_refl _, by simp [maxLen], hr, fun _ => ⟨w.heap.size, 1, rfl, by rw [h.hs]; omega, fun j hj => ?_⟩⟩
  rw [cell_of_row _ _ _ _ _ _ h.hl]
  obtain rfl | rfl | rfl | rfl | rfl | rfl | rfl : j = 0 ∨ j = 1 ∨ j = 2 ∨ j = 3 ∨ j = 4 ∨ j = 5 ∨ j = 6 := by omega
  all_goals rfl
theorem P1.done {gr c2 : Nat} {A2 : Option Addr} {l : List Int} (h : P1 w bl m x) (hl : 0 < l.length) (hgr : x.heap.size ≤ gr) (hrd : RdAt w2 gr 0 A2 l.length c2) (hbt : Byt w2 gr A2 l.length c2 l) (hb3 : Below x.heap.size x w2) (hA2 : ∀ b o, A2 = some ⟨b, o, none⟩ → x.heap.size ≤ b) : GS w gr bl m 0 l w2 := by
  have hs := h.hs
  refine ⟨h.hb.trans (hb3.mono h.hb.size), (hb3.block _ (by omega)).trans h.hl, (hb3.block _ (by omega)).trans h.hr, (hb3.block _ (by omega)).trans h.hm, ⟨A2, c2, hrd, hbt, fun b o s e => ?_⟩, ⟨by omega, hrd.lt⟩⟩
  obtain ⟨b', o', e', _⟩ := hbt.cells (by omega)
  rw [e'] at e
  cases e
  have := hA2 _ _ e'
  omega
end
end Go.Proofs.Ytoamgdcjmkkmfaa
