/- What put answers. -/
import Derived.Test.YtoamgdcjmkkmfaaKh
import Derived.Laws.ResultCell
import Derived.Laws.CopyOwn
namespace Go.Proofs.Ytoamgdcjmkkmfaa
open Go.RowKit
set_option linter.unusedSimpArgs false
set_option linter.unusedVariables false
set_option maxHeartbeats 4000000

theorem results_cell_tmp_row {P : Program} {fn : Func} {p u : Tmp} {ty : TypeId} (h : fn.results = #[.cell p ty, .tmp u]) (tmps : Array Value) (w : World) (g : Nat) (t : TypeId) (cs : Array Value) (fr : Nat × Nat) (d : TypeDesc)
    (hp : tmps.getD p undef = .pointer (some ⟨g, 0, none⟩)) (hg : w.heap[g]? = some (.cells cs t fr)) (hu : P.underlying ty = some d) (hd : (match d with | .struct _ | .array _ _ => true | _ => false) = true) (hi : (P.info? ty).map (·.size) = some cs.size) :
    (results fn tmps).run P w = .ok (.tuple #[.agg cs, tmps.getD u undef]) w := by
  have hp' : tmps[p]?.getD undef = .pointer (some ⟨g, 0, none⟩) := by simpa using hp
  simp [results, h, hp', asAddr, run_loadVar_row w g t ty cs fr d hg hu hd hi]
theorem WrIn.byt {w : World} {g c : Nat} {er : Int} {l : List Int} {A : Option Addr} (h : WrIn w g er l A c) : Byt w w.heap.size A l.length c l := by
  obtain ⟨A', c', hv, hB, _⟩ := Byt.of_own h.2.1 h.2.2
  cases hv
  exact hB
theorem MsAt.lt {w : World} {g : Nat} {c ki ks : Int} {tg la fa su : Bool} {sz n d0 d1 d2 d3 d4 d5 d6 co sq bl sp cr : Int} (h : MsAt w g c ki ks tg la fa su sz n d0 d1 d2 d3 d4 d5 d6 co sq bl sp cr) : g < w.heap.size := (Array.getElem?_eq_some_iff.1 h).1
theorem MsAt.below {w w' : World} {g B : Nat} {c ki ks : Int} {tg la fa su : Bool} {sz n d0 d1 d2 d3 d4 d5 d6 co sq bl sp cr : Int} (h : MsAt w g c ki ks tg la fa su sz n d0 d1 d2 d3 d4 d5 d6 co sq bl sp cr) (hb : Below B w w') (hg : g < B) : MsAt w' g c ki ks tg la fa su sz n d0 d1 d2 d3 d4 d5 d6 co sq bl sp cr := (hb.block g hg).trans h
theorem MsAt.alloc {w : World} {g : Nat} {c ki ks : Int} {tg la fa su : Bool} {sz n d0 d1 d2 d3 d4 d5 d6 co sq bl sp cr : Int} (h : MsAt w g c ki ks tg la fa su sz n d0 d1 d2 d3 d4 d5 d6 co sq bl sp cr) (x : Obj) : MsAt (w.alloc x) g c ki ks tg la fa su sz n d0 d1 d2 d3 d4 d5 d6 co sq bl sp cr := (heap_alloc_old w x h.lt).trans h
/-- What a message's put has done with its Writer. -/
def stE (c ki ks : Int) (tg la fa su : Bool) (sz n : Int) (d : List Int) (co sq bl sp cr : Int) : Int × List Int := restE c ki ks fa sz n d co sq bl cr (wN 2 (headE c tg la fa su sz n sp) (0, []))
theorem run_load_row {o : Oper} {a : Act} {w : World} {ty : TypeId} {x : Operand} {g : Nat} {t : TypeId} {cs : Array Value} {fr : Nat × Nat} {d : TypeDesc} (ho : o.op = .load ty x) (hx : a.eval x = .pointer (some ⟨g, 0, none⟩)) (hg : w.heap[g]? = some (.cells cs t fr))
    (hd : (match d with | .struct _ | .array _ _ => true | _ => false) = true) (hu : Try.prog.underlying ty = some d) (hi : (Try.prog.info? ty).map (·.size) = some cs.size) : (execOp a.eval o).run Try.prog w = .ok (.value (.agg cs)) w := by
  have hr : (loadVar ty ⟨g, 0, none⟩).run Try.prog w = .ok (.agg cs) w := by
    refine run_loadVar_row w g t ty cs fr d hg hu ?_ hi
    cases d <;> first | rfl | exact hd
  unfold execOp
  simp only [ho, hx, Instr.loadAt, Instr.sureAddr, Sem.run_bind, Sem.run_pure, Result.andThen_ok, hr]
theorem rest_len (c ki ks : Int) (fa : Bool) (sz n : Int) (d : List Int) (co sq bl cr : Int) (s : Int × List Int) : (restE c ki ks fa sz n d co sq bl cr s).2.length ≤ s.2.length + d.length + 16 := by
  have ht : (d.take n.toNat).length ≤ d.length := by simp; omega
  have hk : (wK ki ks s).2.length ≤ s.2.length + 8 := by
    have a1 := wN_len 3 ki s
    have a2 := wN_len 2 ks (wN 3 ki s)
    unfold wK
    omega
  have hr1 := wR_len (d.take n.toNat) s
  have hr2 := wR_len (d.take n.toNat) (wK ki ks s)
  have hz : (wZ sz (wK ki ks s)).2.length ≤ (wK ki ks s).2.length + 4 := wN_len _ _ _
  have h1 := wN_len 2 sq s
  have h2 := wN_len 2 bl (wN 2 sq s)
  have h3 := wN_len 3 cr s
  have h4 := wN_len 2 bl (wK ki ks s)
  have h5 := wN_len 4 co (wK ki ks s)
  unfold restE
  (repeat' split) <;> omega
theorem mput_no (c ki ks : Int) (tg la fa su : Bool) (sz n d0 d1 d2 d3 d4 d5 d6 co sq bl sp cr : Int) (hk : canE c fa n sq bl sp = false) (hc : 1 ≤ c ∧ c ≤ 17) (w : World) :
    Calls Try.prog 23 #[.agg #[.int .i64 c, .int .i64 ki, .int .i64 ks, .bool tg, .bool la, .bool fa, .bool su, .int .i64 sz, .int .i64 n, .int .u8 d0, .int .u8 d1, .int .u8 d2, .int .u8 d3, .int .u8 d4, .int .u8 d5, .int .u8 d6, .int .i64 co, .int .i64 sq, .int .i64 bl, .int .i64 sp, .int .i64 cr]] w fun e w' => e = .returned (.tuple #[.agg (lnA []), .bool false]) ∧ Below w.heap.size w w' := by
  have hm : MsAt ((w.alloc (.cells #[.int .i64 c, .int .i64 ki, .int .i64 ks, .bool tg, .bool la, .bool fa, .bool su, .int .i64 sz, .int .i64 n, .int .u8 d0, .int .u8 d1, .int .u8 d2, .int .u8 d3, .int .u8 d4, .int .u8 d5, .int .u8 d6, .int .i64 co, .int .i64 sq, .int .i64 bl, .int .i64 sp, .int .i64 cr] 30)).alloc (.cells #[.int .u8 0, .int .u8 0, .int .u8 0, .int .u8 0, .int .u8 0, .int .u8 0, .int .u8 0, .int .u8 0] 23)) w.heap.size c ki ks tg la fa su sz n d0 d1 d2 d3 d4 d5 d6 co sq bl sp cr := MsAt.alloc (heap_alloc_new w _) _
  have hz : LnAt ((w.alloc (.cells #[.int .i64 c, .int .i64 ki, .int .i64 ks, .bool tg, .bool la, .bool fa, .bool su, .int .i64 sz, .int .i64 n, .int .u8 d0, .int .u8 d1, .int .u8 d2, .int .u8 d3, .int .u8 d4, .int .u8 d5, .int .u8 d6, .int .i64 co, .int .i64 sq, .int .i64 bl, .int .i64 sp, .int .i64 cr] 30)).alloc (.cells #[.int .u8 0, .int .u8 0, .int .u8 0, .int .u8 0, .int .u8 0, .int .u8 0, .int .u8 0, .int .u8 0] 23)) (w.heap.size + 1) [] := by have := ln_zero (w.alloc (.cells #[.int .i64 c, .int .i64 ki, .int .i64 ks, .bool tg, .bool la, .bool fa, .bool su, .int .i64 sz, .int .i64 n, .int .u8 d0, .int .u8 d1, .int .u8 d2, .int .u8 d3, .int .u8 d4, .int .u8 d5, .int .u8 d6, .int .i64 co, .int .i64 sq, .int .i64 bl, .int .i64 sp, .int .i64 cr] 30)); simpa using this
  have hb : Below w.heap.size w ((w.alloc (.cells #[.int .i64 c, .int .i64 ki, .int .i64 ks, .bool tg, .bool la, .bool fa, .bool su, .int .i64 sz, .int .i64 n, .int .u8 d0, .int .u8 d1, .int .u8 d2, .int .u8 d3, .int .u8 d4, .int .u8 d5, .int .u8 d6, .int .i64 co, .int .i64 sq, .int .i64 bl, .int .i64 sp, .int .i64 cr] 30)).alloc (.cells #[.int .u8 0, .int .u8 0, .int .u8 0, .int .u8 0, .int .u8 0, .int .u8 0, .int .u8 0, .int .u8 0] 23)) := ((Below.refl _ _).alloc (Nat.le_refl _) _).alloc (by simp) _
  have hs : ((w.alloc (.cells #[.int .i64 c, .int .i64 ki, .int .i64 ks, .bool tg, .bool la, .bool fa, .bool su, .int .i64 sz, .int .i64 n, .int .u8 d0, .int .u8 d1, .int .u8 d2, .int .u8 d3, .int .u8 d4, .int .u8 d5, .int .u8 d6, .int .i64 co, .int .i64 sq, .int .i64 bl, .int .i64 sp, .int .i64 cr] 30)).alloc (.cells #[.int .u8 0, .int .u8 0, .int .u8 0, .int .u8 0, .int .u8 0, .int .u8 0, .int .u8 0, .int .u8 0] 23)).heap.size = w.heap.size + 2 := by simp
  have hca := fun w => can_any c ki ks tg la fa su sz n d0 d1 d2 d3 d4 d5 d6 co sq bl sp cr hc w
  rw [hk] at hca
  have HM := Lib.hid hm
  have HZ := Lib.hid hz
  have HB := Lib.hid hb
  have HS := Lib.hid hs
  have HCA := Lib.hid hca
  clear hm hz hb hs hca hk hc
  go_enter Try.func23, Try.ntmps23
  go_wp2_with (refine wpList_load_row rfl 30 (.tmp 1) rfl w.heap.size rfl _ _ _ _ HM.out Try.underlying30 rfl info_msg ?_)
  refine (HCA.out _).mono ?_
  rintro e w1 ⟨rfl, hb1⟩
  have hz1 := HZ.out.below hb1 (by rw [HS.out]; omega)
  have hb2 := HB.out.trans (hb1.mono (by rw [HS.out]; omega))
  have HZ1 := Lib.hid hz1
  have HB2 := Lib.hid hb2
  clear hz1 hb2 hb1
  go_wp2_with (refine wpList_store_row rfl _ (.tmp 2) (.tmp 9) rfl (w.heap.size + 1) (lnA []) rfl rfl _ _ HZ1.out info_line rfl (ln_one _) ?_)
  have hf := HZ1.out.set []
  have hb3 := below_setRow HB2.out (show w.heap.size ≤ w.heap.size + 1 by omega) (lnA [])
  exact bodyPost_ret ((results_cell_tmp_row rfl _ _ (w.heap.size + 1) _ _ _ _ rfl hf Try.underlying23 rfl info_line).trans (by rfl)) rfl ⟨rfl, hb3⟩
theorem mput_yes (c ki ks : Int) (tg la fa su : Bool) (sz n d0 d1 d2 d3 d4 d5 d6 co sq bl sp cr : Int) (hk : canE c fa n sq bl sp = true) (hd : ∀ x ∈ dL d0 d1 d2 d3 d4 d5 d6, 0 ≤ x ∧ x ≤ 255) (hc : 1 ≤ c ∧ c ≤ 17) (w : World) :
    Calls Try.prog 23 #[.agg #[.int .i64 c, .int .i64 ki, .int .i64 ks, .bool tg, .bool la, .bool fa, .bool su, .int .i64 sz, .int .i64 n, .int .u8 d0, .int .u8 d1, .int .u8 d2, .int .u8 d3, .int .u8 d4, .int .u8 d5, .int .u8 d6, .int .i64 co, .int .i64 sq, .int .i64 bl, .int .i64 sp, .int .i64 cr]] w fun e w' => e = .returned (.tuple #[.agg (lnA (stE c ki ks tg la fa su sz n (dL d0 d1 d2 d3 d4 d5 d6) co sq bl sp cr).2), .bool (decide ((stE c ki ks tg la fa su sz n (dL d0 d1 d2 d3 d4 d5 d6) co sq bl sp cr).1 = 0))]) ∧ Below w.heap.size w w' := by
  have hm : MsAt ((w.alloc (.cells #[.int .i64 c, .int .i64 ki, .int .i64 ks, .bool tg, .bool la, .bool fa, .bool su, .int .i64 sz, .int .i64 n, .int .u8 d0, .int .u8 d1, .int .u8 d2, .int .u8 d3, .int .u8 d4, .int .u8 d5, .int .u8 d6, .int .i64 co, .int .i64 sq, .int .i64 bl, .int .i64 sp, .int .i64 cr] 30)).alloc (.cells #[.int .u8 0, .int .u8 0, .int .u8 0, .int .u8 0, .int .u8 0, .int .u8 0, .int .u8 0, .int .u8 0] 23)) w.heap.size c ki ks tg la fa su sz n d0 d1 d2 d3 d4 d5 d6 co sq bl sp cr := MsAt.alloc (heap_alloc_new w _) _
  have hz : LnAt ((w.alloc (.cells #[.int .i64 c, .int .i64 ki, .int .i64 ks, .bool tg, .bool la, .bool fa, .bool su, .int .i64 sz, .int .i64 n, .int .u8 d0, .int .u8 d1, .int .u8 d2, .int .u8 d3, .int .u8 d4, .int .u8 d5, .int .u8 d6, .int .i64 co, .int .i64 sq, .int .i64 bl, .int .i64 sp, .int .i64 cr] 30)).alloc (.cells #[.int .u8 0, .int .u8 0, .int .u8 0, .int .u8 0, .int .u8 0, .int .u8 0, .int .u8 0, .int .u8 0] 23)) (w.heap.size + 1) [] := by have := ln_zero (w.alloc (.cells #[.int .i64 c, .int .i64 ki, .int .i64 ks, .bool tg, .bool la, .bool fa, .bool su, .int .i64 sz, .int .i64 n, .int .u8 d0, .int .u8 d1, .int .u8 d2, .int .u8 d3, .int .u8 d4, .int .u8 d5, .int .u8 d6, .int .i64 co, .int .i64 sq, .int .i64 bl, .int .i64 sp, .int .i64 cr] 30)); simpa using this
  have hb : Below w.heap.size w ((w.alloc (.cells #[.int .i64 c, .int .i64 ki, .int .i64 ks, .bool tg, .bool la, .bool fa, .bool su, .int .i64 sz, .int .i64 n, .int .u8 d0, .int .u8 d1, .int .u8 d2, .int .u8 d3, .int .u8 d4, .int .u8 d5, .int .u8 d6, .int .i64 co, .int .i64 sq, .int .i64 bl, .int .i64 sp, .int .i64 cr] 30)).alloc (.cells #[.int .u8 0, .int .u8 0, .int .u8 0, .int .u8 0, .int .u8 0, .int .u8 0, .int .u8 0, .int .u8 0] 23)) := ((Below.refl _ _).alloc (Nat.le_refl _) _).alloc (by simp) _
  have hs : ((w.alloc (.cells #[.int .i64 c, .int .i64 ki, .int .i64 ks, .bool tg, .bool la, .bool fa, .bool su, .int .i64 sz, .int .i64 n, .int .u8 d0, .int .u8 d1, .int .u8 d2, .int .u8 d3, .int .u8 d4, .int .u8 d5, .int .u8 d6, .int .i64 co, .int .i64 sq, .int .i64 bl, .int .i64 sp, .int .i64 cr] 30)).alloc (.cells #[.int .u8 0, .int .u8 0, .int .u8 0, .int .u8 0, .int .u8 0, .int .u8 0, .int .u8 0, .int .u8 0] 23)).heap.size = w.heap.size + 2 := by simp
  have hca := fun w => can_any c ki ks tg la fa su sz n d0 d1 d2 d3 d4 d5 d6 co sq bl sp cr hc w
  rw [hk] at hca
  have hhd := fun w => head_any c ki ks tg la fa su sz n d0 d1 d2 d3 d4 d5 d6 co sq bl sp cr hk hc w
  have hrs := fun W w g A0 s h hn => rest_any (W := W) (w := w) (g := g) (A0 := A0) (s := s) c ki ks tg la fa su sz n d0 d1 d2 d3 d4 d5 d6 co sq bl sp cr hk hd hc h hn
  have hln : (wN 2 (headE c tg la fa su sz n sp) (0, [])).2.length ≤ 20 := by have := wN_len 2 (headE c tg la fa su sz n sp) (0, []); simp at this; omega
  have hll : (stE c ki ks tg la fa su sz n (dL d0 d1 d2 d3 d4 d5 d6) co sq bl sp cr).2.length ≤ 140737488351232 := by
    have := rest_len c ki ks fa sz n (dL d0 d1 d2 d3 d4 d5 d6) co sq bl cr (wN 2 (headE c tg la fa su sz n sp) (0, []))
    unfold stE
    simp only [List.length_cons, List.length_nil] at this
    omega
  have hst : stE c ki ks tg la fa su sz n (dL d0 d1 d2 d3 d4 d5 d6) co sq bl sp cr = restE c ki ks fa sz n (dL d0 d1 d2 d3 d4 d5 d6) co sq bl cr (wN 2 (headE c tg la fa su sz n sp) (0, [])) := rfl
  generalize stE c ki ks tg la fa su sz n (dL d0 d1 d2 d3 d4 d5 d6) co sq bl sp cr = st at hst hll ⊢
  generalize headE c tg la fa su sz n sp = hd0 at *
  have HLL := Lib.hid hll
  clear hll
  have HM := Lib.hid hm
  have HZ := Lib.hid hz
  have HB := Lib.hid hb
  have HS := Lib.hid hs
  have HCA := Lib.hid hca
  have HHD := Lib.hid hhd
  have HRS := Lib.hid hrs
  have HLN := Lib.hid hln
  have HST := Lib.hid hst
  clear hm hz hb hs hca hk hc hhd hrs hd hln hst
  go_enter Try.func23, Try.ntmps23
  go_wp2_with (refine wpList_load_row rfl 30 (.tmp 1) rfl w.heap.size rfl _ _ _ _ HM.out Try.underlying30 rfl info_msg ?_)
  refine (HCA.out _).mono ?_
  rintro e w1 ⟨rfl, hb1⟩
  have hz1 := HZ.out.below hb1 (by rw [HS.out]; omega)
  have hm1 := HM.out.below hb1 (by rw [HS.out]; omega)
  have hb2 := HB.out.trans (hb1.mono (by rw [HS.out]; omega))
  have hs1 : w.heap.size + 2 ≤ w1.heap.size := by have := hb1.size; rw [HS.out] at this; exact this
  have HZ1 := Lib.hid (hz1.alloc (.cells #[.int .i64 0, .slice none 0 0] 77))
  have HM1 := Lib.hid (hm1.alloc (.cells #[.int .i64 0, .slice none 0 0] 77))
  have HB2 := Lib.hid (hb2.alloc (by omega) (.cells #[.int .i64 0, .slice none 0 0] 77))
  have HS1 := Lib.hid hs1
  have HW1 : Hid (WrAt (w1.alloc (.cells #[.int .i64 0, .slice none 0 0] 77)) w1.heap.size 0 (.slice none 0 0)) := heap_alloc_new w1 _
  have HSA : Hid ((w1.alloc (.cells #[.int .i64 0, .slice none 0 0] 77)).heap.size = w1.heap.size + 1) := by show (w1.alloc (.cells #[.int .i64 0, .slice none 0 0] 77)).heap.size = w1.heap.size + 1; simp
  clear hz1 hb2 hb1 hm1 hs1
  go_wp2_with (refine wpList_load_row rfl 30 (.tmp 1) rfl w.heap.size rfl _ _ _ _ HM1.out Try.underlying30 rfl info_msg ?_)
  refine (HHD.out _).mono ?_
  rintro e w2 ⟨rfl, hb3⟩
  have hs2 : w1.heap.size + 1 ≤ w2.heap.size := by have := hb3.size; rw [HSA.out] at this; exact this
  have hw2 : WrAt w2 w1.heap.size 0 (.slice none 0 0) := HW1.out.below hb3 (by rw [HSA.out]; omega)
  have hm2 := HM1.out.below hb3 (by rw [HSA.out]; have := HS1.out; omega)
  have hz2 := HZ1.out.below hb3 (by rw [HSA.out]; have := HS1.out; omega)
  have hb4 := HB2.out.trans (hb3.mono (by rw [HSA.out]; have := HS1.out; omega))
  have hws : WS w2 w1.heap.size none 0 [] w2 := WS.start (A := none) (c := 0) ⟨hw2, ⟨rfl, .inl ⟨rfl, rfl⟩⟩, by simp⟩
  have HZ2 := Lib.hid hz2
  have HM2 := Lib.hid hm2
  have HB4 := Lib.hid hb4
  have HS2 := Lib.hid hs2
  have HWS := Lib.hid hws
  clear hz2 hm2 hb4 hs2 hws hw2 hb3
  go_wp2_with fail
  refine (WS.num (s := (0, [])) HWS.out (by simp) _ _).mono ?_
  rintro e w3 ⟨⟨v3, rfl⟩, h3⟩
  have hne : rowOf (none : Option Addr) ≠ some w.heap.size := by simp [rowOf]
  have hm3 : MsAt w3 w.heap.size c ki ks tg la fa su sz n d0 d1 d2 d3 d4 d5 d6 co sq bl sp cr := (h3.block (by have := HS1.out; have := HS2.out; omega) (by have := HS1.out; omega) hne).trans HM2.out
  have HM3 := Lib.hid hm3
  have H3 := Lib.hid h3
  clear h3 hm3 hne
  go_wp2_with (refine wpList_load_row rfl 30 (.tmp 1) rfl w.heap.size rfl _ _ _ _ HM3.out Try.underlying30 rfl info_msg ?_)
  refine (HRS.out _ _ _ _ _ H3.out HLN.out).mono ?_
  rw [← HST.out]
  rintro e w4 ⟨⟨v4, rfl⟩, h4⟩
  obtain ⟨er, l⟩ := st
  obtain ⟨A4, c4, h4w, h4c, h4r⟩ := h4
  have hz4 : LnAt w4 (w.heap.size + 1) [] := (h4c.block _ (by have := HS1.out; have := HS2.out; omega) (by have := HS1.out; omega) (by simp [rowOf])).trans HZ2.out
  have hs4 : w2.heap.size ≤ w4.heap.size := h4c.size
  have hb5 : Below w.heap.size w w4 := by
    have hq := HB4.out
    refine ⟨h4c.os.trans hq.os, h4c.tape.trans hq.tape, h4c.output.trans hq.output, Nat.le_trans hq.size h4c.size, fun k hk => ?_⟩
    exact (h4c.block k (Nat.lt_of_lt_of_le hk hq.size) (by have := HS1.out; omega) (by simp [rowOf])).trans (hq.block k hk)
  have HB5 := Lib.hid (hb5.alloc (Nat.le_trans HB4.out.size hs4) (.cells #[.int .u8 0, .int .u8 0, .int .u8 0, .int .u8 0, .int .u8 0, .int .u8 0, .int .u8 0, .int .u8 0] 23))
  have HZ4 := Lib.hid (hz4.alloc (.cells #[.int .u8 0, .int .u8 0, .int .u8 0, .int .u8 0, .int .u8 0, .int .u8 0, .int .u8 0, .int .u8 0] 23))
  have HL4 := Lib.hid (ln_zero w4)
  have HW4 := Lib.hid (h4w.alloc (.cells #[.int .u8 0, .int .u8 0, .int .u8 0, .int .u8 0, .int .u8 0, .int .u8 0, .int .u8 0, .int .u8 0] 23))
  have HS4 : Hid ((w4.alloc (.cells #[.int .u8 0, .int .u8 0, .int .u8 0, .int .u8 0, .int .u8 0, .int .u8 0, .int .u8 0, .int .u8 0] 23)).heap.size = w4.heap.size + 1) := by show (w4.alloc (.cells #[.int .u8 0, .int .u8 0, .int .u8 0, .int .u8 0, .int .u8 0, .int .u8 0, .int .u8 0, .int .u8 0] 23)).heap.size = w4.heap.size + 1; simp
  have HG4 : Hid (w.heap.size + 2 ≤ w1.heap.size ∧ w1.heap.size < w4.heap.size) := ⟨HS1.out, by have := HS2.out; omega⟩
  clear h4w h4c h4r hz4 hs4 hb5
  go_wp2_with fail
  generalize (w4.alloc (.cells #[.int .u8 0, .int .u8 0, .int .u8 0, .int .u8 0, .int .u8 0, .int .u8 0, .int .u8 0, .int .u8 0] 23)) = w5 at *
  have HB6 := Lib.hid HB5.out.drew
  have HZ5 := Lib.hid (show LnAt w5.drew (w.heap.size + 1) [] from HZ4.out)
  have HL5 := Lib.hid (show LnAt w5.drew w4.heap.size [] from HL4.out)
  have HW5 := Lib.hid (show WrIn w5.drew w1.heap.size er l A4 c4 from HW4.out)
  have HS5 : Hid (w5.drew.heap.size = w4.heap.size + 1) := HS4.out
  refine wp_region_last (fun _ => True) 3 (by kernel_rfl) trivial ?_
  intro hHeld
  refine wpAnyL_take (i := 0) (v := ?_) rfl (by kernel_rfl) (by kernel_rfl) (by kernel_rfl) (by kernel_rfl) (by kernel_rfl) (fun _ _ _ h => h) (Or.inl ⟨by rfl, ?_⟩) (by assumption) ?_
  rotate_left
  · intro wq hSw; (try dsimp only at hSw); first | (go_simp; done) | (go_simp; with_reducible rfl) | with_reducible rfl
  try simp only [Act.put, List.setIfInBounds_toArray, List.set_cons_zero, List.set_cons_succ]
  refine wpAnyL_take (i := 1) (v := ?_) rfl (by kernel_rfl) (by kernel_rfl) (by kernel_rfl) (by kernel_rfl) (by kernel_rfl) (fun _ _ _ h => h) (Or.inl ⟨by rfl, ?_⟩) (by assumption) ?_
  rotate_left
  · intro wq hSw; (try dsimp only at hSw); first | (go_simp; done) | (go_simp; with_reducible rfl) | with_reducible rfl
  try simp only [Act.put, List.setIfInBounds_toArray, List.set_cons_zero, List.set_cons_succ]
  refine wpAnyL_ready (rs := [2]) (by kernel_rfl) (by simp) ?_
  refine (AllReadyL.cons rfl (fun K hK => ?_) AllReadyL.nil)
  go_simp
  go_wp2_with fail
  refine (wbytes_any _ _ _ _ _ _ _ HW5.out.1 HW5.out.byt HLL.out).mono ?_
  rintro e w6 ⟨A6, c6, rfl, hB6, hb6⟩
  have hl6 := HL5.out.below hb6 HL5.out.lt
  have hz6 := HZ5.out.below hb6 HZ5.out.lt
  have hw6 := HW5.out.1.below hb6 HW5.out.1.lt
  have hb7 := HB6.out.trans (hb6.mono HB6.out.size)
  have HL6 := Lib.hid hl6
  have HZ6 := Lib.hid hz6
  have HW6 := Lib.hid hw6
  have HB7 := Lib.hid hb7
  have HY6 := Lib.hid hB6
  clear hl6 hz6 hw6 hb7 hB6 hb6
  refine hK.out _ _ trivial (fun hHeld => ?_)
  clear hK K
  refine wpAnyL_ready (rs := [3]) (by kernel_rfl) (by simp) ?_
  refine AllReadyL.last rfl (fun K hK => ?_)
  refine Eq.mpr (if_pos (by kernel_rfl)) ?_
  refine wp_copy_row (cur := lnA []) (T := 23) (.tmp 20) (.tmp 22) rfl rfl rfl HY6.out HL6.out (by rw [ln_size]; omega) ?_
  intro w7 cur7 h7 hsz7 hc7 hg7
  have e7 := ln_copied (hsz7.trans (ln_size [])) (fun i => by simpa using hc7 i)
  subst e7
  have hz7 : LnAt w7 (w.heap.size + 1) [] := (hg7.block _ HZ6.out.lt (by have := HG4.out; simp; omega)).trans HZ6.out
  have hw7 : WrAt w7 w1.heap.size er _ := (hg7.block _ HW6.out.lt (by have := HG4.out; simp; omega)).trans HW6.out
  have hb8 : Below w.heap.size w w7 := HB7.out.grown hg7 HB7.out.size (fun k e => by cases e; have := HG4.out; omega)
  have HL7 : Hid (LnAt w7 w4.heap.size l) := h7
  have HZ7 := Lib.hid hz7
  have HW7 := Lib.hid hw7
  have HB8 := Lib.hid hb8
  clear h7 hz7 hw7 hb8 hc7 hsz7 hg7
  refine hK.out _ _ ?_
  clear hK K
  refine wpAnyL_done (by kernel_rfl) ?_ _
  clear hHeld
  go_wp2_with fail
  have HB9 := Lib.hid HB8.out.drew
  have HZ8 := Lib.hid (show LnAt w7.drew (w.heap.size + 1) [] from HZ7.out)
  have HW8 := Lib.hid (show WrAt w7.drew w1.heap.size er _ from HW7.out)
  refine wp_region_last (fun w' => LnAt w' w4.heap.size l) 5 (by kernel_rfl) HL7.out ?_
  intro hHeld
  refine wpAnyL_take (i := 0) (v := .agg (lnA l)) rfl (by kernel_rfl) (by kernel_rfl) (by kernel_rfl) (by kernel_rfl) (by kernel_rfl) (fun _ _ _ h => h) (Or.inl ⟨by rfl, ?_⟩) (by assumption) ?_
  · intro wq hSw
    exact run_load_row (x := .tmp 5) rfl rfl hSw rfl Try.underlying23 info_line
  try simp only [Act.put, List.setIfInBounds_toArray, List.set_cons_zero, List.set_cons_succ]
  refine wpAnyL_take (i := 1) (v := ?_) rfl (by kernel_rfl) (by kernel_rfl) (by kernel_rfl) (by kernel_rfl) (by kernel_rfl) (fun _ _ _ h => h) (Or.inl ⟨by rfl, ?_⟩) (by assumption) ?_
  rotate_left
  · intro wq hSw; (try dsimp only at hSw); first | (go_simp; done) | (go_simp; with_reducible rfl) | with_reducible rfl
  try simp only [Act.put, List.setIfInBounds_toArray, List.set_cons_zero, List.set_cons_succ]
  refine wpAnyL_ready (rs := [2]) (by kernel_rfl) (by simp) ?_
  refine (AllReadyL.cons rfl (fun K hK => ?_) AllReadyL.nil)
  go_simp
  go_wp2_with fail
  refine (werr_any _ _ _ _ HW8.out).mono ?_
  rintro e w8 ⟨rfl, rfl⟩
  refine hK.out _ _ hHeld (fun hHeld => ?_)
  clear hK K
  refine wpAnyL_take (i := 3) (v := ?_) rfl (by kernel_rfl) (by kernel_rfl) (by kernel_rfl) (by kernel_rfl) (by kernel_rfl) (fun _ _ _ h => h) (Or.inl ⟨by rfl, ?_⟩) (by assumption) ?_
  rotate_left
  · intro wq hSw; (try dsimp only at hSw); first | (go_simp; done) | (go_simp; with_reducible rfl) | with_reducible rfl
  try simp only [Act.put, List.setIfInBounds_toArray, List.set_cons_zero, List.set_cons_succ]
  refine wpAnyL_ready (rs := [4]) (by kernel_rfl) (by simp) ?_
  refine (AllReadyL.cons rfl (fun K hK => ?_) AllReadyL.nil)
  refine Eq.mpr (if_pos (by kernel_rfl)) ?_
  refine wp_store_row 23 (.tmp 2) (.tmp 24) rfl (w.heap.size + 1) (lnA l) rfl rfl _ _ HZ8.out info_line rfl (ln_one _) ?_
  have HZ9 := Lib.hid (HZ8.out.set l)
  have HB10 := Lib.hid (below_setRow HB9.out (show w.heap.size ≤ w.heap.size + 1 by omega) (lnA l))
  refine hK.out _ _ ((setRow_other _ _ _ _ (by have := HG4.out; omega)).trans hHeld) (fun hHeld => ?_)
  clear hK K
  refine wpAnyL_ready (rs := [5]) (by kernel_rfl) (by simp) ?_
  refine AllReadyL.last rfl (fun K hK => ?_)
  go_simp
  refine hK.out _ _ ?_
  clear hK K
  refine wpAnyL_done (by kernel_rfl) ?_ _
  clear hHeld
  go_wp2_with fail
  exact bodyPost_ret ((results_cell_tmp_row rfl _ _ (w.heap.size + 1) _ _ _ _ rfl HZ9.out Try.underlying23 rfl info_line).trans (by rfl)) rfl ⟨rfl, HB10.out⟩
end Go.Proofs.Ytoamgdcjmkkmfaa
