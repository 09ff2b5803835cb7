/- What the statements' own 'same' answers of a queue and of the document's. -/
import Derived.Test.YtnhlmpomgbpoiaaQi
import Derived.Sort.QuietIn
namespace Go.Proofs.Ytnhlmpomgbpoiaa
open Go.RowKit Go.Shelf
attribute [local go_sem] Oper.semAt_some

theorem en_fit (l : List Int) {pre : List Elt} (h : pre <+: en l) (x : Elt) : pre ++ [x] <+: en l ↔ (pre.length < l.length ∧ x.1 = pre.length ∧ x.2 = l.getD pre.length 0) := by
  obtain ⟨r, hr⟩ := h
  have hlen : pre.length + r.length = l.length := by rw [← en_len l, ← hr, List.length_append]
  constructor
  · rintro ⟨s, hs⟩
    rw [← hr, List.append_assoc] at hs
    have hs := List.append_cancel_left hs
    subst hs
    have hlt : pre.length < l.length := by simp at hlen; omega
    have hg := en_get l hlt
    rw [← hr] at hg
    simp at hg
    exact ⟨hlt, by rw [hg], by rw [hg]; simp [List.getD]⟩
  · rintro ⟨h1, h2, h3⟩
    have hg := en_get l h1
    rw [← hr] at hg
    cases r with
    | nil => simp at hlen; omega
    | cons y r =>
      simp at hg
      refine ⟨r, ?_⟩
      rw [← hr, hg]
      obtain ⟨x1, x2⟩ := x
      simp only at h2 h3
      rw [h2, h3]
      simp [List.getD]
theorem heap_own {β : Type} (k Bn : Nat) (f : β → Obj) (h : k < Bn) : OwnFrom Bn (fun (s : β) W => W.heap[k]? = some (f s)) := fun s W W' row hs hg hr => (hg.block k (Array.getElem?_eq_some_iff.1 hs).1 (fun e => by have := (hr k e.symm).1; omega)).trans hs
theorem one_set {W : World} {k : Nat} {t : TypeId} {u : Value} (h : W.heap[k]? = some (.cells #[u] t (0, 0))) (v : Value) : (W.setCell ⟨k, 0, none⟩ v).heap[k]? = some (.cells #[v] t (0, 0)) := by
  simp [World.setCell, Array.getElem?_modify, h]
theorem heap_other (W : World) (a : Addr) (v : Value) (k : Nat) (h : ¬ k = a.block) : (W.setCell a v).heap[k]? = W.heap[k]? := Below.heap_setCell W a v k h
theorem run_equalIn_func_nil {P : Program} (w : World) (d : Nat) (t : TypeId) {x1 x2 : Array TypeId} {x3 : Bool} (h : P.underlying t = some (.func x1 x2 x3)) (f : Fn) (cap lb : Array Value) : (Op.equalIn (d + 1) t (.func f cap lb) .nilFunc).run P w = .ok false w := by
  simp [Op.equalIn, run_underlying h]
theorem run_eql_func_nil {P : Program} (w : World) (t : TypeId) {x1 x2 : Array TypeId} {x3 : Bool} (h : P.underlying t = some (.func x1 x2 x3)) (f : Fn) (cap lb : Array Value) : (binOp .eql t (.func f cap lb) .nilFunc).run P w = .ok (.bool false) w := by
  simp only [binOp]
  simp [Op.equal, Op.maxDepth, run_equalIn_func_nil w 9999 t h f cap lb]
theorem eql_told (w : World) (g : Nat) : (binOp .eql 50 (.func (Fn.func 31) #[] #[.pointer (some ⟨g, 0, none⟩)]) .nilFunc).run Try.prog w = .ok (.bool false) w := run_eql_func_nil w _ Try.underlying50 _ _ _

/-- The three boxes of 'same': the document's queue at h, the answer behind it, the count at hn. -/
structure SmB (h hn : Nat) (W : World) (Ar : Option Addr) (N cr : Nat) (lim lost n : Int) (res : Bool) : Prop where
  r : W.heap[h]? = some (.cells #[.slice Ar N cr, .int .i64 lim, .int .i64 lost] 27 (0, 0))
  b : W.heap[h + 1]? = some (.cells #[.bool res] 4 (0, 0))
  n : W.heap[hn]? = some (.cells #[.int .i64 n] 3 (0, 0))
def SmI (w : World) (hn : Nat) (Ar : Option Addr) (N cr : Nat) (lim lost : Int) (xs : List Int) (pre : List Elt) (W : World) : Prop := (SmB w.heap.size hn W Ar N cr lim lost pre.length false ∧ pre <+: en xs) ∧ Below w.heap.size w W
def SmX (xs : List Int) (_ : Code) (pre : List Elt) (_ : World) : Prop := ¬ pre <+: en xs
theorem SmI_own (w : World) (hn : Nat) (Ar : Option Addr) (N cr : Nat) (lim lost : Int) (xs : List Int) (Bn : Nat) (h1 : w.heap.size + 1 < Bn) (h2 : hn < Bn) : OwnFrom Bn (SmI w hn Ar N cr lim lost xs) :=
  OwnFrom.and (OwnFrom.and (fun s W W' row hs hg hr => ⟨heap_own (β := List Elt) w.heap.size Bn (fun _ => _) (by omega) s W W' row hs.r hg hr, heap_own (β := List Elt) (w.heap.size + 1) Bn (fun _ => _) h1 s W W' row hs.b hg hr, heap_own (β := List Elt) hn Bn (fun s => .cells #[.int .i64 s.length] 3 (0, 0)) h2 s W W' row hs.n hg hr⟩) (ownFrom_pure _ _)) (ownFrom_below (Nat.le_refl _) (by omega))

set_option maxRecDepth 100000 in
set_option maxHeartbeats 4000000 in
theorem same_in (g B N c : Nat) (lim lost : Int) (xs : List Int) (A Ar : Option Addr) (cr : Nat) (w : World) (hq : Que w B g lim (ints xs) lost A N c) (hr : Nums w w.heap.size Ar N cr xs) (hl : 0 ≤ lost ∧ lost ≤ 1000000) :
    CallsIn Fence.wide 9 Try.prog 18 #[.pointer (some ⟨g, 0, none⟩), .agg #[.slice Ar N cr, .int .i64 lim, .int .i64 lost]] w fun e w' => e = .returned (.bool true) ∧ Below w.heap.size w w' := by
  have hb0 : Below w.heap.size w ((w.alloc (.cells #[.slice Ar N cr, .int .i64 lim, .int .i64 lost] 27)).alloc (.cells #[.bool false] 4)) := ((Below.refl _ _).alloc (Nat.le_refl _) _).alloc (by simp) _
  have hsz0 : ((w.alloc (.cells #[.slice Ar N cr, .int .i64 lim, .int .i64 lost] 27)).alloc (.cells #[.bool false] 4)).heap.size = w.heap.size + 2 := by simp
  have hr0 := heap_alloc2_old w (.cells #[.slice Ar N cr, .int .i64 lim, .int .i64 lost] 27) (.cells #[.bool false] 4)
  have hn0 := heap_alloc2_new w (.cells #[.slice Ar N cr, .int .i64 lim, .int .i64 lost] 27) (.cells #[.bool false] 4)
  have HB0 := Lib.hid hb0
  have HS0 := Lib.hid hsz0
  have HR0 := Lib.hid hr0
  have HN0 := Lib.hid hn0
  have HQ := Lib.hid hq
  have HR := Lib.hid hr
  have hfits := hq.fits
  obtain ⟨hl0, hl1⟩ := hq.lims
  obtain ⟨hlo0, hlo1⟩ := hl
  clear hb0 hsz0 hr0 hn0 hq hr
  refine callsIn_of_wp_marks Try.func18 rfl trivial ?_ rfl
  simp only [Try.ntmps18, List.size_toArray, List.length_cons, List.length_nil, Nat.reduceAdd, Nat.reduceSub, Array.replicate_succ, Array.replicate_zero, List.push_toArray, List.append_toArray, List.nil_append, List.cons_append]
  gi_wp2_with fail
  generalize (w.alloc (.cells #[.slice Ar N cr, .int .i64 lim, .int .i64 lost] 27)).alloc (.cells #[.bool false] 4) = w0 at HB0 HS0 HR0 HN0 ⊢
  have hq0 : ∀ k, Que (w0.drewN k) B g lim (ints xs) lost A N c := fun k => HQ.out.below (below_drewN HB0.out k)
  have hlen := fun k => len_any _ _ _ _ _ _ _ _ _ (hq0 k)
  have hroom := fun k => room_any _ _ _ _ _ _ _ _ _ (hq0 k)
  have hlost := fun k => lost_any _ _ _ _ _ _ _ _ _ (hq0 k)
  have HLEN := Lib.hid hlen
  have HROOM := Lib.hid hroom
  have HLOST := Lib.hid hlost
  have c30 : w0.cell? ⟨w.heap.size, 0, none⟩ = some (.slice Ar N cr) := by rw [cell_of_row _ _ _ _ _ _ HR0.out]; rfl
  have c31 : w0.cell? ⟨w.heap.size, 1, none⟩ = some (.int .i64 lim) := by rw [cell_of_row _ _ _ _ _ _ HR0.out]; rfl
  have c32 : w0.cell? ⟨w.heap.size, 2, none⟩ = some (.int .i64 lost) := by rw [cell_of_row _ _ _ _ _ _ HR0.out]; rfl
  have hwr : IntKind.i64.wrap (lim - (N : Int)) = lim - (N : Int) := IntWalk.i64_in _ (by omega)
  clear hq0 hlen hroom hlost
  refine wpIn_wide.2 ?_
  go_quiet ((first
    | (go_at_call 20; refine Calls.quiet_of_same ((HLEN.out _).mono fun e w' h => ⟨h.1, h.2.symm⟩))
    | (go_at_call 24; refine Calls.quiet_of (HROOM.out _))
    | (go_at_call 21; refine Calls.quiet_of_same ((HLOST.out _).mono fun e w' h => ⟨h.1, h.2.symm⟩))))
  have hb1 := below_drewN HB0.out nq
  have hs1 : (w0.drewN nq).heap.size = w.heap.size + 2 := HS0.out
  have hr1 : (w0.drewN nq).heap[w.heap.size]? = _ := HR0.out
  have hn1 : (w0.drewN nq).heap[w.heap.size + 1]? = _ := HN0.out
  generalize w0.drewN nq = w1 at hb1 hs1 hr1 hn1 ⊢
  have HB1 := Lib.hid hb1
  have HS1 := Lib.hid hs1
  have HR1 := Lib.hid hr1
  have HN1 := Lib.hid hn1
  have heq := eql_told
  clear hb1 hs1 hr1 hn1 c30 c31 c32 hwr
  gi_wp2_with fail
  refine ⟨trivial, ?_⟩
  refine (callsIn_wide.2 (all_any _ _)).mono ?_
  rintro e w2 ⟨rfl, rfl⟩
  have hs2 : w.heap.size + 2 ≤ w1.heap.size := by rw [HS1.out]; omega
  have hb2 : Below w.heap.size w ((w1.alloc (.cells #[.int .i64 0] 3)).alloc (.cells #[.pointer (some ⟨g, 0, none⟩)] 23)) := (HB1.out.alloc (by omega) _).alloc (by simp; omega) _
  have hp2 := heap_alloc2_new w1 (.cells #[.int .i64 0] 3) (.cells #[.pointer (some ⟨g, 0, none⟩)] 23)
  have hbx2 : SmB w.heap.size w1.heap.size ((w1.alloc (.cells #[.int .i64 0] 3)).alloc (.cells #[.pointer (some ⟨g, 0, none⟩)] 23)) Ar N cr lim lost 0 false := by
    have hbb : Below w1.heap.size w1 ((w1.alloc (.cells #[.int .i64 0] 3)).alloc (.cells #[.pointer (some ⟨g, 0, none⟩)] 23)) := ((Below.refl _ _).alloc (Nat.le_refl _) _).alloc (by simp) _
    exact ⟨(hbb.block _ (by omega)).trans HR1.out, (hbb.block _ (by omega)).trans HN1.out, heap_alloc2_old w1 _ _⟩
  have hsz2 : ((w1.alloc (.cells #[.int .i64 0] 3)).alloc (.cells #[.pointer (some ⟨g, 0, none⟩)] 23)).heap.size = w1.heap.size + 2 := by simp
  have HB2 := Lib.hid hb2
  have HP2 := Lib.hid hp2
  have HX2 := Lib.hid hbx2
  have HS2 := Lib.hid hsz2
  clear hb2 hp2 hbx2 hsz2
  gi_wp2_with fail
  generalize (w1.alloc (.cells #[.int .i64 0] 3)).alloc (.cells #[.pointer (some ⟨g, 0, none⟩)] 23) = W2 at HB2 HP2 HX2 HS2 ⊢
  have hq2 := HQ.out.below HB2.out
  have hst := all_stops 8 (by omega) (w1.heap.size + 1) g B N c lim lost xs A (· = w1.heap.size) (fun _ => none) W2 HP2.out hq2 (fun k hk => by rw [hk, HS2.out]; omega) (fun _ _ _ _ => rfl) (fun _ _ _ h => by cases h)
  have hI : SmI w w1.heap.size Ar N cr lim lost xs [] W2 := ⟨⟨HX2.out, List.nil_prefix⟩, HB2.out⟩
  refine wpIn_rangeFunc_ownG rfl (by omega) (gf := 31) (lb := #[.pointer (some ⟨w1.heap.size + 1, 0, none⟩)]) rfl trivial (enters_of Try.func31 (by kernel_rfl) rfl)
    hst kq_t (kq_b fun _ _ _ _ => rfl) (Below.refl _ _) (fun _ => rfl)
    (SmI w w1.heap.size Ar N cr lim lost xs) (SmX xs) (SmI_own w w1.heap.size Ar N cr lim lost xs _ (by rw [HS2.out]; omega) (by rw [HS2.out]; omega)) (fun _ => ownFrom_pure _ _) hI
    (fun x => { tmps := #[.pointer (some ⟨g, 0, none⟩), .agg #[.slice Ar N cr, .int .i64 lim, .int .i64 lost], undef, .pointer (some ⟨w.heap.size, 0, none⟩), .pointer (some ⟨w.heap.size + 1, 0, none⟩), .pointer (some ⟨w1.heap.size, 0, none⟩), .func (Fn.func 31) #[] #[.pointer (some ⟨w1.heap.size + 1, 0, none⟩)], .int .i64 (x.1 : Nat), .int .i64 x.2, undef, undef, .pointer (some ⟨g, 0, none⟩), .int .i64 (N : Nat), .pointer (some ⟨w.heap.size, 0, none⟩), .slice Ar N cr, .int .i64 (N : Nat), .bool false, .bool false, .pointer (some ⟨g, 0, none⟩), .int .i64 (lim - (N : Nat)), .pointer (some ⟨w.heap.size, 1, none⟩), .int .i64 lim, .pointer (some ⟨w.heap.size, 0, none⟩), .slice Ar N cr, .int .i64 (N : Nat), .int .i64 (lim - (N : Nat)), .bool false, .bool false, .bool false, .pointer (some ⟨g, 0, none⟩), .int .i64 lost, .pointer (some ⟨w.heap.size, 2, none⟩), .int .i64 lost, .bool false, .bool false, .pointer (some ⟨g, 0, none⟩), .func (Fn.func 31) #[] #[.pointer (some ⟨w1.heap.size + 1, 0, none⟩)], .func (Fn.func 31) #[] #[.pointer (some ⟨w1.heap.size + 1, 0, none⟩)], .bool false, .func (Fn.func 31) #[] #[.pointer (some ⟨w1.heap.size + 1, 0, none⟩)], .int .i64 (x.1 : Nat), .int .i64 x.2, undef, undef, undef, undef, undef, undef, undef, undef, undef, undef, undef, undef, undef, undef, undef, undef, undef, undef, undef, undef, undef, undef, undef, undef, undef, undef, undef, undef, undef, undef, undef, undef, undef, undef, undef, undef, undef, undef, undef, undef, undef, undef, undef, undef, undef, undef, undef, undef, undef], defers := [] }) ?assign ?body ?done ?stop
  case assign =>
    intro lp x W K hK
    gi_wp2
    exact hK
  case body =>
    rintro lp pre ⟨i, v⟩ W ⟨⟨hbx, hfit⟩, hbw⟩ hpN
    have hfx := en_fit xs hfit (i, v)
    have hRW := HR.out.below hbw
    have hxl := hRW.len
    have hcapR := hRW.cap
    have hmaxR := hRW.max
    simp only [maxLen] at hmaxR
    rw [hxl] at hfx
    simp only at hfx
    have hln : (pre ++ [((i, v) : Elt)]).length = pre.length + 1 := by simp
    have c5 : W.cell? ⟨w1.heap.size, 0, none⟩ = some (.int .i64 pre.length) := by rw [cell_of_row _ _ _ _ _ _ hbx.n]; rfl
    have f5 : W.frozen? ⟨w1.heap.size, 0, none⟩ = false := frozen_of_row _ _ _ _ _ hbx.n
    have c4 : W.cell? ⟨w.heap.size + 1, 0, none⟩ = some (.bool false) := by rw [cell_of_row _ _ _ _ _ _ hbx.b]; rfl
    have f4 : W.frozen? ⟨w.heap.size + 1, 0, none⟩ = false := frozen_of_row _ _ _ _ _ hbx.b
    have c3 : W.cell? ⟨w.heap.size, 0, none⟩ = some (.slice Ar N cr) := by rw [cell_of_row _ _ _ _ _ _ hbx.r]; rfl
    have k4 := fun v => (KeepsOthers.setCell W ⟨w.heap.size + 1, 0, none⟩ v).from W2.heap.size
    have K4 := Lib.hid k4
    have HFX := Lib.hid hfx
    have HLN := Lib.hid hln
    have HBX := Lib.hid hbx
    have hs12 := hs2
    have HH1 := Lib.hid hs12
    obtain ⟨b, off, rfl, hbb, hcl⟩ := hRW.cells (by omega)
    have hcv := hcl pre.length hpN
    generalize xs.getD pre.length 0 = u at hcv hfx HFX
    clear hcl hfx hln hbx k4 hRW hfit hs12 hxl
    by_cases h1 : i = pre.length
    · subst h1
      by_cases h3 : v = u
      · have t3 : (v != u) = false := by simp [h3]
        have H3 := Lib.hid h3
        clear h3
        gi_wp2
        refine ⟨(KeepsOthers.setCell _ _ _).from _, kq_set _ _ _ rfl rfl, ⟨⟨?_, HFX.out.2 ⟨hpN, by first | rfl | trivial, H3.out⟩⟩, hbw.setCell (p := ⟨w1.heap.size, 0, none⟩) (by simp; omega) _⟩⟩
        have hbx := HBX.out
        rw [HLN.out]
        exact ⟨(heap_other _ _ _ _ (by simp; omega)).trans hbx.r, (heap_other _ _ _ _ (by simp; omega)).trans hbx.b, by rw [show (((pre.length + 1 : Nat)) : Int) = (pre.length : Int) + 1 by omega]; exact one_set hbx.n _⟩
      · have t3 : (v != u) = true := by simp [h3]
        have H3 := Lib.hid h3
        clear h3
        gi_wp2
        exact ⟨K4.out _, fun h => H3.out (HFX.out.1 h).2.2⟩
    · have t1 : ((i : Int) != (pre.length : Int)) = true := by simp; omega
      have H1 := Lib.hid h1
      clear h1
      gi_wp2
      exact ⟨K4.out _, fun h => H1.out (HFX.out.1 h).2.1⟩
  case stop =>
    rintro D cc pre W hD hSp hX hK
    exact absurd hSp hX
  case done =>
    rintro D ys W hD rfl ⟨⟨hbx, _⟩, hbw⟩ hK
    have hRW := HR.out.below hbw
    have hxl := hRW.len
    rw [en_len, hxl] at hbx
    have hQW := HQ.out.below hbw
    have c5 : W.cell? ⟨w1.heap.size, 0, none⟩ = some (.int .i64 N) := by rw [cell_of_row _ _ _ _ _ _ hbx.n]; rfl
    have c4 : W.cell? ⟨w.heap.size + 1, 0, none⟩ = some (.bool false) := by rw [cell_of_row _ _ _ _ _ _ hbx.b]; rfl
    have f4 : W.frozen? ⟨w.heap.size + 1, 0, none⟩ = false := frozen_of_row _ _ _ _ _ hbx.b
    have c3 : W.cell? ⟨w.heap.size, 0, none⟩ = some (.slice Ar N cr) := by rw [cell_of_row _ _ _ _ _ _ hbx.r]; rfl
    have HBX := Lib.hid hbx
    have HK := Lib.hid hK
    have hcapR := hRW.cap
    have hmaxR := hRW.max
    simp only [maxLen] at hmaxR
    have hend : Below w.heap.size w ((W.setCell ⟨w.heap.size + 1, 0, none⟩ (.bool true)).putObj D (.deferred none)) := (hbw.setCell (p := ⟨w.heap.size + 1, 0, none⟩) (by simp) _).grown (grownBy_putObj' _ D _) (by simp; exact hbw.size) (fun k e => by cases e; have := HS2.out; have := HB2.out.size; omega)
    have hDw : w.heap.size + 1 < D := by have := HS2.out; omega
    have hKS : ∀ v, (W.setCell ⟨w.heap.size + 1, 0, none⟩ v).heap[D]? = some (.deferred (some [])) := fun v => (heap_other _ _ _ _ (by simp; omega)).trans hK
    have hcE : ((W.setCell ⟨w.heap.size + 1, 0, none⟩ (.bool true)).putObj D (.deferred none)).cell? ⟨w.heap.size + 1, 0, none⟩ = some (.bool true) := by
      have hg := grownBy_putObj' (W.setCell ⟨w.heap.size + 1, 0, none⟩ (.bool true)) D (.deferred none)
      rw [cell_of_row _ _ _ _ _ _ ((hg.block (w.heap.size + 1) (by simp; have := (Array.getElem?_eq_some_iff.1 hbx.b).1; exact this) (by simp; omega)).trans (one_set hbx.b (.bool true)))]; rfl
    have HE := Lib.hid hend
    have HKS := Lib.hid hKS
    have HC := Lib.hid hcE
    clear hKS hcE
    cases xs with
    | nil =>
      obtain rfl : N = 0 := by simpa using hxl.symm
      have hpk := peek_none _ _ _ _ _ _ _ hQW
      have HPK := Lib.hid hpk
      clear hpk hQW hRW hxl hbx hK hend
      gi_wp2_with fail
      refine ⟨trivial, ?_⟩
      refine (callsIn_wide.2 HPK.out).mono ?_
      rintro e W3 ⟨rfl, rfl⟩
      gi_wp2
      refine ⟨by simp, .inl ⟨_, _, rfl, run_takeDeferred (HKS.out _), ?_⟩⟩
      refine ⟨.bool true, ?_, rfl, HE.out⟩
      simp [results, Try.f18, go_sem, HC.out]
    | cons x xs =>
      obtain rfl : N = xs.length + 1 := by simpa using hxl.symm
      have hpk := peek_some _ _ _ _ _ _ _ _ _ _ hQW
      obtain ⟨b, off, rfl, hbb, hcl⟩ := hRW.cells (by omega)
      have hcv := hcl 0 (by omega)
      rw [Nat.add_zero] at hcv
      have HPK := Lib.hid hpk
      clear hpk hQW hRW hxl hbx hK hend hcl
      gi_wp2_with fail
      refine ⟨trivial, ?_⟩
      refine (callsIn_wide.2 HPK.out).mono ?_
      rintro e W3 ⟨rfl, rfl⟩
      gi_wp2
      refine ⟨by simp, .inl ⟨_, _, rfl, run_takeDeferred (HKS.out _), ?_⟩⟩
      refine ⟨.bool true, ?_, rfl, HE.out⟩
      simp [results, Try.f18, go_sem, HC.out]
end Go.Proofs.Ytnhlmpomgbpoiaa
