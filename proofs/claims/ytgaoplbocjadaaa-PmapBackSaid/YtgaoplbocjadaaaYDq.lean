/- What must be whatever is asked: a dictionary of one entry. -/
import Derived.Test.YtgaoplbocjadaaaYDk
import Derived.Test.YtgaoplbocjadaaaYDo
namespace Go.Proofs.Ytgaoplbocjadaaa
open Go.RowKit
set_option linter.unusedSimpArgs false
set_option linter.unusedVariables false
theorem rname_any (i j : Int) (w : World) : Calls Try.prog 88 #[.agg #[.int .i64 i, .int .i64 j]] w fun e w' => e = .returned (.bool (okN i j)) ∧ Below w.heap.size w w' := by
  have hb0 : Below w.heap.size w (w.alloc (.cells #[.int .i64 i, .int .i64 j] 24)) := (Below.refl _ _).alloc (Nat.le_refl _) _
  have hk0 : Key2 (w.alloc (.cells #[.int .i64 i, .int .i64 j] 24)) w.heap.size i j := heap_alloc_new w _
  obtain ⟨c0, c1⟩ := hk0.cells
  have HB0 := Lib.hid hb0
  have hok : okN i j = (decide (1 ≤ i) && decide (i ≤ 65535) && decide (0 ≤ j) && decide (j ≤ 255)) := by
    unfold okN
    by_cases h1 : 1 ≤ i <;> by_cases h2 : i ≤ 65535 <;> by_cases h3 : 0 ≤ j <;> by_cases h4 : j ≤ 255 <;> simp [h1, h2, h3, h4]
  have HOK := Lib.hid hok
  clear hb0 hk0 hok
  by_cases h1 : 1 ≤ i
  · by_cases h2 : i ≤ 65535
    · by_cases h3 : 0 ≤ j
      · by_cases h4 : j ≤ 255
        · go_enter Try.func88, Try.ntmps88
          go_wp2_with fail
          go_ret
          exact ⟨by rw [HOK.out]; simp [h1, h2, h3, h4], HB0.out⟩
        · go_enter Try.func88, Try.ntmps88
          go_wp2_with fail
          go_ret
          exact ⟨by rw [HOK.out]; simp [h1, h2, h3, h4], HB0.out⟩
      · go_enter Try.func88, Try.ntmps88
        go_wp2_with fail
        go_ret
        exact ⟨(by rw [HOK.out]; simp [h1, h2, h3]; try omega), HB0.out⟩
    · go_enter Try.func88, Try.ntmps88
      go_wp2_with fail
      go_ret
      exact ⟨(by rw [HOK.out]; simp [h1, h2]; try omega), HB0.out⟩
  · go_enter Try.func88, Try.ntmps88
    go_wp2_with fail
    go_ret
    exact ⟨(by rw [HOK.out]; simp [h1]; try omega), HB0.out⟩
theorem DTch.low {w0 w w' : World} {B g s : Nat} {v : Value} (h : DTch w w' g s v) (hb : Below B w0 w) (hB : B ≤ w.heap.size) (hB0 : B ≤ w0.heap.size) (hg : B ≤ g) (hs : B ≤ s) (hv : ∀ b, v.ownBlock = some b → B ≤ b) : Below B w0 w' :=
  hb.trans ⟨h.os, h.tape, h.output, h.size, fun k hk => h.block k (by omega) (by omega) (by omega) (fun e => by have := hv k e; omega)⟩
theorem th_ok {T : List (Int × Ent)} (hG : Good T) (q : Int) : (∀ y ∈ (thI e0 q T).b, 0 ≤ y ∧ y ≤ 255) ∧ (thI e0 q T).b.length ≤ 64 := by
  cases hh : hasI q T with
  | false => rw [thI_no hh]; exact ⟨fun y hy => (by cases hy), (by simp [e0])⟩
  | true =>
    obtain ⟨x, hx, _⟩ := hasI_at hh
    rw [thI_yes hh hx]
    exact (hG.ok x (List.mem_of_getElem? hx)).2.2
def E1 : Ent := ⟨2, 3, 0, 9, [5]⟩
def T1 : List (Int × Ent) := [(2097153, E1)]
theorem good1 : Good T1 := ⟨rise_iff.2 (by simp [T1]), by simp [T1], fun x hx => by
  simp only [T1, List.mem_singleton] at hx
  subst hx
  exact ⟨by decide, by decide, by decide, by decide⟩⟩
theorem live_add (w : World) (base g s : Nat) (v : Value) (A : Option Addr) (c : Nat) (h : DiI w base g s [] 0 v) (hbase : base ≤ w.heap.size) (hB : Byt w w.heap.size A 1 c [5]) :
    Calls Try.prog 41 #[.pointer (some ⟨g, 0, none⟩), .agg #[.int .i64 8192, .int .i64 1], .agg #[.int .i64 2, .int .i64 3, .int .i64 0, .int .i64 9], .slice A 1 c] w fun e w' => e = .returned (.int .i64 0) ∧ GoD w base g s T1 0 v w' := by
  refine (add_ok w base g s [] 0 v 8192 1 2 3 0 9 [5] A 1 c [5] h hbase (by simp) rise_nil hB (by decide) (by decide) (by decide)).mono ?_
  rintro e w' ⟨h1, h2⟩
  have hn : numI 8192 1 = 2097153 := by decide
  have hf : fitsA 2 3 0 9 [5] = 0 := by decide
  rw [hf] at h1 h2
  rw [hn] at h1 h2
  rw [show hasI 2097153 ([] : List (Int × Ent)) = false from rfl] at h1 h2
  rw [if_pos ⟨rfl, rfl, by simp⟩] at h2
  refine ⟨?_, h2⟩
  rcases h1 with h | h | h | h
  · exact absurd rfl h.1
  · exact absurd h.2.1 (by simp)
  · exact absurd h.2.2.1 (by simp)
  · exact h.2.2.2
theorem live_str5 : (strOfNums [5]).toList = [5] := by rw [ByteArray.toList_eq]; decide
theorem live_w1 : wrE (thI e0 (numI 8192 1) T1) (findE 8192 1 T1) [10] = 101253169 := by decide +kernel
theorem live_w2 : wrE (thI e0 (numI 8192 2) T1) (findE 8192 2 T1) [] = 101253137 := by decide +kernel
theorem live_w3 : wrE (thI e0 (numI 8193 0) T1) (findE 8193 0 T1) [] = 100794368 := by decide +kernel
end Go.Proofs.Ytgaoplbocjadaaa
namespace Go.Proofs.Ytgaoplbocjadaaa
open Go.RowKit Go.Shelf
attribute [local go_sem] Oper.semAt_some
set_option linter.unusedSimpArgs false
set_option linter.unusedVariables false
def keyN (n : Nat) : Int := (1 + (n : Int) / 4) * 256 + (n : Int) % 4
def F0 : Ent := ⟨2, 3, 0, 255, [0]⟩
def tabN (n : Nat) : List (Int × Ent) := (List.range n).map fun i => (keyN i, F0)
theorem tabN_len (n : Nat) : (tabN n).length = n := by simp [tabN]
theorem tabN_get {n i : Nat} {x : Int × Ent} (h : (tabN n)[i]? = some x) : i < n ∧ x = (keyN i, F0) := by
  have hi := (List.getElem?_eq_some_iff.1 h).1
  rw [tabN_len] at hi
  refine ⟨hi, ?_⟩
  rw [tabN, List.getElem?_map, List.getElem?_range hi] at h
  exact (Option.some.inj h).symm
theorem tabN_rise (n : Nat) : Rise (tabN n) := fun i j x y hij hx hy => by
  obtain ⟨_, rfl⟩ := tabN_get hx
  obtain ⟨_, rfl⟩ := tabN_get hy
  show keyN i < keyN j
  unfold keyN
  omega
theorem tabN_plc (n : Nat) : plcI (keyN n) (tabN n) = n := plcI_at _ _ n (by rw [tabN_len]; exact Nat.le_refl _) (fun i x hi hx => by
    obtain ⟨_, rfl⟩ := tabN_get hx
    show keyN i < keyN n
    unfold keyN
    omega) (fun x hx => by have := (tabN_get hx).1; omega)
theorem tabN_has (n : Nat) : hasI (keyN n) (tabN n) = false := hasI_none (by rw [tabN_plc, tabN_len])
theorem tabN_put (n : Nat) : putI (keyN n) F0 (tabN n) = tabN (n + 1) := by
  unfold putI
  rw [tabN_has, tabN_plc, List.take_of_length_le (by rw [tabN_len]; exact Nat.le_refl _), List.drop_of_length_le (by rw [tabN_len]; exact Nat.le_refl _)]
  simp [tabN, List.range_succ]
theorem hasI_mem {T : List (Int × Ent)} (h : Rise T) {x : Int × Ent} (hx : x ∈ T) : hasI x.1 T = true := by
  obtain ⟨m, hm⟩ := List.mem_iff_getElem?.1 hx
  have hp : plcI x.1 T = m := plcI_at _ _ m (Nat.le_of_lt (List.getElem?_eq_some_iff.1 hm).1) (fun i y hi hy => h i m y x hi hy hm) (fun y hy => by rw [hm] at hy; cases hy; omega)
  rw [hasI_some hp hm]
  exact decide_eq_true rfl
def wantI (i j : Int) : Int := if okN i j = false then 2 else if i ≤ 128 ∧ j < 4 then 8 else 6
theorem okN_in {i j : Int} (h : okN i j = true) : 1 ≤ i ∧ i ≤ 65535 ∧ 0 ≤ j ∧ j ≤ 255 := of_decide_eq_true h
theorem has_tab {i j : Int} (h : okN i j = true) : hasI (numI i j) (tabN 512) = decide (i ≤ 128 ∧ j < 4) := by
  have h1 := okN_in h
  rw [numI_yes h1]
  by_cases h2 : i ≤ 128 ∧ j < 4
  · rw [decide_eq_true h2]
    have hm : (keyN (((i - 1) * 4 + j).toNat), F0) ∈ tabN 512 := List.mem_map.2 ⟨((i - 1) * 4 + j).toNat, List.mem_range.2 (by omega), rfl⟩
    have := hasI_mem (tabN_rise 512) hm
    rw [show keyN (((i - 1) * 4 + j).toNat) = i * 256 + j by unfold keyN; omega] at this
    exact this
  · rw [decide_eq_false h2]
    cases hh : hasI (i * 256 + j) (tabN 512) with
    | false => rfl
    | true =>
      obtain ⟨x, hx, e⟩ := hasI_at hh
      obtain ⟨hl, rfl⟩ := tabN_get hx
      simp only [keyN] at e
      exact absurd (by omega) h2
theorem DiI.vk {w : World} {base g s : Nat} {T : List (Int × Ent)} {ch : Int} {v : Value} (h : DiI w base g s T ch v) {p : Nat} {cs : Array Value} {t : TypeId} {fr : Nat × Nat} (hp : w.heap[p]? = some (.cells cs t fr)) (h1 : t ≠ 134) (h2 : t ≠ 184) (h3 : t ≠ 202) : p ≠ g ∧ p ≠ s ∧ v.ownBlock ≠ some p := by
  refine ⟨fun e => ?_, fun e => ?_, fun e => ?_⟩
  · subst e; rw [h.box] at hp; cases hp; exact h1 rfl
  · subst e; rw [h.sh.box] at hp; cases hp; exact h2 rfl
  · rcases h.sh.row.2 with ⟨rfl, _⟩ | ⟨b, cap, cur, rfl, _, hb, _⟩
    · cases e
    · cases e; rw [hp] at hb; cases hb; exact h3 rfl
/-- What else lies there: the name and the spec. -/
structure FulC (w wr : World) (p : Nat) (ki kj : Int) : Prop where
  key : Key2 wr w.heap.size ki kj
  spc : Spc wr p 2 3 0 255
  bel : Below w.heap.size w wr
theorem FulC.below {w wr wx : World} {p : Nat} {ki kj : Int} (h : FulC w wr p ki kj) (hb : Below wr.heap.size wr wx) : FulC w wx p ki kj := ⟨h.key.below hb, h.spc.below hb, kF hb h.bel⟩
structure FulAt (w wr : World) (g s p : Nat) (ki kj : Int) (base : Nat) (v : Value) (T : List (Int × Ent)) : Prop extends FulC w wr p ki kj where
  di : DiI wr base g s T 0 v
  hbs : base ≤ wr.heap.size
  hg : w.heap.size ≤ g
  hs : w.heap.size ≤ s
  hv : ∀ b, v.ownBlock = some b → w.heap.size ≤ b
theorem FulAt.below {w wr wx : World} {g s p base : Nat} {ki kj : Int} {v : Value} {T : List (Int × Ent)} (h : FulAt w wr g s p ki kj base v T) (hb : Below wr.heap.size wr wx) : FulAt w wx g s p ki kj base v T := ⟨h.toFulC.below hb, h.di.below hb, by have := h.hbs; have := hb.size; omega, h.hg, h.hs, h.hv⟩
theorem FulAt.go {w wr wx : World} {g s p base : Nat} {ki kj : Int} {v : Value} {T T' : List (Int × Ent)} (h : FulAt w wr g s p ki kj base v T) (hx : GoD wr base g s T' 0 v wx) : ∃ v', FulAt w wx g s p ki kj base v' T' := by
  obtain ⟨v', hd, hn, ht⟩ := hx
  obtain ⟨k1, k2, k3⟩ := h.di.vk h.key (by decide) (by decide) (by decide)
  obtain ⟨p1, p2, p3⟩ := h.di.vk h.spc (by decide) (by decide) (by decide)
  refine ⟨v', ⟨(ht.block _ (Array.getElem?_eq_some_iff.1 h.key).1 k1 k2 k3).trans h.key, (ht.block _ (Array.getElem?_eq_some_iff.1 h.spc).1 p1 p2 p3).trans h.spc, ht.low h.bel h.bel.size (Nat.le_refl _) h.hg h.hs h.hv⟩, hd, by have := h.hbs; have := ht.size; omega, h.hg, h.hs, fun b e => ?_⟩
  rcases hn with hn | ⟨b', hb', hl⟩
  · exact h.hv b (hn ▸ e)
  · rw [hb'] at e; cases e; have := h.bel.size; omega
theorem ful_add {w wr : World} {g s p base : Nat} {ki kj : Int} {v : Value} {j : Nat} (h : FulAt w wr g s p ki kj base v (tabN j)) (hj : j < 512) (a b : Int) (ha : a = 1 + (j : Int) / 4) (hb : b = (j : Int) % 4) :
    Calls Try.prog 41 #[.pointer (some ⟨g, 0, none⟩), .agg #[.int .i64 a, .int .i64 b], .agg #[.int .i64 2, .int .i64 3, .int .i64 0, .int .i64 255], .slice none 0 0] wr fun e w' => e = .returned (.int .i64 0) ∧ ∃ v', FulAt w w' g s p ki kj base v' (tabN (j + 1)) := by
  have hok : okN a b = true := decide_eq_true (by omega)
  have hk : numI a b = keyN j := by rw [numI_yes (by omega), ha, hb]; rfl
  refine (add_ok wr base g s (tabN j) 0 v a b 2 3 0 255 [] none 0 0 [0] h.di h.hbs (by rw [tabN_len]; omega) (tabN_rise j) (Byt.nil_ _ _) hok (by decide) (by decide)).mono ?_
  rintro e w' ⟨h1, h2⟩
  rw [show fitsA 2 3 0 255 [0] = 0 by decide, hk, tabN_has] at h1 h2
  rw [tabN_len] at h1
  rw [if_pos ⟨rfl, rfl, by rw [tabN_len]; omega⟩, show (⟨2, 3, 0, 255, [0]⟩ : Ent) = F0 from rfl, tabN_put] at h2
  refine ⟨?_, h.go h2⟩
  rcases h1 with h | h | h | h
  · exact absurd rfl h.1
  · exact absurd h.2.1 (by simp)
  · exact absurd h.2.2.1 (by omega)
  · exact h.2.2.2
theorem ful_last {w wr : World} {g s p base : Nat} {ki kj : Int} {v : Value} {A : Option Addr} {c : Nat} (h : FulAt w wr g s p ki kj base v (tabN 512)) (hB : Byt wr wr.heap.size A 1 c [1]) :
    Calls Try.prog 41 #[.pointer (some ⟨g, 0, none⟩), .agg #[.int .i64 ki, .int .i64 kj], .agg #[.int .i64 2, .int .i64 3, .int .i64 0, .int .i64 255], .slice A 1 c] wr fun e w' => e = .returned (.int .i64 (wantI ki kj)) ∧ FulC w w' p ki kj := by
  cases hok : okN ki kj with
  | false =>
    refine (add_bad wr base g s (tabN 512) 0 v ki kj 2 3 0 255 [1] A 1 c (.inl hok)).mono ?_
    rintro e w' ⟨rfl, hb⟩
    exact ⟨by unfold wantI; rw [if_pos hok], h.toFulC.below hb⟩
  | true =>
    refine (add_ok wr base g s (tabN 512) 0 v ki kj 2 3 0 255 [1] A 1 c [1] h.di h.hbs (by rw [tabN_len]; omega) (tabN_rise 512) hB hok (by decide) (by decide)).mono ?_
    rintro e w' ⟨h1, h2⟩
    rw [show fitsA 2 3 0 255 [1] = 0 by decide, has_tab hok, tabN_len] at h1
    obtain ⟨v', hf⟩ := h.go h2
    refine ⟨?_, hf.toFulC⟩
    unfold wantI
    rw [hok, if_neg (by simp)]
    rcases h1 with h | h | h | h
    · exact absurd rfl h.1
    · rw [if_pos (of_decide_eq_true h.2.1)]; exact h.2.2
    · rw [if_neg (of_decide_eq_false h.2.1)]; exact h.2.2.2
    · exact absurd (Nat.le_refl _) h.2.2.1
theorem run_equalIn_func_nil {P : Program} (w : World) (d : Nat) (t : TypeId) {x1 x2 : Array TypeId} {x3 : Bool} (h : P.underlying t = some (.func x1 x2 x3)) (f : Fn) (cap lb : Array Value) : (Op.equalIn (d + 1) t (.func f cap lb) .nilFunc).run P w = .ok false w := by
  simp [Op.equalIn, run_underlying h]
theorem run_eql_func_nil {P : Program} (w : World) (t : TypeId) {x1 x2 : Array TypeId} {x3 : Bool} (h : P.underlying t = some (.func x1 x2 x3)) (f : Fn) (cap lb : Array Value) : (binOp .eql t (.func f cap lb) .nilFunc).run P w = .ok (.bool false) w := by
  simp only [binOp]
  simp [Op.equal, Op.maxDepth, run_equalIn_func_nil w 9999 t h f cap lb]
end Go.Proofs.Ytgaoplbocjadaaa
