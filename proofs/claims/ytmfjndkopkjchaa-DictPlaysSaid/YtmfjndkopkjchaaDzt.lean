/- What is told of an entry, and of an object's subs: the statement's walk. -/
import Derived.Test.YtmfjndkopkjchaaDzq
import Derived.Test.YtmfjndkopkjchaaDzs
import Derived.Deep.CutBlock
namespace Go.Proofs.Ytmfjndkopkjchaa
open Go.RowKit Go.Shelf
attribute [local go_sem] Oper.semAt_some
set_option linter.unusedSimpArgs false
set_option linter.unusedVariables false

def RdL (w : World) (q : Int) (L : List Int) (e : Ending) (w' : World) : Prop := ∃ A n c, e = .returned (.tuple #[.slice A n c, .int .i64 q]) ∧ Byt w' w'.heap.size A n c L ∧ Below w.heap.size w w'
def RwL (w : World) (b : Bool) (e : Ending) (w' : World) : Prop := ∃ A n c, e = .returned (.tuple #[.slice A n c, .bool b]) ∧ (b = false → n = 0) ∧ Below w.heap.size w w'
theorem RawP.rw {w w' : World} {E : Ent} {b : Bool} {e : Ending} (h : RawP w E b e w') : RwL w b e w' := by
  obtain ⟨A, n, c, L, h1, h2, h3, h4⟩ := h
  refine ⟨A, n, c, h1, fun hb => ?_, h4⟩
  rw [hb, if_neg (by decide)] at h3
  rw [← h2.len, h3]; rfl
theorem ReadP.rd {w w' : World} {E : Ent} {q : Int} {e : Ending} (h : ReadP w E q e w') : RdL w (rdE E q) (if rdE E q = 0 then E.b else []) e w' := by
  obtain ⟨A, n, c, L, h1, h2, rfl, h4⟩ := h
  exact ⟨A, n, c, h1, h2, h4⟩
def BBox (w : World) (g : Nat) (b : Bool) : Prop := w.heap[g]? = some (.cells #[.bool b] 4 (0, 0))
theorem info_intD : (Try.prog.info? 3).map (fun i => (i.zero, i.size, i.bytes)) = some (some (.int .i64 0), 1, 8) := by kernel_rfl
def WBox (w : World) (g : Nat) (v : Value) : Prop := w.heap[g]? = some (.cells #[v] 54 (0, 0))
def IBox (w : World) (g : Nat) (n : Int) : Prop := w.heap[g]? = some (.cells #[.int .i64 n] 3 (0, 0))
theorem WBox.cell {w : World} {g : Nat} {v : Value} (h : WBox w g v) : w.cell? ⟨g, 0, none⟩ = some v := by rw [cell_of_row _ _ _ _ _ _ h]; rfl
theorem IBox.cell {w : World} {g : Nat} {n : Int} (h : IBox w g n) : w.cell? ⟨g, 0, none⟩ = some (.int .i64 n) := by rw [cell_of_row _ _ _ _ _ _ h]; rfl
theorem BBox.cell {w : World} {g : Nat} {b : Bool} (h : BBox w g b) : w.cell? ⟨g, 0, none⟩ = some (.bool b) := by rw [cell_of_row _ _ _ _ _ _ h]; rfl
/-- What lies about the subs that are gathered: the sorted entries, and the subs so far. -/
structure TlS (wc : World) (sa : Option Addr) (M sc : Nat) (T : List (Int × Ent)) (L : List Int) (x : World) : Prop where
  bel : Below wc.heap.size wc x
  srt : x.ownsRow (wc.heap.size + 2) 57 7 (.slice sa M sc) M (fr T)
  box : ∃ g c, WBox x (wc.heap.size + 1) (.slice (some ⟨g, 0, none⟩) L.length c) ∧ x.ownsRow wc.heap.size 3 1 (.slice (some ⟨g, 0, none⟩) L.length c) L.length (L.map (Value.int .i64))
theorem TlS.step {wc x y : World} {sa : Option Addr} {M sc : Nat} {T : List (Int × Ent)} {L : List Int} (h : TlS wc sa M sc T L x) (hb : Below x.heap.size x y) : TlS wc sa M sc T L y := by
  obtain ⟨h1, h2, g, c, h3, h4⟩ := h
  exact ⟨kF hb h1, own_below h2 hb, g, c, (hb.block _ (Array.getElem?_eq_some_iff.1 h3).1).trans h3, own_below h4 hb⟩
theorem own_grown {X Y : World} {base e s n r : Nat} {v : Value} {xs : List Value} {cs : Array Value} {t : TypeId} {f : Nat × Nat} (h : X.ownsRow base e s v n xs) (hg : X.grownBy Y (some r)) (hr : X.heap[r]? = some (.cells cs t f)) (ht : e ≠ t) : Y.ownsRow base e s v n xs :=
  own_blkD h fun b cs' fr' hb hx => hg.block b (Array.getElem?_eq_some_iff.1 hx).1 (fun e' => by cases e'; rw [hr] at hx; cases hx; exact ht rfl)
theorem own_nonD {X Y : World} {B base e s n : Nat} {v : Value} {xs : List Value} {row : Option Nat} (h : X.ownsRow base e s v n xs) (hg : X.grownBy Y row) (hr : ∀ r, row = some r → B ≤ r ∧ ∃ o : Obj, X.heap[r]? = some o ∧ o.isCells = false) : Y.ownsRow base e s v n xs :=
  own_blkD h fun b cs' fr' hb hx => hg.block b (Array.getElem?_eq_some_iff.1 hx).1 (fun e' => by
    obtain ⟨_, o, ho, hc⟩ := hr b e'.symm
    rw [hx] at ho; cases ho; cases hc)
/-- What the range over the subs keeps. -/
structure TeI (w : World) (B I0 g c : Nat) (L pre : List Int) (X : World) : Prop where
  box : WBox X (B + 1) (.slice (some ⟨g, 0, none⟩) L.length c)
  row : X.ownsRow B 3 1 (.slice (some ⟨g, 0, none⟩) L.length c) L.length (L.map (Value.int .i64))
  at_ : IBox X I0 pre.length
  res : BBox X (w.heap.size + 1) false
  fit : pre <+: L
  bel : Below w.heap.size w X
def TeX (L : List Int) (cd : Code) (pre : List Int) (X : World) : Prop := ¬ pre <+: L
theorem TeI_own (w : World) (B I0 g c : Nat) (L : List Int) (Bn : Nat) (h1 : w.heap.size + 1 < Bn) (h2 : I0 < Bn) (h3 : B + 1 < Bn) : OwnFrom Bn (TeI w B I0 g c L) := fun s X Y row h hg hr =>
  ⟨own_heap (β := Unit) _ Bn _ h3 () X Y row h.box hg hr, own_nonD h.row hg hr, own_heap (β := Unit) _ Bn _ h2 () X Y row h.at_ hg hr, own_heap (β := Unit) _ Bn _ h1 () X Y row h.res hg hr, h.fit, h.bel.grown hg h.bel.size (fun k e => by have := (hr k e).1; omega)⟩
theorem pre_snoc {L pre : List Int} {y : Int} (h : pre <+: L) : (pre ++ [y] <+: L) ↔ L[pre.length]? = some y := by
  obtain ⟨r, rfl⟩ := h
  constructor
  · rintro ⟨s, hs⟩
    have : r = y :: s := by simpa using hs.symm
    rw [this]; simp
  · intro h
    rw [List.getElem?_append_right (Nat.le_refl _), Nat.sub_self] at h
    cases r with
    | nil => simp at h
    | cons z r => simp at h; subst h; exact ⟨r, by simp⟩
theorem nums_at {X : World} {B g c k : Nat} {L : List Int} {y : Int} (h : X.ownsRow B 3 1 (.slice (some ⟨g, 0, none⟩) L.length c) L.length (L.map (Value.int .i64))) (hy : L[k]? = some y) : X.cell? ⟨g, k, none⟩ = some (.int .i64 y) := by
  have hk := (List.getElem?_eq_some_iff.1 hy).1
  rw [own_cell h (by omega)]
  rw [List.getElem?_map, hy]; rfl
theorem nums_cap {X : World} {B g c : Nat} {L : List Int} (h : X.ownsRow B 3 1 (.slice (some ⟨g, 0, none⟩) L.length c) L.length (L.map (Value.int .i64))) : L.length ≤ c ∧ c ≤ 9223372036854775807 ∧ g < X.heap.size ∧ B ≤ g := by
  rcases h.2 with ⟨e, _⟩ | ⟨b, cap, cur, e, h0, hb, hl, hm, _⟩
  · cases e
  · cases e; simp only [maxLen] at hm; exact ⟨hl, hm, (Array.getElem?_eq_some_iff.1 hb).1, h0⟩
theorem cell_same {w w' : World} {b : Nat} (e : w'.heap[b]? = w.heap[b]?) (o : Nat) : w'.cell? ⟨b, o, none⟩ = w.cell? ⟨b, o, none⟩ := by simp [World.cell?, e]
def noP (Q : Exit → Act → World → Prop) : Exit → Act → World → Prop := fun e a w => match e with
  | .panic _ => False
  | e => Q e a w
theorem wp_noP {P : Program} {c : Code} {Q : Exit → Act → World → Prop} {a : Act} {w : World} (h : c.wp P (noP Q) a w) : c.wp P Q a w :=
  wp_mono h (fun e a w hh => by cases e with | panic => exact absurd hh id | _ => exact hh)
set_option maxRecDepth 100000 in
set_option maxHeartbeats 20000000 in
theorem tells_in (A0 : Option Addr) (n0 c0 : Nat) (fs : Nat → DeedV) (i j : Int) (w : World) (h : Dds w w.heap.size A0 n0 c0 fs) :
    CallsIn Fence.wide 9 Try.prog 4 #[.slice A0 n0 c0, .agg #[.int .i64 i, .int .i64 j]] w fun e w' => e = .returned (.bool true) ∧ Below w.heap.size w w' := by
  have hal : Below w.heap.size w ((w.alloc (.cells #[.int .i64 i, .int .i64 j] 31)).alloc (.cells #[.bool false] 4)) := ((Below.refl _ _).alloc (Nat.le_refl _) _).alloc (by simp) _
  have HK0 : Hid (Key2 ((w.alloc (.cells #[.int .i64 i, .int .i64 j] 31)).alloc (.cells #[.bool false] 4)) w.heap.size i j) := Lib.hid (heap_alloc2_old w _ _)
  have HZ0 : Hid (BBox ((w.alloc (.cells #[.int .i64 i, .int .i64 j] 31)).alloc (.cells #[.bool false] 4)) (w.heap.size + 1) false) := Lib.hid (heap_alloc2_new w _ _)
  have HDS := Lib.hid (h.step hal)
  have HA0 := Lib.hid hal
  have HQ1 := eql_subs
  clear h hal
  refine callsIn_of_wp_marks Try.func4 rfl trivial ?_ rfl
  simp only [Try.ntmps4, List.size_toArray, List.length_cons, List.length_nil, Nat.reduceAdd, Nat.reduceSub, Array.replicate_succ, Array.replicate_zero, List.push_toArray, List.append_toArray, List.nil_append, List.cons_append]
  refine wpIn_wide.2 ?_
  go_wp2_with fail
  generalize ((w.alloc (.cells #[.int .i64 i, .int .i64 j] 31)).alloc (.cells #[.bool false] 4)) = w0 at *
  refine (played_any w0 A0 n0 c0 fs HDS.out).mono ?_
  rintro e w1 ⟨g, T, ch, a, c, R, rfl, hbo, hT, hc1, hc2, hb1⟩
  have hb2 : Below w1.heap.size w1 (w1.alloc (.cells #[.slice a R.length c, .int .i64 ch] 27)) := (Below.refl _ _).alloc (Nat.le_refl _) _
  have HX2 : Hid (RBox (w1.alloc (.cells #[.slice a R.length c, .int .i64 ch] 27)) w1.heap.size a R.length c ch) := Lib.hid (heap_alloc_new w1 _)
  have HBO2 := Lib.hid (hbo.below hb2)
  have HK2 := Lib.hid ((HK0.out.below hb1).below hb2)
  have hz1 := (Array.getElem?_eq_some_iff.1 HZ0.out).1
  have HZ2 : Hid (BBox (w1.alloc (.cells #[.slice a R.length c, .int .i64 ch] 27)) (w.heap.size + 1) false) := Lib.hid ((hb2.block _ (Nat.lt_of_lt_of_le hz1 hb1.size)).trans ((hb1.block _ hz1).trans HZ0.out))
  have HW2 := Lib.hid (kF hb2 (kF hb1 HA0.out))
  have hGz : w.heap.size + 1 < w1.heap.size := Nat.lt_of_lt_of_le hz1 hb1.size
  have hti := hbo.tie
  have hrl : R.length ≤ 40 := by have := hti.len; omega
  clear hbo hb1 hb2 HK0 HZ0 HDS HA0 hz1
  go_upto_region 2 with fail
  generalize (w1.alloc (.cells #[.slice a R.length c, .int .i64 ch] 27)) = w2 at *
  generalize w1.heap.size = G at *
  have HRD := Lib.hid (fun y (hy : Below w2.heap.size w2 y) => (at_read i j (HBO2.out.dict.below hy) hti.good).mono fun e w' h => h.rd)
  have HRR := Lib.hid (fun y (hy : Below w2.heap.size w2 y) => rdref_tie (ch := ch) i j (own_below HBO2.out.ref hy) hti)
  have HNM := Lib.hid (fun y (hy : Below w2.heap.size w2 y) => at_num i j (HBO2.out.dict.below hy) hti.good)
  have HNR := Lib.hid (fun y (hy : Below w2.heap.size w2 y) => numref_tie (ch := ch) i j (own_below HBO2.out.ref hy) hti)
  have HRW := Lib.hid (fun y (hy : Below w2.heap.size w2 y) => (at_raw i j (HBO2.out.dict.below hy) hti.good).mono fun e w' h => h.rw)
  have HAT := Lib.hid (fun y (hy : Below w2.heap.size w2 y) => atref_tie (ch := ch) i j (own_below HBO2.out.ref hy) hti)
  have HSO := Lib.hid (fun y (hy : Below w2.heap.size w2 y) => sorted_any y w0.heap.size c a R T ch (own_below HBO2.out.ref hy) hti)
  have HSE := Lib.hid (subs_eq hti.good i)
  have hgd := hti.good
  have HGD := Lib.hid hgd
  have HDT := Lib.hid HBO2.out.dict
  have HFB := Lib.hid (fun y (hy : Below w2.heap.size w2 y) => show RBox y G a R.length c ch ∧ Key2 y w.heap.size i j ∧ BBox y (w.heap.size + 1) false from ⟨HX2.out.below hy, HK2.out.below hy, (hy.block _ (Array.getElem?_eq_some_iff.1 HZ2.out).1).trans HZ2.out⟩)
  generalize (if rdE (thI e0 (numI i j) T) (findE i j T) = 0 then (thI e0 (numI i j) T).b else []) = LL at HRD HRR
  generalize rdE (thI e0 (numI i j) T) (findE i j T) = q at HRD HRR
  generalize hasI (numI i j) T = hb at HRW HAT
  generalize numN (thI e0 (numI i j) T).k (thI e0 (numI i j) T).a (thI e0 (numI i j) T).lo (thI e0 (numI i j) T).hi (thI e0 (numI i j) T).b = nv at HNM HNR
  generalize numB (thI e0 (numI i j) T).k (thI e0 (numI i j) T).a (thI e0 (numI i j) T).lo (thI e0 (numI i j) T).hi (thI e0 (numI i j) T).b = nb at HNM HNR
  generalize R.length = N at *
  clear hti HBO2 hgd HX2 HK2 HZ2
  have HB2 := Lib.hid (Below.refl w2.heap.size w2)
  obtain ⟨hx_, hk_, hz_⟩ := HFB.out w2 HB2.out
  obtain ⟨d0, d1⟩ := hx_.cells
  obtain ⟨q0, q1⟩ := hk_.cells
  clear hx_ hk_ hz_
  go_wp2_with fail
  refine (HRD.out w2 HB2.out).mono ?_
  rintro e w3 ⟨A1, n1, c1, rfl, hy1, hb3⟩
  have HB3 := Lib.hid (kF hb3 HB2.out)
  have HY3 := Lib.hid hy1
  clear hb3 hy1 HB2 HRD d0 d1 q0 q1
  obtain ⟨hx_, hk_, hz_⟩ := HFB.out w3 HB3.out
  obtain ⟨d0, d1⟩ := hx_.cells
  obtain ⟨q0, q1⟩ := hk_.cells
  clear hx_ hk_ hz_
  go_wp2_with fail
  refine (HRR.out w3 HB3.out).mono ?_
  rintro e w4 ⟨rfl, hb4⟩
  have HB4 := Lib.hid (kF hb4 HB3.out)
  have HY4 := Lib.hid (HY3.out.step hb4)
  clear hb4 HB3 HY3 HRR d0 d1 q0 q1
  obtain ⟨hx_, hk_, hz_⟩ := HFB.out w4 HB4.out
  obtain ⟨d0, d1⟩ := hx_.cells
  obtain ⟨q0, q1⟩ := hk_.cells
  clear hx_ hk_ hz_
  go_wp2_with fail
  refine (HNM.out w4 HB4.out).mono ?_
  rintro e w5 ⟨rfl, hb5⟩
  have HB5 := Lib.hid (kF hb5 HB4.out)
  have HY5 := Lib.hid (HY4.out.step hb5)
  clear hb5 HB4 HY4 HNM d0 d1 q0 q1
  obtain ⟨hx_, hk_, hz_⟩ := HFB.out w5 HB5.out
  obtain ⟨d0, d1⟩ := hx_.cells
  obtain ⟨q0, q1⟩ := hk_.cells
  clear hx_ hk_ hz_
  go_wp2_with fail
  refine (HNR.out w5 HB5.out).mono ?_
  rintro e w6 ⟨rfl, hb6⟩
  have HB6 := Lib.hid (kF hb6 HB5.out)
  have HY6 := Lib.hid (HY5.out.step hb6)
  clear hb6 HB5 HY5 HNR d0 d1 q0 q1
  obtain ⟨hx_, hk_, hz_⟩ := HFB.out w6 HB6.out
  obtain ⟨d0, d1⟩ := hx_.cells
  obtain ⟨q0, q1⟩ := hk_.cells
  clear hx_ hk_ hz_
  go_wp2_with fail
  refine (HRW.out w6 HB6.out).mono ?_
  rintro e w7 ⟨A2, n2, c2, rfl, hn2, hb7⟩
  have HB7 := Lib.hid (kF hb7 HB6.out)
  have HN2 := Lib.hid hn2
  have hcv := conv_any (HY6.out.step hb7)
  clear hb7 hn2 HB6 HY6 HRW d0 d1 q0 q1
  have he : ((strOfNums LL).toList == (strOfNums LL).toList) = true := by simp
  have tq : (q == q) = true := by simp
  have tn : (nv == nv) = true := by simp
  have tb : (nb == nb) = true := by simp
  obtain ⟨hx_, hk_, hz_⟩ := HFB.out w7 HB7.out
  obtain ⟨d0, d1⟩ := hx_.cells
  obtain ⟨q0, q1⟩ := hk_.cells
  clear hx_ hk_ hz_
  go_upto_region 7 with fail
  go_cut [99] from 60 to 98 (fun s99 wx => s99 = .bool false ∧ Hid (Below w2.heap.size w2 wx))
  case first =>
    cases hb with
    | true =>
      go_wp2_with fail
      refine (HAT.out w7 HB7.out).mono ?_
      rintro e w8 ⟨v, rfl, hv, hb8⟩
      have HB8 := Lib.hid (kF hb8 HB7.out)
      have hv1 : (0 : Int) ≤ v := of_decide_eq_true hv
      go_wp2_with fail
      go_meet
      exact ⟨rfl, HB8⟩
    | false =>
      obtain rfl := HN2.out rfl
      go_wp2_with fail
      refine (HAT.out w7 HB7.out).mono ?_
      rintro e w8 ⟨v, rfl, hv, hb8⟩
      have HB8 := Lib.hid (kF hb8 HB7.out)
      have hv1 : ¬ (0 : Int) ≤ v := of_decide_eq_false hv
      go_wp2_with fail
      go_meet
      exact ⟨rfl, HB8⟩
  case rest =>
    obtain ⟨rfl, HB8⟩ := hcut
    clear HB7 HAT HN2 hcv he tq tn tb d0 d1 q0 q1
    obtain ⟨w8, hw8⟩ : ∃ w8, w8 = wc := ⟨_, rfl⟩
    subst hw8
    have hba : Below w8.heap.size w8 ((w8.alloc (.cells #[] 3)).alloc (.cells #[.slice (some ⟨w8.heap.size, 0, none⟩) 0 0] 54)) := kA (kA (Below.refl _ _) _) _
    have hx1 : WBox ((w8.alloc (.cells #[] 3)).alloc (.cells #[.slice (some ⟨w8.heap.size, 0, none⟩) 0 0] 54)) (w8.heap.size + 1) (.slice (some ⟨w8.heap.size, 0, none⟩) 0 0) := by
      have h2 := heap_alloc_new (w8.alloc (.cells #[] 3)) (.cells #[.slice (some ⟨w8.heap.size, 0, none⟩) 0 0] 54)
      rw [World.size_alloc] at h2
      exact h2
    have hx2 : ((w8.alloc (.cells #[] 3)).alloc (.cells #[.slice (some ⟨w8.heap.size, 0, none⟩) 0 0] 54)).ownsRow w8.heap.size 3 1 (.slice (some ⟨w8.heap.size, 0, none⟩) 0 0) 0 [] := own_below (own_made w8 w8.heap.size 3 1 (Nat.le_refl _)) ((Below.refl _ _).alloc (Nat.le_refl _) _)
    have hx3 : ((w8.alloc (.cells #[] 3)).alloc (.cells #[.slice (some ⟨w8.heap.size, 0, none⟩) 0 0] 54)).heap.size = w8.heap.size + 2 := by simp
    have HX1 := Lib.hid hx1
    have HX2 := Lib.hid hx2
    have HX3 := Lib.hid hx3
    have HBA := Lib.hid hba
    have HSR := Lib.hid (HSO.out _ (kF hba HB8.out))
    obtain ⟨hx_, hk_, hz_⟩ := HFB.out _ (kF hba HB8.out)
    obtain ⟨d0, d1⟩ := hx_.cells
    obtain ⟨q0, q1⟩ := hk_.cells
    clear hx_ hk_ hz_ hx1 hx2 hx3 hba
    go_upto_region 10 with fail
    generalize (w8.alloc (.cells #[] 3)).alloc (.cells #[.slice (some ⟨w8.heap.size, 0, none⟩) 0 0] 54) = w9 at *
    go_wp2_with fail
    refine HSR.out.mono ?_
    rintro e w10 ⟨sa, sc, rfl, hsr, hb10⟩
    obtain ⟨M, hM⟩ : ∃ M, T.length = M := ⟨_, rfl⟩
    rw [hM] at hsr hT ⊢
    have HM := Lib.hid hM
    have hx3 := HX3.out
    have HTS : Hid (TlS w8 sa M sc T [] w10) := Lib.hid ⟨kF hb10 HBA.out, by rw [← hx3]; exact hsr, w8.heap.size, 0, (hb10.block _ (Array.getElem?_eq_some_iff.1 HX1.out).1).trans HX1.out, own_below HX2.out hb10⟩
    have HXT := Lib.hid (fun p (hp : p < M) => show ∃ x, T[p]? = some x from ⟨_, List.getElem?_eq_getElem (by rw [hM]; exact hp)⟩)
    have HWS := Lib.hid (fun p x (hx : T[p]? = some x) => show wantL i (T.take (p + 1)) = if x.1 / 256 = i then wantL i (T.take p) ++ [x.1 % 256] else wantL i (T.take p) from by rw [List.take_add_one, hx]; exact wantL_snoc i (T.take p) x)
    have HWL := Lib.hid (fun p => show (wantL i (T.take p)).length ≤ 40 from by
      unfold wantL
      rw [List.length_map]
      have h1 := List.length_filter_le (fun x : Int × Ent => decide (x.1 / 256 = i)) (T.take p)
      rw [List.length_take] at h1
      omega)
    have HWNIL : Hid (wantL i (T.take 0) = []) := Lib.hid rfl
    obtain ⟨i0, hi0, hz0', hz1', hz2'⟩ := info_parts info_intD
    have HI := Lib.hid hi0
    clear hM hsr hb10 HX1 HX2 HX3 HBA HSR HSO hi0 d0 d1 q0 q1 hx3
    go_wp2_with fail
    go_loopg [20] M (fun k s20 wr => ∃ p : Nat, p + k = M ∧ s20 = .int .i64 p ∧ Hid (TlS w8 sa M sc T (wantL i (T.take p)) wr))
    case atStart => exact ⟨0, by omega, rfl, by rw [HWNIL.out]; exact HTS⟩
    case round =>
      clear HTS
      obtain ⟨p, hp, rfl, HTS⟩ := hrel
      obtain ⟨gw, cw, hwb, hwr⟩ := HTS.out.box
      by_cases hlt : p < M
      · obtain ⟨x, hx⟩ := HXT.out p hlt
        obtain ⟨gs, rfl, hgs, hsc1, hsc2, -⟩ := rowsR_at HTS.out.srt hx
        simp only [maxLen] at hsc2
        have HCX := Lib.hid (fun y (hy : Below wr.heap.size wr y) => show y.cell? ⟨gs, p * 7, none⟩ = some (.int .i64 (x.1 / 256)) ∧ y.cell? ⟨gs, p * 7 + 1, none⟩ = some (.int .i64 (x.1 % 256)) from ⟨(cellsR (own_below HTS.out.srt hy) hx).1, (cellsR (own_below HTS.out.srt hy) hx).2.1⟩)
        have hpI : (p : Int) < (M : Int) := by omega
        have hws := HWS.out p x hx
        obtain ⟨hx_, hk_, hz_⟩ := HFB.out wr (kF HTS.out.bel HB8.out)
        obtain ⟨q0, q1⟩ := hk_.cells
        obtain ⟨k0, k1⟩ := HCX.out wr (Below.refl _ _)
        clear hx_ hk_ hz_ hx
        generalize x.1 / 256 = xi at *
        generalize x.1 % 256 = xj at *
        by_cases hxi : xi = i
        · subst hxi
          rw [if_pos rfl] at hws
          have HWN := Lib.hid hws
          clear hws
          have HBR := Lib.hid (Below.refl wr.heap.size wr)
          go_wp2_with fail
          go_quiet (fail)
          have HBN := Lib.hid (below_drewN HBR.out nq)
          have HT2 := Lib.hid (HTS.out.step HBN.out)
          have HC2 := Lib.hid (HCX.out _ HBN.out)
          clear HTS HCX HBR hwb hwr q0 q1 k0 k1
          obtain ⟨wy, hwy⟩ : ∃ wy, wy = wr.drewN nq := ⟨_, rfl⟩
          rw [← hwy] at HT2 HC2 ⊢
          clear hwy HBN
          obtain ⟨gv, cv, hwb, hwr⟩ := HT2.out.box
          have hln := HWL.out p
          obtain ⟨Lw, hLw⟩ : ∃ Lw, wantL xi (T.take p) = Lw := ⟨_, rfl⟩
          rw [hLw] at hwb hwr hln HWN HT2
          clear hLw
          go_upto_region 15 with fail
          have HS := Lib.hid (fun z (hz : Below wy.heap.size wy z) => show z.cell? ⟨w8.heap.size + 1, 0, none⟩ = some (.slice (some ⟨gv, 0, none⟩) Lw.length cv) ∧ z.cell? ⟨gs, p * 7 + 1, none⟩ = some (.int .i64 xj) from
            ⟨by rw [cell_of_row _ _ _ _ _ _ ((hz.block _ (Array.getElem?_eq_some_iff.1 hwb).1).trans hwb)]; rfl, by
              have h1 := HC2.out.2
              have h2 := block_lt_of_cell h1
              rw [hz.cell (p := ⟨gs, _, none⟩) h2]; exact h1⟩)
          refine wp_noP ?_
          refine wp_region_last (fun w' => w'.cell? ⟨w8.heap.size + 1, 0, none⟩ = some (.slice (some ⟨gv, 0, none⟩) Lw.length cv) ∧ w'.cell? ⟨gs, p * 7 + 1, none⟩ = some (.int .i64 xj)) 9 (by kernel_rfl) (HS.out _ (kD _)) (fun hHeld => ?_)
          have HBx0 := Lib.hid (kD wy)
          generalize wy.drew = x0 at *
          refine wpAnyL_take (i := 0) (v := ?_) rfl (by kernel_rfl) (by kernel_rfl) (by kernel_rfl) (by kernel_rfl) (by kernel_rfl) (fun _ _ _ h => h) (Or.inl ⟨by rfl, ?_⟩) (by assumption) ?_
          rotate_left
          · intro wq hSw; (try dsimp only at hSw); first | (go_simp; done) | (go_simp; with_reducible rfl) | with_reducible rfl
          go_simp
          refine wpAnyL_take (i := 1) (v := ?_) rfl (by kernel_rfl) (by kernel_rfl) (by kernel_rfl) (by kernel_rfl) (by kernel_rfl) (fun _ _ _ h => h) (Or.inl ⟨by rfl, ?_⟩) (by assumption) ?_
          rotate_left
          · intro wq hSw; (try dsimp only at hSw); first | (go_simp; done) | (go_simp; with_reducible rfl) | with_reducible rfl
          go_simp
          refine wpAnyL_take (i := 2) (v := ?_) rfl (by kernel_rfl) (by kernel_rfl) (by kernel_rfl) (by kernel_rfl) (by kernel_rfl) (fun _ _ _ h => h) (Or.inl ⟨by rfl, ?_⟩) (by assumption) ?_
          rotate_left
          · intro wq hSw; (try dsimp only at hSw); first | (go_simp; done) | (go_simp; with_reducible rfl) | with_reducible rfl
          go_simp
          refine wpAnyL_take (i := 3) (v := ?_) rfl (by kernel_rfl) (by kernel_rfl) (by kernel_rfl) (by kernel_rfl) (by kernel_rfl) (fun _ _ _ h => h) (Or.inl ⟨by rfl, ?_⟩) (by assumption) ?_
          rotate_left
          · intro wq hSw; (try dsimp only at hSw); first | (go_simp; done) | (go_simp; with_reducible rfl) | with_reducible rfl
          go_simp
          refine wpAnyL_take (i := 4) (v := ?_) rfl (by kernel_rfl) (by kernel_rfl) (by kernel_rfl) (by kernel_rfl) (by kernel_rfl) (fun _ _ _ h => h) (Or.inl ⟨by rfl, ?_⟩) (by assumption) ?_
          rotate_left
          · intro wq hSw; (try dsimp only at hSw); first | (go_simp; done) | (go_simp; with_reducible rfl) | with_reducible rfl
          go_simp
          refine wpAnyL_take (i := 5) (v := ?_) rfl (by kernel_rfl) (by kernel_rfl) (by kernel_rfl) (by kernel_rfl) (by kernel_rfl) (fun _ _ _ h => h) (Or.inl ⟨by rfl, ?_⟩) (by assumption) ?_
          rotate_left
          · intro wq hSw; (try dsimp only at hSw); first | (go_simp; done) | (go_simp; with_reducible rfl) | with_reducible rfl
          go_simp
          refine wpAnyL_take (i := 6) (v := ?_) rfl (by kernel_rfl) (by kernel_rfl) (by kernel_rfl) (by kernel_rfl) (by kernel_rfl) (fun _ _ _ h => h) (Or.inl ⟨by rfl, ?_⟩) (by assumption) ?_
          rotate_left
          · intro wq hSw; (try dsimp only at hSw); first | (go_simp; done) | (go_simp; with_reducible rfl) | with_reducible rfl
          go_simp
          refine wpAnyL_ready (rs := [7]) (by kernel_rfl) (by simp) ?_
          refine (AllReadyL.cons rfl (fun K hK => ?_) AllReadyL.nil)
          go_simp
          have HBx1 := Lib.hid (kA HBx0.out (.cells #[.int .i64 xj] 3))
          refine hK.out _ _ ?_ (fun hHeld => ?_)
          · (try dsimp only); exact HS.out _ HBx1.out
          clear hK K
          have HRW := Lib.hid (heap_alloc_new x0 (.cells #[.int .i64 xj] 3))
          generalize x0.alloc (.cells #[.int .i64 xj] 3) = x1 at *
          generalize x0.heap.size = rb at *
          have HT3 := Lib.hid (HT2.out.step HBx1.out)
          have HWB3 : Hid (WBox x1 (w8.heap.size + 1) (.slice (some ⟨gv, 0, none⟩) Lw.length cv)) := Lib.hid ((HBx1.out.block _ (Array.getElem?_eq_some_iff.1 hwb).1).trans hwb)
          have HWR3 := Lib.hid (own_below hwr HBx1.out)
          have hwh := (nums_cap HWR3.out).2.2.2
          have hgvx : ∃ cur, x1.heap[gv]? = some (.cells cur 3 (0, 0)) := by
            rcases HWR3.out.2 with ⟨e, _⟩ | ⟨b, cap, cur, e, _, hb, _⟩
            · cases e
            · cases e; exact ⟨cur, hb⟩
          obtain ⟨cur, hcur⟩ := hgvx
          refine wpAnyL_ready (rs := [8]) (by kernel_rfl) (by simp) ?_
          refine (AllReadyL.cons rfl (fun K hK => ?_) AllReadyL.nil)
          refine Eq.mpr (if_pos (by kernel_rfl)) ?_
          refine wp_append_own _ (.tmp 118) (.tmp 125) 54 rfl w8.heap.size 3 i0 (.int .i64 0) 1 8 Try.underlying54 HI.out hz0' hz1' hz2' rfl (by omega) (.slice (some ⟨gv, 0, none⟩) Lw.length cv) Lw.length (Lw.map (Value.int .i64)) rfl HWR3.out ⟨rb, 0, none⟩ 1 1 [.int .i64 xj] rfl rfl (row_cells2 HRW.out) (by simp [Value.oneCell']) (by simp [maxLen]; omega) (by omega) HT3.out.bel.size ?_
          intro v2 x2 r1 r2 r3
          rcases r1.2 with ⟨ev, _⟩ | ⟨g2, c2, cur2, rfl, hg2, _⟩
          · exact absurd (r3.1 ev).1 (by simp)
          have hne : gv ≠ w8.heap.size + 1 := fun e => by
            have h1 := HWB3.out
            unfold WBox at h1
            rw [← e, hcur] at h1
            cases h1
          have hwb4 : WBox x2 (w8.heap.size + 1) (.slice (some ⟨gv, 0, none⟩) Lw.length cv) := (r2.block _ (Array.getElem?_eq_some_iff.1 HWB3.out).1 (fun e => by cases e; exact hne rfl)).trans HWB3.out
          have hsrt4 := own_grown HT3.out.srt r2 hcur (by decide)
          have hbel4 : Below w8.heap.size w8 x2 := HT3.out.bel.grown r2 HT3.out.bel.size (fun k e => by cases e; exact hwh)
          have HSX := Lib.hid (show x2.cell? ⟨w8.heap.size + 1, 0, none⟩ = some (.slice (some ⟨gv, 0, none⟩) Lw.length cv) ∧ x2.cell? ⟨gs, p * 7 + 1, none⟩ = some (.int .i64 xj) from ⟨hwb4.cell, by
            have h1 := (HS.out _ HBx1.out).2
            have h2 := block_lt_of_cell h1
            rw [← h1]
            exact cell_same (r2.block gs h2 (fun e => by
              cases e
              rcases HT3.out.srt.2 with ⟨e2, _⟩ | ⟨b, cap, cur3, e2, _, hb, _⟩
              · cases e2
              · cases e2; rw [hcur] at hb; cases hb)) _⟩)
          have HWB4 := Lib.hid hwb4
          have HSR4 := Lib.hid hsrt4
          have HBE4 := Lib.hid hbel4
          have HWR4 := Lib.hid r1
          clear r1 r2 r3 hg2 hwb4 hsrt4 hbel4 hwb hwr hcur hne
          refine hK.out _ _ ?_ (fun hHeld => ?_)
          · (try dsimp only); exact HSX.out
          clear hK K
          have d0 := HWB4.out.cell
          have fd0 := frozen_of_row _ _ 0 _ _ HWB4.out
          refine wpAnyL_ready (rs := [9]) (by kernel_rfl) (by simp) ?_
          refine AllReadyL.last rfl (fun K hK => ?_)
          go_simp
          refine hK.out _ _ ?_
          clear hK K
          refine wpAnyL_done (by kernel_rfl) ?_ _
          simp only [noP]
          clear hHeld d0 fd0
          have HTZ : Hid (TlS w8 (some ⟨gs, 0, none⟩) M sc T (wantL xi (T.take (p + 1))) (x2.setCell ⟨w8.heap.size + 1, 0, none⟩ (.slice (some ⟨g2, 0, none⟩) (Lw.length + 1) c2))) := Lib.hid (by
            rw [HWN.out]
            refine ⟨HBE4.out.setCell (p := ⟨w8.heap.size + 1, 0, none⟩) (by simp) _, own_grown HSR4.out (grown_set _ _ _ _) HWB4.out (by decide), g2, c2, ?_, ?_⟩
            · rw [List.length_append]; exact one_set HWB4.out _
            · rw [List.length_append, List.map_append]
              exact own_grown HWR4.out (grown_set _ _ _ _) HWB4.out (by decide))
          go_wp2_with fail
          go_roundg (gk - 1)
          case measure => omega
          case rel => exact ⟨p + 1, by omega, by go_num, HTZ⟩
        · rw [if_neg hxi] at hws
          have HWN := Lib.hid hws
          clear hws
          have txi : (xi == i) = false := by simp [hxi]
          have HBR := Lib.hid (Below.refl wr.heap.size wr)
          go_wp2_with fail
          go_quiet (fail)
          go_wp2_with fail
          go_roundg (gk - 1)
          case measure => omega
          case rel => exact ⟨p + 1, by omega, by go_num, Lib.hid (by rw [HWN.out]; exact HTS.out.step (below_drewN HBR.out nq))⟩
      · have hpM : p = M := by omega
        subst hpM
        have hL : wantL i (T.take p) = subsL i T := by rw [← HM.out, List.take_length, HSE.out]
        rw [hL] at hwb hwr
        have hts := HTS.out
        rw [hL] at hts
        have HTL := Lib.hid hts
        obtain ⟨L, hLL⟩ : ∃ L, subsL i T = L := ⟨_, rfl⟩
        rw [hLL] at hwb hwr HTL
        have HLL := Lib.hid hLL
        clear hL hts hLL HTS HWS HWL HWNIL HXT
        obtain ⟨w11, hw11⟩ : ∃ w11, w11 = wr := ⟨_, rfl⟩
        subst hw11
        have hba : Below w11.heap.size w11 (w11.alloc (.cells #[.int .i64 0] 3)) := (Below.refl _ _).alloc (Nat.le_refl _) _
        have HIB : Hid (IBox (w11.alloc (.cells #[.int .i64 0] 3)) w11.heap.size 0) := Lib.hid (heap_alloc_new w11 _)
        have HWB : Hid (WBox (w11.alloc (.cells #[.int .i64 0] 3)) (w8.heap.size + 1) (.slice (some ⟨gw, 0, none⟩) L.length cw)) := Lib.hid ((hba.block _ (Array.getElem?_eq_some_iff.1 hwb).1).trans hwb)
        have HWR := Lib.hid (own_below hwr hba)
        have HB12 := Lib.hid (kF (kF hba HTL.out.bel) HB8.out)
        obtain ⟨hx_, hk_, hz_⟩ := HFB.out _ HB12.out
        obtain ⟨q0, q1⟩ := hk_.cells
        have HZ12 := Lib.hid hz_
        have HDT12 := Lib.hid (HDT.out.below HB12.out)
        have HI0 := Lib.hid (show w11.heap.size < (w11.alloc (.cells #[.int .i64 0] 3)).heap.size by simp)
        have HGW := Lib.hid (show gw < w11.heap.size from (nums_cap hwr).2.2.1)
        have HE1 := Lib.hid (show w8.heap.size + 1 < w11.heap.size from (Array.getElem?_eq_some_iff.1 hwb).1)
        have HZL := Lib.hid (show w.heap.size + 1 < w11.heap.size by
          have h1 := HTL.out.bel.size; have h2 := HB8.out.size; have h3 := (Array.getElem?_eq_some_iff.1 (HFB.out w2 (Below.refl _ _)).2.2).1; omega)
        clear hx_ hk_ hz_ hba hwb hwr HTL HB8 HFB HDT
        go_upto_region 17 with fail
        generalize w11.alloc (.cells #[.int .i64 0] 3) = w12 at *
        generalize w11.heap.size = I0 at *
        go_wp2_with fail
        refine (dsubs_any w12 (some ⟨g, 0, none⟩) i).mono ?_
        rintro e w13 ⟨rfl, rfl⟩
        have hb3 : Below w12.heap.size w12 ((w12.alloc (.cells #[.pointer (some ⟨g, 0, none⟩)] 23)).alloc (.cells #[.int .i64 i] 3)) := kA ((Below.refl _ _).alloc (Nat.le_refl _) _) _
        have hx1 := heap_alloc2_old w12 (.cells #[.pointer (some ⟨g, 0, none⟩)] 23) (.cells #[.int .i64 i] 3)
        have hx2 := heap_alloc2_new w12 (.cells #[.pointer (some ⟨g, 0, none⟩)] 23) (.cells #[.int .i64 i] 3)
        have hsz : ((w12.alloc (.cells #[.pointer (some ⟨g, 0, none⟩)] 23)).alloc (.cells #[.int .i64 i] 3)).heap.size = w12.heap.size + 2 := by simp
        obtain ⟨s_, v_, hdi, _, _, _⟩ := HDT12.out.below hb3
        have hi0 := HI0.out
        have hst := subs1_L 8 (by omega) w12.heap.size (w12.heap.size + 1) g s_ _ T ch v_ i (fun k => k = I0) (fun _ => none) 0 loc_none _ (Nat.zero_le _) hx1 hx2 hdi (by have := HGD.out.few; omega) HGD.out.rise (fun x hx => by have := (HGD.out.ok x hx).1; omega) (fun k hk => by omega) (fun k hk => by cases hk) (by show ¬ w12.heap.size + 1 = I0; omega) (by simp)
        rw [HLL.out] at hst
        have hI : TeI w w8.heap.size I0 gw cw L [] ((w12.alloc (.cells #[.pointer (some ⟨g, 0, none⟩)] 23)).alloc (.cells #[.int .i64 i] 3)) :=
          ⟨(hb3.block _ (Array.getElem?_eq_some_iff.1 HWB.out).1).trans HWB.out, own_below HWR.out hb3, (hb3.block _ (Array.getElem?_eq_some_iff.1 HIB.out).1).trans HIB.out, (hb3.block _ (Array.getElem?_eq_some_iff.1 HZ12.out).1).trans HZ12.out, List.nil_prefix, kF hb3 (kF HB12.out HW2.out)⟩
        have HST := Lib.hid hst
        have HII := Lib.hid hI
        have HSZ := Lib.hid hsz
        clear hb3 hx1 hx2 hdi hst hI hsz HDT12 HWB HWR HIB HZ12 HB12 q0 q1
        go_wp2_with fail
        generalize (w12.alloc (.cells #[.pointer (some ⟨g, 0, none⟩)] 23)).alloc (.cells #[.int .i64 i] 3) = w13 at *
        have hsz := HSZ.out
        have he1 := HE1.out
        have hzl := HZL.out
        generalize w12.heap.size = B7 at *
        refine (wpIn_wide (n := 9)).1 ?_
        refine range_L (by omega) (gf := 42) (lb := #[.pointer (some ⟨B7, 0, none⟩), .pointer (some ⟨B7 + 1, 0, none⟩)]) rfl (enters_of Try.func42 (by kernel_rfl) rfl) HST.out kq_t (fun X k o o' hk ho hc _ => kq_put loc_none (Nat.zero_le _) ho hc) (Below.refl _ _) (fun _ => rfl)
          (TeI w w8.heap.size I0 gw cw L) (TeX L) (TeI_own w _ I0 gw cw L _ (by omega) (by omega) (by omega)) (fun _ => fun _ _ _ _ h _ _ => h) HII.out ?a1 ?assign ?body ?done ?stop
        case assign =>
          intro lp y X K hK
          dsimp only [encS]
          gi_wp2
          exact hK
        case body =>
          rintro lp pre y X hI hlen
          have c18 := hI.box.cell
          have c21 := hI.at_.cell
          have f21 : X.frozen? ⟨I0, 0, none⟩ = false := frozen_of_row _ _ 0 _ _ hI.at_
          have c4 := hI.res.cell
          have f4 : X.frozen? ⟨w.heap.size + 1, 0, none⟩ = false := frozen_of_row _ _ 0 _ _ hI.res
          obtain ⟨hc1, hc2, hc3, hc4⟩ := nums_cap hI.row
          have k4 := fun v => (KeepsOthers.setCell X ⟨w.heap.size + 1, 0, none⟩ v).from w13.heap.size
          have k21 := fun v => (KeepsOthers.setCell X ⟨I0, 0, none⟩ v).from w13.heap.size
          have K4 := Lib.hid k4
          have K21 := Lib.hid k21
          have HIX := Lib.hid hI
          by_cases hy : L[pre.length]? = some y
          · have hlt := (List.getElem?_eq_some_iff.1 hy).1
            have cw0 := nums_at hI.row hy
            have hpn : ¬ ((L.length : Int) ≤ (pre.length : Int)) := by omega
            have hpI : (pre.length : Int) < (L.length : Int) := by omega
            have HY := Lib.hid ((pre_snoc hI.fit).2 hy)
            have hln : ((pre ++ [y]).length : Int) = (pre.length : Int) + 1 := by simp
            have HLN := Lib.hid hln
            have HNE := Lib.hid (show ¬ w8.heap.size + 1 = I0 ∧ ¬ w.heap.size + 1 = I0 by omega)
            clear hy hI k4 k21 hln
            generalize pre.length = pl at *
            generalize L.length = ll at *
            gi_wp2
            refine ⟨(KeepsOthers.setCell _ _ _).from _, ⟨by simp, fun k cs t fr hk hf _ => heap_other _ _ _ _ (by simpa using hf), .inl rfl⟩, ?_⟩
            have hgw := HGW.out
            refine ⟨(heap_other _ _ _ _ (by simp; omega)).trans HIX.out.box, own_blkD HIX.out.row fun b cs fr hb hx => heap_other _ _ _ _ (by cases hb; simp; omega), ?_, (heap_other _ _ _ _ (by simp; omega)).trans HIX.out.res, HY.out, HIX.out.bel.setCell (p := ⟨I0, 0, none⟩) (by show w.heap.size ≤ I0; omega) _⟩
            rw [HLN.out]
            exact one_set HIX.out.at_ _
          · have HN := Lib.hid (fun h => hy ((pre_snoc hI.fit).1 h))
            by_cases hlt : pre.length < L.length
            · obtain ⟨z, hz⟩ : ∃ z, L[pre.length]? = some z := ⟨_, List.getElem?_eq_getElem hlt⟩
              have cw0 := nums_at hI.row hz
              have hpn : ¬ ((L.length : Int) ≤ (pre.length : Int)) := by omega
              have hpI : (pre.length : Int) < (L.length : Int) := by omega
              have tz : (z != y) = true := by simp; rintro rfl; exact hy hz
              clear hy hz hI k4 k21
              generalize pre.length = pl at *
              generalize L.length = ll at *
              gi_wp2
              exact ⟨(KeepsOthers.setCell _ _ _).from _, HN.out⟩
            · have hpn : (L.length : Int) ≤ (pre.length : Int) := by omega
              clear hy hI k4 k21
              generalize pre.length = pl at *
              generalize L.length = ll at *
              gi_wp2
              exact ⟨(KeepsOthers.setCell _ _ _).from _, HN.out⟩
        case stop =>
          rintro D cc pre X hD hSp hX hK
          exact absurd hSp hX
        case done =>
          rintro D ys X hD hS hI hK
          obtain rfl : L = ys := hS.symm
          have HIX := Lib.hid hI
          have HKD := Lib.hid hK
          have HDD := Lib.hid (show w.heap.size + 1 < D ∧ w.heap.size ≤ D by omega)
          clear hI hK hS
          go_wp2_with fail
          refine (live14_any _).mono ?_
          rintro e X2 ⟨rfl, hb2⟩
          have c18 := WBox.cell (w := X2) ((hb2.block _ (Array.getElem?_eq_some_iff.1 HIX.out.box).1).trans HIX.out.box)
          have c21 := IBox.cell (w := X2) ((hb2.block _ (Array.getElem?_eq_some_iff.1 HIX.out.at_).1).trans HIX.out.at_)
          have hz2 : BBox X2 (w.heap.size + 1) false := (hb2.block _ (Array.getElem?_eq_some_iff.1 HIX.out.res).1).trans HIX.out.res
          have c4 := hz2.cell
          have f4 : X2.frozen? ⟨w.heap.size + 1, 0, none⟩ = false := frozen_of_row _ _ 0 _ _ hz2
          have hd2 : X2.heap[D]? = some (.deferred (some [])) := (hb2.block _ (Array.getElem?_eq_some_iff.1 HKD.out).1).trans HKD.out
          have hw2 := kF hb2 HIX.out.bel
          have hdd := HDD.out
          have hKS : (X2.setCell ⟨w.heap.size + 1, 0, none⟩ (.bool true)).heap[D]? = some (.deferred (some [])) := (heap_other _ _ _ _ (by simp; omega)).trans hd2
          have hcE : ((X2.setCell ⟨w.heap.size + 1, 0, none⟩ (.bool true)).putObj D (.deferred none)).cell? ⟨w.heap.size + 1, 0, none⟩ = some (.bool true) := by
            rw [cell_of_row _ _ _ _ _ _ ((World.putObj_heap_other (by omega)).trans (one_set hz2 (.bool true)))]; rfl
          have hE : Below w.heap.size w ((X2.setCell ⟨w.heap.size + 1, 0, none⟩ (.bool true)).putObj D (.deferred none)) := by
            have h1 := hw2.setCell (p := ⟨w.heap.size + 1, 0, none⟩) (by simp) (.bool true)
            exact h1.grown (grownBy_putObj' _ D (.deferred none)) h1.size (fun k e => by cases e; omega)
          have HKS := Lib.hid hKS
          have HCE := Lib.hid hcE
          have HE := Lib.hid hE
          clear hb2 hz2 hd2 hw2 hdd hKS hcE hE
          go_wp2_with fail
          refine ⟨by simp, .inl ⟨_, _, rfl, run_takeDeferred HKS.out, ?_⟩⟩
          refine ⟨.bool true, ?_, rfl, HE.out⟩
          simp [results, Try.f4, go_sem, HCE.out]
theorem tells_any (A0 : Option Addr) (n0 c0 : Nat) (fs : Nat → DeedV) (i j : Int) (w : World) (h : Dds w w.heap.size A0 n0 c0 fs) :
    Calls Try.prog 4 #[.slice A0 n0 c0, .agg #[.int .i64 i, .int .i64 j]] w fun e w' => e = .returned (.bool true) ∧ Below w.heap.size w w' := callsIn_wide.1 (tells_in A0 n0 c0 fs i j w h)
end Go.Proofs.Ytmfjndkopkjchaa
