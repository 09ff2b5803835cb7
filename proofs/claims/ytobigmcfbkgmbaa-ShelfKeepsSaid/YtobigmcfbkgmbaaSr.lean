/- Deeds that came in; a table and the document's rows behind them. -/
import Derived.Test.YtobigmcfbkgmbaaSq
import Derived.Lib.SmallJoins
import Derived.Deep.Slices
namespace Go.Proofs.Ytobigmcfbkgmbaa
open Go.RowKit Go.ChangeShapes Go.WideShapes Go.Deep Go.Joins

/-- One deed as it lies. -/
structure D3 where
  k : Int
  n : Int
  u : Int
structure DeedAt (w : World) (b off i : Nat) (f : D3) : Prop where
  ck : w.cell? ⟨b, off + 3 * i, none⟩ = some (.int .i64 f.k)
  cn : w.cell? ⟨b, off + 3 * i + 1, none⟩ = some (.int .i64 f.n)
  cu : w.cell? ⟨b, off + 3 * i + 2, none⟩ = some (.int .i64 f.u)
  rk : -9223372036854775808 ≤ f.k ∧ f.k ≤ 9223372036854775807
  rn : -9223372036854775808 ≤ f.n ∧ f.n ≤ 9223372036854775807
  ru : -9223372036854775808 ≤ f.u ∧ f.u ≤ 9223372036854775807
structure Deeds (w : World) (B : Nat) (A : Option Addr) (n c : Nat) (fs : Nat → D3) : Prop where
  cap : n ≤ c
  max : c ≤ maxLen
  cells : 0 < n → ∃ b off, A = some ⟨b, off, none⟩ ∧ b < B ∧ ∀ i, i < n → DeedAt w b off i (fs i)
theorem DeedAt.below {w w' : World} {B b off i : Nat} {f : D3} (h : DeedAt w b off i f) (hb : b < B) (hk : Below B w w') : DeedAt w' b off i f :=
  ⟨(hk.cell (p := ⟨b, _, none⟩) hb).trans h.ck, (hk.cell (p := ⟨b, _, none⟩) hb).trans h.cn, (hk.cell (p := ⟨b, _, none⟩) hb).trans h.cu, h.rk, h.rn, h.ru⟩
theorem deed_one : oneCellFields Try.prog (Try.prog.fieldsOf 49) = true := by kernel_rfl
theorem deed_under : Try.prog.underlying 49 = some (.struct (Try.prog.fieldsOf 49)) := by kernel_rfl
theorem deed_cells : Try.prog.cellsOf 49 = 3 := by kernel_rfl
theorem deed0 : ((Try.prog.fieldsOf 49)[0]?).map (·.type) = some 3 := by kernel_rfl
theorem deed1 : ((Try.prog.fieldsOf 49)[1]?).map (·.type) = some 3 := by kernel_rfl
theorem deed2 : ((Try.prog.fieldsOf 49)[2]?).map (·.type) = some 3 := by kernel_rfl
section
variable {H : Type} {enc : TypeId × Value → H} {w : World}
/-- One field of a struct whose cells were read. -/
theorem cell_of_deed {fuel i j T : Nat} {a : Addr} {cs : List Value} {x : DataW H × List MemPlace} (hc : w.cells? 0 (a.add (i * 3)) 3 = some cs) (ht : DataW.trod enc Try.prog w 0 (fun _ => true) true fuel 49 cs = some x)
    (hj : j < 3) (hf : ((Try.prog.fieldsOf 49)[j]?).map (·.type) = some T) :
    ∃ v y n, w.cell? (a.add (i * 3 + j)) = some v ∧ DataW.trod enc Try.prog w 0 (fun _ => true) true n T [v] = some y := by
  obtain ⟨f, hff, rfl⟩ := Option.map_eq_some_iff.1 hf
  obtain ⟨ys, n, _, _, _, hlen, hg⟩ := DataW.trod_struct deed_under ht
  obtain ⟨_, hcl, hat⟩ := World.cells?_some hc
  obtain ⟨ho, hk⟩ := hone_of deed_one j f hff
  have hjl : j < (Try.prog.fieldsOf 49).size := (Array.getElem?_eq_some_iff.1 hff).1
  have h1 := hg j f hff
  rw [ho, hk] at h1
  have hone' : (cs.drop j).take 1 = [cs[j]'(by omega)] := by
    rw [List.drop_eq_getElem_cons (by omega)]
    rfl
  rw [hone', List.getElem?_eq_getElem (by omega)] at h1
  refine ⟨_, _, n, ?_, h1⟩
  rw [← Go.Deep.add_add, hat j hj, List.getElem?_eq_getElem]
theorem deed_of {fuel i : Nat} {a : Addr} {b off : Nat} {cs : List Value} {x : DataW H × List MemPlace} (ha : a = ⟨b, off, none⟩) (hc : w.cells? 0 (a.add (i * 3)) 3 = some cs) (ht : DataW.trod enc Try.prog w 0 (fun _ => true) true fuel 49 cs = some x) :
    ∃ f, DeedAt w b off i f := by
  subst ha
  obtain ⟨v0, y0, n0, c0, t0⟩ := cell_of_deed hc ht (j := 0) (by omega) deed0
  obtain ⟨v1, y1, n1, c1, t1⟩ := cell_of_deed hc ht (j := 1) (by omega) deed1
  obtain ⟨v2, y2, n2, c2, t2⟩ := cell_of_deed hc ht (j := 2) (by omega) deed2
  obtain ⟨k, e0, _, w0⟩ := DataW.trod_int Try.underlying3 t0
  obtain ⟨n, e1, _, w1⟩ := DataW.trod_int Try.underlying3 t1
  obtain ⟨u, e2, _, w2⟩ := DataW.trod_int Try.underlying3 t2
  simp only [List.cons.injEq, and_true] at e0 e1 e2
  subst e0 e1 e2
  rw [add_plainR] at c0 c1 c2
  have hk := bounds_i64 w0
  have hn := bounds_i64 w1
  have hu := bounds_i64 w2
  refine ⟨⟨k, n, u⟩, ?_, ?_, ?_, ⟨hk.1, hk.2⟩, ⟨hn.1, hn.2⟩, ⟨hu.1, hu.2⟩⟩
  · rw [← c0]; congr 2; omega
  · rw [← c1]; congr 2; omega
  · rw [← c2]; congr 2; omega
theorem deeds_of_trod {fuel : Nat} {A : Option Addr} {n c : Nat} {x : DataW H × List MemPlace} (h : DataW.trod enc Try.prog w 0 (fun _ => true) true fuel 22 [.slice A n c] = some x) : ∃ fs, Deeds w w.heap.size A n c fs := by
  rcases open_slice Try.underlying22 h with ⟨hcs, _⟩ | ⟨a, len, cap, m, n', D, Pl, hcs, _, hl, hm, hmm, _, hi⟩
  · simp at hcs
    obtain ⟨rfl, rfl, rfl⟩ := hcs
    exact ⟨fun _ => ⟨0, 0, 0⟩, Nat.le_refl _, by simp [maxLen], fun h => absurd h (by omega)⟩
  · simp at hcs
    obtain ⟨rfl, rfl, rfl⟩ := hcs
    simp at hmm
    subst hmm
    rw [deed_cells] at hi
    rcases Nat.eq_zero_or_pos n with h0 | h0
    · subst h0
      exact ⟨fun _ => ⟨0, 0, 0⟩, hl, hm, fun h => absurd h (by omega)⟩
    · obtain ⟨b, off, spot⟩ := a
      obtain ⟨cs0, hc0, ht0⟩ := hi 0 (by omega)
      obtain ⟨v0, y0, n0, c0, _⟩ := cell_of_deed hc0 ht0 (j := 0) (by omega) deed0
      have hspot : spot = none := by simpa [Addr.add] using World.cell?_spot c0
      subst hspot
      have hb : b < w.heap.size := by have := block_lt_of_cell c0; simpa [Addr.add] using this
      have hex : ∀ i, ∃ f, i < n → DeedAt w b off i f := fun i => by
        by_cases hin : i < n
        · obtain ⟨cs, hc, ht⟩ := hi i (by omega)
          obtain ⟨f, hf⟩ := deed_of rfl hc ht
          exact ⟨f, fun _ => hf⟩
        · exact ⟨⟨0, 0, 0⟩, fun h => absurd h hin⟩
      exact ⟨fun i => Classical.choose (hex i), hl, hm, fun _ => ⟨b, off, rfl, hb, fun i hi => Classical.choose_spec (hex i) hi⟩⟩
end
/-- A table and the document's rows hold the same. -/
structure PS (w : World) (T R : List (Int × Int)) (g : Nat) (vr : Value) (wr : World) : Prop where
  tie : Tie R T
  tab : TabAt 53 59 w g T.length (fl eI eI T) wr
  row : wr.ownsRow w.heap.size 44 2 vr R.length (fl eI eI R)
  isnt : vr.ownBlock ≠ some g
  rng : ∀ x ∈ R, -9223372036854775808 ≤ x.1 ∧ x.1 ≤ 9223372036854775807
theorem dcut_rng {R : List (Int × Int)} (h : ∀ x ∈ R, -9223372036854775808 ≤ x.1 ∧ x.1 ≤ 9223372036854775807) (k : Int) : ∀ x ∈ dcut k R, -9223372036854775808 ≤ x.1 ∧ x.1 ≤ 9223372036854775807 := fun x hx => h x (List.mem_filter.1 hx).1
theorem dput_rng {R : List (Int × Int)} (h : ∀ x ∈ R, -9223372036854775808 ≤ x.1 ∧ x.1 ≤ 9223372036854775807) (k v : Int) (hk : -9223372036854775808 ≤ k ∧ k ≤ 9223372036854775807) : ∀ x ∈ dput k v R, -9223372036854775808 ≤ x.1 ∧ x.1 ≤ 9223372036854775807 := fun x hx => by
  rcases List.mem_append.1 hx with hx | hx
  · exact dcut_rng h k x hx
  · simp only [List.mem_singleton] at hx; subst hx; exact hk
theorem TabAt.lt {tb tr : Nat} {w0 w : World} {g n : Nat} {cs : List Value} (h : TabAt tb tr w0 g n cs w) : g < w.heap.size := h.tab.elim fun _ hv => hv.lt
theorem PS.step {w wr w2 : World} {T R : List (Int × Int)} {g : Nat} {vr : Value} (h : PS w T R g vr wr) (hb : Below wr.heap.size wr w2) : PS w T R g vr w2 :=
  ⟨h.tie, h.tab.step hb, own_below h.row hb, h.isnt, h.rng⟩
theorem three {w : World} {D t : Nat} {a b c : Int} (h : w.heap[D]? = some (.cells #[.int .i64 a, .int .i64 b, .int .i64 c] t (0, 0))) : w.cell? ⟨D, 0, none⟩ = some (.int .i64 a) ∧ w.cell? ⟨D, 1, none⟩ = some (.int .i64 b) ∧ w.cell? ⟨D, 2, none⟩ = some (.int .i64 c) := by
  refine ⟨?_, ?_, ?_⟩ <;> (rw [cell_of_row _ _ _ _ _ _ h]; rfl)
/-- What 'played' answers. -/
def Played (w : World) (e : Ending) (w' : World) : Prop := ∃ T R g vr, T.length ≤ 50 ∧ e = .returned (.tuple #[.pointer (some ⟨g, 0, none⟩), vr, .bool true]) ∧ PS w T R g vr w'
set_option maxRecDepth 100000 in
set_option maxHeartbeats 2000000 in
theorem played_any (A0 : Option Addr) (n c0 : Nat) (ds : Nat → D3) (w : World) (h : Deeds w w.heap.size A0 n c0 ds) :
    Calls Try.prog 6 #[.slice A0 n c0] w (Played w) := by
  have hcap := h.cap
  have hmax := h.max
  simp only [maxLen] at hmax
  obtain ⟨K, hK⟩ : ∃ K : Nat, (K = n ∧ n ≤ 50) ∨ (K = 50 ∧ 50 < n) := by
    rcases Nat.lt_or_ge 50 n with h | h
    · exact ⟨50, .inr ⟨rfl, h⟩⟩
    · exact ⟨n, .inl ⟨rfl, h⟩⟩
  have hKn : K ≤ n ∧ K ≤ 50 := by omega
  have HDS := Lib.hid h
  have HK := Lib.hid hK
  obtain ⟨hK1, hK2⟩ := hKn
  clear h hK
  go_enter Try.func6, Try.ntmps6
  go_wp2_with fail
  refine (tab_newA w w (Below.refl _ _)).mono ?_
  rintro e w1 ⟨rfl, hx1, hb1⟩
  have hal : Below w1.heap.size w1 (w1.alloc (.cells #[] 44)) := (Below.refl _ _).alloc (Nat.le_refl _) _
  have hm1 := own_made w1 w.heap.size 44 2 hb1.size
  have hp0 : PS w [] [] w.heap.size (.slice (some ⟨w1.heap.size, 0, none⟩) 0 0) (w1.alloc (.cells #[] 44)) :=
    ⟨tie_nil, hx1.step hal, hm1, fun e => by have := hx1.lt; simp [Value.ownBlock] at e; omega, by simp⟩
  have HP := Lib.hid hp0
  clear hx1 hb1 hal hm1 hp0
  go_wp2_with fail
  go_loopw [5, 6, 7] (fun s r i wr => ∃ (j : Nat) (T R : List (Int × Int)) (g : Nat), j ≤ K ∧ T.length ≤ j ∧ i = .int .i64 j ∧ s = .pointer (some ⟨g, 0, none⟩) ∧ Hid (PS w T R g r wr)) (fun _ _ i _ => K - (intOf i).toNat)
  case atStart => exact ⟨0, [], [], _, Nat.zero_le _, Nat.le_refl _, rfl, rfl, HP⟩
  case round =>
    clear HP
    obtain ⟨j, T, R, g, hj, hTj, rfl, rfl, HP⟩ := hrel
    obtain ⟨ra, rc, rfl⟩ := own_slice HP.out.row
    by_cases hlt : j < K
    · have hlt' : j < n := by omega
      obtain ⟨b, off, rfl, hbb, hcl'⟩ := HDS.out.cells (by omega)
      have hf := (hcl' j hlt').below hbb HP.out.tab.below
      have ck := hf.ck
      have cn := hf.cn
      have cu := hf.cu
      have hrn := hf.rn
      generalize ds j = f at hf ck cn cu hrn
      obtain ⟨k, dn, du⟩ := f
      simp only at ck cn cu hrn
      have HRN := Lib.hid hrn
      clear hrn
      rw [Nat.mul_comm] at ck cn cu
      have hal : Below wr.heap.size wr (wr.alloc (.cells #[.int .i64 k, .int .i64 dn, .int .i64 du] 49)) := (Below.refl _ _).alloc (Nat.le_refl _) _
      have hP4 := HP.out.step hal
      have hD := heap_alloc_new wr (.cells #[.int .i64 k, .int .i64 dn, .int .i64 du] 49)
      have hgD : g < wr.heap.size := HP.out.tab.lt
      have hjn : (j : Int) < (n : Int) := by omega
      have hj50 : (j : Int) < 50 := by omega
      have hRl : R.length ≤ j := by rw [HP.out.tie.len]; exact hTj
      have hget := dget_any _ _ _ R dn hP4.row (by omega)
      rw [← hP4.tie.get, ← hP4.tie.has] at hget
      have HG := Lib.hid hget
      have HP4 := Lib.hid hP4
      have HD := Lib.hid hD
      have HTI := Lib.hid hP4.tie
      clear hf hcl' HP hP4 hal hget hD
      by_cases k0 : k = 0
      · subst k0
        have hdp := dput_any _ _ _ R dn du HP4.out.row (by omega)
        have HDP := Lib.hid hdp
        clear hdp
        go_wp2_with fail
        refine HG.out.mono ?_
        rintro e w5 ⟨rfl, rfl⟩
        go_wp2_with fail
        refine HDP.out.mono ?_
        rintro e w6 ⟨v6, rfl, hr6, hb6⟩
        obtain ⟨qa, qc, rfl⟩ := own_slice hr6
        have hD6 := (hb6.block wr.heap.size (by simp)).trans HD.out
        obtain ⟨z0, z1, z2⟩ := three hD6
        have hpt := tab_putA w w6 g T dn du (HP4.out.tab.step hb6) (by omega) HTI.out.rise
        have HPT := Lib.hid hpt
        have HR6 := Lib.hid hr6
        have HB6 := Lib.hid hb6
        clear hD6 hpt hr6 hb6
        go_wp2_with fail
        refine HPT.out.mono ?_
        rintro e w7 ⟨rfl, hx7, hk7⟩
        have hln := putI_le dn du T
        have HPN : Hid (PS w (putI dn du T) (dput dn du R) g (.slice qa (dput dn du R).length qc) w7) := Lib.hid ⟨HTI.out.put dn du, hx7, own_kept (own_less HR6.out (Nat.le_trans HP4.out.tab.below.size (Nat.le_refl _))) hk7 (by decide) (fun e => by have := (HR6.out.lt _ e).1; simp at this; omega), fun e => by have := (HR6.out.lt _ e).1; simp at this; omega, dput_rng HP4.out.rng _ _ HRN.out⟩
        clear hx7 hk7 z0 z1 z2
        go_wp2_with fail
        exact ⟨⟨j + 1, _, _, g, by omega, by omega, by go_num, rfl, HPN⟩, by simp [intOf]; omega⟩
      · have t0 : (k == 0) = false := by simp [k0]
        by_cases k1 : k = 1
        · subst k1
          have hdp := dcut_any _ _ _ R dn HP4.out.row (by omega)
          have HDP := Lib.hid hdp
          clear hdp k0
          go_wp2_with fail
          refine HG.out.mono ?_
          rintro e w5 ⟨rfl, rfl⟩
          go_wp2_with fail
          refine HDP.out.mono ?_
          rintro e w6 ⟨v6, rfl, hr6, hb6⟩
          obtain ⟨qa, qc, rfl⟩ := own_slice hr6
          have hD6 := (hb6.block wr.heap.size (by simp)).trans HD.out
          obtain ⟨z0, z1, z2⟩ := three hD6
          have hpt := tab_cutA w w6 g T dn (HP4.out.tab.step hb6) (by omega) HTI.out.rise
          have HPT := Lib.hid hpt
          have HR6 := Lib.hid hr6
          have HB6 := Lib.hid hb6
          clear hD6 hpt hr6 hb6
          go_wp2_with fail
          refine HPT.out.mono ?_
          rintro e w7 ⟨rfl, hx7, hk7⟩
          have hln : (cutI dn T).length ≤ T.length := by rw [cut_filter HTI.out.rise]; exact dcut_le _ _
          have HPN : Hid (PS w (cutI dn T) (dcut dn R) g (.slice qa (dcut dn R).length qc) w7) := Lib.hid ⟨HTI.out.cut dn, hx7, own_kept (own_less HR6.out (Nat.le_trans HP4.out.tab.below.size (Nat.le_refl _))) hk7 (by decide) (fun e => by have := (HR6.out.lt _ e).1; simp at this; omega), fun e => by have := (HR6.out.lt _ e).1; simp at this; omega, dcut_rng HP4.out.rng _⟩
          clear hx7 hk7 z0 z1 z2
          go_wp2_with fail
          exact ⟨⟨j + 1, _, _, g, by omega, by omega, by go_num, rfl, HPN⟩, by simp [intOf]; omega⟩
        · have t1 : (k == 1) = false := by simp [k1]
          by_cases k2 : k = 2
          · subst k2
            have hfk := tab_forkA w _ g T HP4.out.tab (by omega) HTI.out.rise
            have HFK := Lib.hid hfk
            clear hfk k0 k1
            go_wp2_with fail
            refine HG.out.mono ?_
            rintro e w5 ⟨rfl, rfl⟩
            go_wp2_with fail
            refine HFK.out.mono ?_
            rintro e w6 ⟨g', rfl, hb6, hg', hpc⟩
            have hD6 := (hb6.block wr.heap.size (by simp)).trans HD.out
            obtain ⟨z0, z1, z2⟩ := three hD6
            have HB6 := Lib.hid hb6
            have HG' := Lib.hid hg'
            have HPC := Lib.hid (hpc dn du du)
            have HD6 := Lib.hid hD6
            clear hb6 hg' hpc hD6
            go_wp2_with fail
            refine HPC.out.mono ?_
            rintro e w7 ⟨r7, rfl, hk7, hc7⟩
            have hD7 := (hk7.2 _ _ _ _ HD6.out (by decide) (by omega)).trans HD6.out
            clear z0 z1 z2
            obtain ⟨z0, z1, z2⟩ := three hD7
            have HK7 := Lib.hid hk7
            have HC7 := Lib.hid hc7
            clear hk7 hc7 hD7
            go_wp2_with fail
            refine HC7.out.mono ?_
            rintro e w8 ⟨x8, r8, rfl, hk8, hx8⟩
            have HPN : Hid (PS w T R g' (.slice ra R.length rc) w8) := Lib.hid ⟨HTI.out, hx8, own_kept (own_kept (own_below HP4.out.row HB6.out) HK7.out (by decide) HP4.out.isnt) hk8 (by decide) HP4.out.isnt, fun e => by have := (HP4.out.row.lt _ e).2; have := HG'.out; omega, HP4.out.rng⟩
            clear hx8 hk8 z0 z1 z2
            go_wp2_with fail
            exact ⟨⟨j + 1, _, _, g', by omega, by omega, by go_num, rfl, HPN⟩, by simp [intOf]; omega⟩
          · have t2 : (k == 2) = false := by simp [k2]
            clear k0 k1 k2
            go_wp2_with fail
            refine HG.out.mono ?_
            rintro e w5 ⟨rfl, rfl⟩
            go_wp2_with fail
            exact ⟨⟨j + 1, _, _, g, by omega, by omega, by go_num, rfl, HP4⟩, by simp [intOf]; omega⟩
    · have hcs : ((n : Int) ≤ (j : Int)) ∨ ((j : Int) < (n : Int) ∧ (50 : Int) ≤ (j : Int)) := by have := HK.out; omega
      rcases hcs with hcs | ⟨hcs, hcs2⟩
      all_goals
        go_wp2_with fail
        go_ret3
        exact ⟨T, R, g, _, by omega, rfl, HP.out⟩
end Go.Proofs.Ytobigmcfbkgmbaa
