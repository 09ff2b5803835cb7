/- Deeds that came in; a queue and the document's beside each other. -/
import Derived.Test.YtnhlmpomgbpoiaaQp
namespace Go.Proofs.Ytnhlmpomgbpoiaa
open Go.RowKit Go.ChangeShapes Go.WideShapes Go.Deep Go.Joins

/-- One deed as it lies. -/
structure DeedV where
  k : Int
  A : Option Addr
  m : Nat
  c : Nat
  l : List Int
  n : Int
/-- Place i of a row of deeds at ⟨b, off⟩. -/
structure DeedAt (w : World) (B b off i : Nat) (f : DeedV) : Prop where
  ck : w.cell? ⟨b, off + 3 * i, none⟩ = some (.int .i64 f.k)
  cl : w.cell? ⟨b, off + 3 * i + 1, none⟩ = some (.slice f.A f.m f.c)
  cn : w.cell? ⟨b, off + 3 * i + 2, none⟩ = some (.int .i64 f.n)
  rk : -9223372036854775808 ≤ f.k ∧ f.k ≤ 9223372036854775807
  rn : -9223372036854775808 ≤ f.n ∧ f.n ≤ 9223372036854775807
  nums : Nums w B f.A f.m f.c f.l
/-- The slice '.slice A n c' of deeds reads as fs. -/
structure Deeds (w : World) (B : Nat) (A : Option Addr) (n c : Nat) (fs : Nat → DeedV) : Prop where
  cap : n ≤ c
  max : c ≤ maxLen
  cells : 0 < n → ∃ b off, A = some ⟨b, off, none⟩ ∧ b < B ∧ ∀ i, i < n → DeedAt w B b off i (fs i)
section
variable {w w' : World} {B B' n c b off i : Nat} {A : Option Addr} {fs : Nat → DeedV} {f : DeedV}
theorem DeedAt.below (h : DeedAt w B b off i f) (hb : b < B) (hk : Below B w w') : DeedAt w' B b off i f :=
  ⟨(hk.cell (p := ⟨b, _, none⟩) hb).trans h.ck, (hk.cell (p := ⟨b, _, none⟩) hb).trans h.cl, (hk.cell (p := ⟨b, _, none⟩) hb).trans h.cn, h.rk, h.rn, h.nums.below hk⟩
end

theorem deed_one : oneCellFields Try.prog (Try.prog.fieldsOf 30) = true := by kernel_rfl
theorem deed_under : Try.prog.underlying 30 = some (.struct (Try.prog.fieldsOf 30)) := by kernel_rfl
theorem deed_cells : Try.prog.cellsOf 30 = 3 := by kernel_rfl
theorem deed0 : ((Try.prog.fieldsOf 30)[0]?).map (·.type) = some 3 := by kernel_rfl
theorem deed1 : ((Try.prog.fieldsOf 30)[1]?).map (·.type) = some 25 := by kernel_rfl
theorem deed2 : ((Try.prog.fieldsOf 30)[2]?).map (·.type) = some 3 := by kernel_rfl
section
variable {H : Type} {enc : TypeId × Value → H} {w : World}
/-- One field of a struct whose cells were read. -/
theorem cell_of_deed {fuel i j T : Nat} {a : Addr} {cs : List Value} {x : DataW H × List MemPlace} (hc : w.cells? 0 (a.add (i * 3)) 3 = some cs) (ht : DataW.trod enc Try.prog w 0 (fun _ => true) true fuel 30 cs = some x)
    (hj : j < 3) (hf : ((Try.prog.fieldsOf 30)[j]?).map (·.type) = some T) :
    ∃ v y n, w.cell? (a.add (i * 3 + j)) = some v ∧ DataW.trod enc Try.prog w 0 (fun _ => true) true n T [v] = some y := by
  obtain ⟨f, hff, rfl⟩ := Option.map_eq_some_iff.1 hf
  obtain ⟨ys, n, _, _, _, hlen, hg⟩ := DataW.trod_struct deed_under ht
  obtain ⟨_, hcl, hat⟩ := World.cells?_some hc
  obtain ⟨ho, hk⟩ := hone_of deed_one j f hff
  have hjl : j < (Try.prog.fieldsOf 30).size := (Array.getElem?_eq_some_iff.1 hff).1
  have h1 := hg j f hff
  rw [ho, hk] at h1
  have hone' : (cs.drop j).take 1 = [cs[j]'(by omega)] := by
    rw [List.drop_eq_getElem_cons (by omega)]
    rfl
  rw [hone', List.getElem?_eq_getElem (by omega)] at h1
  refine ⟨_, _, n, ?_, h1⟩
  rw [← Go.Deep.add_add, hat j hj, List.getElem?_eq_getElem]
theorem deed_of {fuel i : Nat} {a : Addr} {b off : Nat} {cs : List Value} {x : DataW H × List MemPlace} (ha : a = ⟨b, off, none⟩) (hc : w.cells? 0 (a.add (i * 3)) 3 = some cs) (ht : DataW.trod enc Try.prog w 0 (fun _ => true) true fuel 30 cs = some x) :
    ∃ f, DeedAt w w.heap.size b off i f := by
  subst ha
  obtain ⟨v0, y0, n0, c0, t0⟩ := cell_of_deed hc ht (j := 0) (by omega) deed0
  obtain ⟨v1, y1, n1, c1, t1⟩ := cell_of_deed hc ht (j := 1) (by omega) deed1
  obtain ⟨v2, y2, n2, c2, t2⟩ := cell_of_deed hc ht (j := 2) (by omega) deed2
  obtain ⟨k, e0, _, w0⟩ := DataW.trod_int Try.underlying3 t0
  obtain ⟨A, m, c, e1⟩ := slice_form Try.underlying25 t1
  obtain ⟨n, e2, _, w2⟩ := DataW.trod_int Try.underlying3 t2
  simp only [List.cons.injEq, and_true] at e0 e1 e2
  subst e0 e1 e2
  obtain ⟨l, hB⟩ := nums_of_trod t1
  rw [add_plain'] at c0 c1 c2
  have hk := bounds_i64 w0
  have hn := bounds_i64 w2
  refine ⟨⟨k, A, m, c, l, n⟩, ?_, ?_, ?_, ⟨hk.1, hk.2⟩, ⟨hn.1, hn.2⟩, hB⟩
  · rw [← c0]; congr 2; omega
  · rw [← c1]; congr 2; omega
  · rw [← c2]; congr 2; omega
theorem deeds_of_trod {fuel : Nat} {A : Option Addr} {n c : Nat} {x : DataW H × List MemPlace} (h : DataW.trod enc Try.prog w 0 (fun _ => true) true fuel 22 [.slice A n c] = some x) : ∃ fs, Deeds w w.heap.size A n c fs := by
  rcases open_slice Try.underlying22 h with ⟨hcs, _⟩ | ⟨a, len, cap, m, n', D, Pl, hcs, _, hl, hm, hmm, _, hi⟩
  · simp at hcs
    obtain ⟨rfl, rfl, rfl⟩ := hcs
    exact ⟨fun _ => ⟨0, none, 0, 0, [], 0⟩, Nat.le_refl _, by simp [maxLen], fun h => absurd h (by omega)⟩
  · simp at hcs
    obtain ⟨rfl, rfl, rfl⟩ := hcs
    simp at hmm
    subst hmm
    rw [deed_cells] at hi
    rcases Nat.eq_zero_or_pos n with h0 | h0
    · subst h0
      exact ⟨fun _ => ⟨0, none, 0, 0, [], 0⟩, hl, hm, fun h => absurd h (by omega)⟩
    · obtain ⟨b, off, spot⟩ := a
      obtain ⟨cs0, hc0, ht0⟩ := hi 0 (by omega)
      obtain ⟨v0, y0, n0, c0, _⟩ := cell_of_deed hc0 ht0 (j := 0) (by omega) deed0
      have hspot : spot = none := by simpa [Addr.add] using World.cell?_spot c0
      subst hspot
      have hb : b < w.heap.size := by have := block_lt_of_cell c0; simpa [Addr.add] using this
      have hex : ∀ i, ∃ f, i < n → DeedAt w w.heap.size b off i f := fun i => by
        by_cases hin : i < n
        · obtain ⟨cs, hc, ht⟩ := hi i (by omega)
          obtain ⟨f, hf⟩ := deed_of rfl hc ht
          exact ⟨f, fun _ => hf⟩
        · exact ⟨⟨0, none, 0, 0, [], 0⟩, fun h => absurd h hin⟩
      exact ⟨fun i => Classical.choose (hex i), hl, hm, fun _ => ⟨b, off, rfl, hb, fun i hi => Classical.choose_spec (hex i) hi⟩⟩
end

/-- A queue at g, and the document's at hr, hold the same. -/
structure Pl (w0 wr : World) (hr g : Nat) (lim : Int) (V : List Int) (lost : Int) (A : Option Addr) (c : Nat) (Ar : Option Addr) (cr : Nat) : Prop where
  q : Que wr w0.heap.size g lim (ints V) lost A V.length c
  d : DqAt wr hr Ar V.length cr lim lost
  r : Nums wr wr.heap.size Ar V.length cr V
  sep : 0 < V.length → ∀ b, blk Ar = some b → b ≠ g ∧ b ≠ hr ∧ blk A ≠ some b
  gh : g ≠ hr
  ah : blk A ≠ some hr
  bg : w0.heap.size ≤ g
  bh : w0.heap.size ≤ hr
  bel : Below w0.heap.size w0 wr
section
variable {w0 wr w2 w3 : World} {hr g c cr c' cr' : Nat} {lim lost lost' : Int} {V V' : List Int} {A Ar A' Ar' : Option Addr}
theorem Pl.step (h : Pl w0 wr hr g lim V lost A c Ar cr) (hb : Below wr.heap.size wr w2) : Pl w0 w2 hr g lim V lost A c Ar cr :=
  ⟨h.q.below hb, h.d.keep (hb.block _ h.d.lt), h.r.step hb, h.sep, h.gh, h.ah, h.bg, h.bh, h.bel.trans (hb.mono h.bel.size)⟩
/-- The document's queue behind a call on the other one. -/
theorem Pl.ref (h : Pl w0 wr hr g lim V lost A c Ar cr) (ht : Tch wr w2 g A) : DqAt w2 hr Ar V.length cr lim lost ∧ Nums w2 w2.heap.size Ar V.length cr V ∧ Below w0.heap.size w0 w2 := by
  refine ⟨h.d.keep (ht.block _ h.d.lt (fun e => h.gh e.symm) h.ah), ?_, h.bel.trans (ht.below h.bel.size h.bg fun b e => (h.q.row.lt e).1)⟩
  refine ⟨h.r.len, h.r.cap, h.r.max, h.r.rng, fun h0 => ?_⟩
  obtain ⟨b, off, rfl, hb, hc⟩ := h.r.cells h0
  obtain ⟨s1, s2, s3⟩ := h.sep h0 b rfl
  exact ⟨b, off, rfl, Nat.lt_of_lt_of_le hb ht.size, fun j hj => (World.cell?_of_block (a := ⟨b, off + j, none⟩) (ht.block b hb s1 s3)).trans (hc j hj)⟩
theorem Nxt.weak {w : World} {A A' : Option Addr} (h : Nxt w A A') : ∀ b, blk A' = some b → blk A = some b ∨ w.heap.size ≤ b := fun b hb => by
  rcases h with h | ⟨b', h, hl⟩
  · exact .inl (h ▸ hb)
  · rw [h] at hb; cases hb; exact .inr hl
theorem Tch.weak {w w' : World} {g : Nat} (h : Tch w w' g none) (A : Option Addr) : Tch w w' g A := ⟨h.os, h.tape, h.output, h.size, fun k hk h1 _ => h.block k hk h1 (by simp [blk])⟩
/-- A fork has taken its place, and the old one has been cleared and filled. -/
theorem Pl.forked {w4 w5 w6 w7 w8 : World} {g5 c5 : Nat} {A5 : Option Addr} (h : Pl w0 w4 hr g lim V lost A c Ar cr) (hq : Que w5 w4.heap.size g5 lim (ints V) lost A5 V.length c5) (hg : w4.heap.size ≤ g5) (hb : Below w4.heap.size w4 w5) (h6 : Tch w5 w6 g none) (h7 : Below w6.heap.size w6 w7) (h8 : Tch w7 w8 g none) : Pl w0 w8 hr g5 lim V lost A5 c5 Ar cr := by
  have hgl := h.q.lt
  have key : ∀ k, k < w5.heap.size → k ≠ g → w8.heap[k]? = w5.heap[k]? := fun k hk hkg => by
    have s6 := h6.size
    have s7 := h7.size
    exact (h8.block k (by omega) hkg (by simp [blk])).trans ((h7.block k (by omega)).trans (h6.block k hk hkg (by simp [blk])))
  have hA5 : ∀ b, blk A5 = some b → w4.heap.size ≤ b ∧ b < w5.heap.size := fun b hb' => hq.row.lt hb'
  have h48 : ∀ k, k < w4.heap.size → k ≠ g → w8.heap[k]? = w4.heap[k]? := fun k hk hkg => (key k (Nat.lt_of_lt_of_le hk hb.size) hkg).trans (hb.block k hk)
  have hhr := h.d.lt
  refine ⟨(hq.less h.bel.size).keep (key g5 hq.lt (by omega)) (fun b hb' => key b (hA5 b hb').2 (by have := (hA5 b hb').1; omega)), h.d.keep (h48 hr hhr (fun e => h.gh e.symm)), ⟨h.r.len, h.r.cap, h.r.max, h.r.rng, fun h0 => ?_⟩, fun h0 b hb' => ?_, by omega, fun e => by have := (hA5 _ e).1; omega, Nat.le_trans h.bel.size hg, h.bh, ?_⟩
  · obtain ⟨b, off, rfl, hlt, hc⟩ := h.r.cells h0
    obtain ⟨s1, _, _⟩ := h.sep h0 b rfl
    have s5 := hb.size
    have s6 := h6.size
    have s7 := h7.size
    have s8 := h8.size
    exact ⟨b, off, rfl, by omega, fun j hj => (World.cell?_of_block (a := ⟨b, off + j, none⟩) (h48 b hlt s1)).trans (hc j hj)⟩
  · obtain ⟨s1, s2, s3⟩ := h.sep h0 b hb'
    obtain ⟨b2, off2, e2, hlt2, _⟩ := h.r.cells h0
    subst e2
    obtain rfl : b2 = b := by simpa [blk] using hb'
    exact ⟨by omega, s2, fun e => by have := (hA5 _ e).1; omega⟩
  · have hb5 := h.bel.trans (hb.mono h.bel.size)
    have s5 := hb5.size
    have hb6 := hb5.trans (h6.below hb5.size h.bg (fun b e => by simp [blk] at e))
    have hb7 := hb6.trans (h7.mono hb6.size)
    exact hb7.trans (h8.below hb7.size h.bg (fun b e => by simp [blk] at e))
/-- Both have done their deed, and the answer of the document's is stored. -/
theorem Pl.next (h : Pl w0 wr hr g lim V lost A c Ar cr) (hq : Que w2 w0.heap.size g lim (ints V') lost' A' V'.length c') (ht : Tch wr w2 g A) (hn : ∀ b, blk A' = some b → blk A = some b ∨ wr.heap.size ≤ b) (hb : Below w2.heap.size w2 w3)
    (hN : Nums w3 w3.heap.size Ar' V'.length cr' V') (hs : (blk Ar' = blk Ar ∧ (0 < V'.length → 0 < V.length)) ∨ ∀ b, blk Ar' = some b → w2.heap.size ≤ b) :
    Pl w0 (w3.setRow hr #[.slice Ar' V'.length cr', .int .i64 lim, .int .i64 lost']) hr g lim V' lost' A' c' Ar' cr' := by
  obtain ⟨hd2, hr2, hb2⟩ := h.ref ht
  have hg2 := hq.lt
  have hh2 := hd2.lt
  have hA2 : ∀ b, blk A' = some b → b < w2.heap.size := fun b hb' => (hq.row.lt hb').2
  have hsep : 0 < V'.length → ∀ b, blk Ar' = some b → b ≠ g ∧ b ≠ hr ∧ blk A' ≠ some b := fun h0 b hb' => by
    rcases hs with ⟨h1, h2⟩ | h1
    · rw [h1] at hb'
      obtain ⟨s1, s2, s3⟩ := h.sep (h2 h0) b hb'
      obtain ⟨b2, off2, e2, hlt2, _⟩ := h.r.cells (h2 h0)
      subst e2
      obtain rfl : b2 = b := by simpa [blk] using hb'
      refine ⟨s1, s2, fun e => ?_⟩
      rcases hn _ e with h3 | h3
      · exact s3 h3
      · omega
    · have := h1 b hb'
      refine ⟨by omega, by omega, fun e => ?_⟩
      have := hA2 b e
      omega
  have hah : blk A' ≠ some hr := fun e => by
    rcases hn _ e with h3 | h3
    · exact h.ah h3
    · have := h.d.lt; omega
  have hset : ∀ k, k ≠ hr → (w3.setRow hr #[.slice Ar' V'.length cr', .int .i64 lim, .int .i64 lost']).heap[k]? = w3.heap[k]? := fun k hk => setRow_other w3 hr k _ hk
  refine ⟨hq.keep ((hset g h.gh).trans (hb.block g hg2)) (fun b hb' => (hset b (fun e => hah (e ▸ hb'))).trans (hb.block b (hA2 b hb'))),
    setRow_heap w3 hr _ _ _ (0, 0) ((hb.block hr hh2).trans hd2), ⟨hN.len, hN.cap, hN.max, hN.rng, fun h0 => ?_⟩, hsep, h.gh, hah, h.bg, h.bh, below_setRow (hb2.trans (hb.mono hb2.size)) h.bh _⟩
  obtain ⟨b, off, rfl, hlt, hc⟩ := hN.cells h0
  obtain ⟨_, s2, _⟩ := hsep h0 b rfl
  exact ⟨b, off, rfl, by simp; exact hlt, fun j hj => (World.cell?_of_block (a := ⟨b, off + j, none⟩) (hset b s2)).trans (hc j hj)⟩
end
theorem i64_and3 (n : Int) : bits .and .i64 n 3 = n % 4 := by
  have h3 : (BitVec.ofInt 64 3).toNat = 2 ^ 2 - 1 := by decide
  have key : (BitVec.ofInt 64 n &&& BitVec.ofInt 64 3).toNat = (n % ((2 ^ 64 : Nat) : Int)).toNat % 2 ^ 2 := by
    rw [BitVec.toNat_and, BitVec.toNat_ofInt, h3, Nat.and_two_pow_sub_one_eq_mod]
  show IntKind.i64.wrap ((BitVec.ofInt 64 n &&& BitVec.ofInt 64 3).toNat : Nat) = n % 4
  rw [key, IntKind.wrap_i64]
  omega
end Go.Proofs.Ytnhlmpomgbpoiaa
