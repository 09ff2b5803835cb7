/- What Put, Take and Clear do with a queue of ints. -/
import Derived.Test.YtncnlbokipieaaaEEqb
namespace Go.Proofs.Ytncnlbokipieaaa
open Go.RowKit
theorem zero_el (w : World) : (zeroValue 3).run Try.prog w = .ok (.int .i64 0) w := by kernel_rfl
/-- A call on the queue g whose things lie at A has turned nothing else. -/
structure Tch (w w' : World) (g : Nat) (A : Option Addr) : Prop where
  os : w'.os = w.os
  tape : w'.tape = w.tape
  output : w'.output = w.output
  size : w.heap.size ≤ w'.heap.size
  block : ∀ k, k < w.heap.size → k ≠ g → blk A ≠ some k → w'.heap[k]? = w.heap[k]?
theorem Tch.below {w w' : World} {g B : Nat} {A : Option Addr} (h : Tch w w' g A) (hB : B ≤ w.heap.size) (hg : B ≤ g) (hA : ∀ b, blk A = some b → B ≤ b) : Below B w w' :=
  ⟨h.os, h.tape, h.output, h.size, fun k hk => h.block k (by omega) (by omega) (fun e => by have := hA k e; omega)⟩
theorem Tch.refl (w : World) (g : Nat) (A : Option Addr) : Tch w w g A := ⟨rfl, rfl, rfl, Nat.le_refl _, fun _ _ _ _ => rfl⟩
theorem Tch.of_below {w w' : World} {g : Nat} {A : Option Addr} (h : Below w.heap.size w w') : Tch w w' g A := ⟨h.os, h.tape, h.output, h.size, fun k hk _ _ => h.block k hk⟩
theorem Tch.drew {w w' : World} {g : Nat} {A : Option Addr} (h : Tch w w' g A) : Tch w w'.drew g A := ⟨h.os, h.tape, h.output, h.size, h.block⟩
theorem Tch.grown {w w1 w2 : World} {g : Nat} {A : Option Addr} (h : Tch w w1 g A) (hg : w1.grownBy w2 (blk A)) : Tch w w2 g A :=
  ⟨hg.os.trans h.os, hg.tape.trans h.tape, hg.output.trans h.output, Nat.le_trans h.size hg.size, fun k hk h1 h2 => (hg.block k (Nat.lt_of_lt_of_le hk h.size) (fun e => h2 e.symm)).trans (h.block k hk h1 h2)⟩
theorem Tch.set {w w1 : World} {g : Nat} {A : Option Addr} (h : Tch w w1 g A) (o : Nat) (v : Value) : Tch w (w1.setCell ⟨g, o, none⟩ v) g A :=
  ⟨h.os, h.tape, h.output, by simp; exact h.size, fun k hk h1 h2 => (Below.heap_setCell _ _ _ _ h1).trans (h.block k hk h1 h2)⟩
theorem Tch.set' {w w1 : World} {g b : Nat} {A : Option Addr} (h : Tch w w1 g A) (hb : blk A = some b) (o : Nat) (v : Value) : Tch w (w1.setCell ⟨b, o, none⟩ v) g A :=
  ⟨h.os, h.tape, h.output, by simp; exact h.size, fun k hk h1 h2 => (Below.heap_setCell _ _ _ _ (fun e => h2 (by rw [hb, e]))).trans (h.block k hk h1 h2)⟩
theorem Src.below {w w' : World} {X : Option Addr} {m : Nat} {news : List Value} (h : Src w X m news) (hb : Below w.heap.size w w') : Src w' X m news := by
  refine ⟨h.1, h.2.1, fun h0 => ?_⟩
  obtain ⟨ad, e, hc⟩ := h.2.2 h0
  exact ⟨ad, e, fun j u hu => (hb.cell (block_lt_of_cell (hc j u hu))).trans (hc j u hu)⟩
theorem info_el : (Try.prog.info? 3).map (fun i => (i.zero, i.size, i.bytes)) = some (some (.int .i64 0), 1, 8) := by kernel_rfl
section
variable {w w' : World} {base g n c n' c' : Nat} {lim lost lost' : Int} {vs vs' : List Value} {A A' : Option Addr}
theorem Que.put (h : Que w base g lim vs lost A n c) (hr : Qs w' base 3 A' n' c' vs') (hg : w'.heap[g]? = w.heap[g]?) (hf : (n' : Int) ≤ lim) (hi : blk A' ≠ some g) :
    Que (w'.setCell ⟨g, 1, none⟩ (.slice A' n' c')) base g lim vs' lost A' n' c' := by
  have hb : w'.heap[g]? = some (.cells #[.int .i64 lim, .slice A n c, .int .i64 lost] 105 (0, 0)) := hg.trans h.box
  refine ⟨by simp [World.setCell, Array.getElem?_modify, hb], hr.keep fun b hb' => Below.heap_setCell _ _ _ _ (fun e => hi (by rw [hb', e])), h.lims, hf, hi⟩
theorem Que.loss (h : Que w base g lim vs lost A n c) (x : Int) : Que (w.setCell ⟨g, 2, none⟩ (.int .i64 x)) base g lim vs x A n c := by
  have hb := h.box
  exact ⟨by simp [World.setCell, Array.getElem?_modify, hb], h.row.keep fun b hb' => Below.heap_setCell _ _ _ _ (fun e => h.isnt (by rw [hb', e])), h.lims, h.fits, h.isnt⟩
/-- Its first thing has gone. -/
theorem Que.gone {b off : Nat} {v : Value} (h : Que w base g lim (v :: vs) lost (some ⟨b, off, none⟩) (n + 1) c) (z : Value) :
    Que ((w.setCell ⟨b, off, none⟩ z).setCell ⟨g, 1, none⟩ (.slice (if c = 1 then some ⟨b, off, none⟩ else some ⟨b, off + 1, none⟩) n (c - 1))) base g lim vs lost (if c = 1 then some ⟨b, off, none⟩ else some ⟨b, off + 1, none⟩) n (c - 1) := by
  have hne : b ≠ g := fun e => h.isnt (by rw [e]; rfl)
  have hb : blk (if c = 1 then some (⟨b, off, none⟩ : Addr) else some ⟨b, off + 1, none⟩) = some b := by split <;> rfl
  exact h.put (h.row.tail z) (Below.heap_setCell _ _ _ _ (fun e => hne e.symm)) (by have := h.fits; omega) (by rw [hb]; simpa using hne)
end
theorem qput_any (w : World) (g base n c m cx : Nat) (lim lost : Int) (vs news : List Value) (A X : Option Addr) (h : Que w base g lim vs lost A n c) (hb : base ≤ w.heap.size) (hX : ∀ k, k ≤ m → Src w X k (news.take k)) (hm : m ≤ cx) (hcx : cx ≤ maxLen) (hlost : 0 ≤ lost ∧ lost + m ≤ 4611686018427387904) :
    Calls Try.prog 53 #[.pointer (some ⟨g, 0, none⟩), .slice X m cx] w fun e w' => ∃ (k : Nat) (A' : Option Addr) (c' : Nat), e = .returned (.int .i64 (k : Nat)) ∧ (k : Int) = min (m : Int) (lim - n) ∧ Que w' base g lim (vs ++ news.take k) (lost + (m - k : Int)) A' (n + k) c' ∧ Tch w w' g A ∧ (blk A' = blk A ∨ ∃ b, blk A' = some b ∧ w.heap.size ≤ b) := by
  have hroom := qroom_any w g base n c lim lost vs A h
  have hfits := h.fits
  obtain ⟨hl0, hl1⟩ := h.lims
  simp only [maxLen] at hcx
  obtain ⟨r, hr⟩ : ∃ r : Nat, lim - n = r := ⟨(lim - n).toNat, by omega⟩
  rw [hr] at hroom
  have main : ∀ k : Nat, k = min m r → Calls Try.prog 53 #[.pointer (some ⟨g, 0, none⟩), .slice X m cx] w fun e w' => ∃ (A' : Option Addr) (c' : Nat), e = .returned (.int .i64 (k : Nat)) ∧ Que w' base g lim (vs ++ news.take k) (lost + (m - k : Int)) A' (n + k) c' ∧ Tch w w' g A ∧ (blk A' = blk A ∨ ∃ b, blk A' = some b ∧ w.heap.size ≤ b) := fun k hk => by
    have hkm : k ≤ m := by omega
    have hnk : ((n + k : Nat) : Int) ≤ lim := by omega
    have hkcx : k ≤ cx := by omega
    have hXk := hX k hkm
    have HH := Lib.hid h
    have HX := Lib.hid hXk
    have HI := Lib.hid h.isnt
    have hlt := h.lt
    clear h hX hXk
    have hmr : (m ≤ r ∧ m = k) ∨ (r < m ∧ r = k) := by omega
    clear hr hk
    rcases hmr with ⟨hmr, rfl⟩ | ⟨hmr, rfl⟩
    all_goals
      first | (have hmin : min (m : Int) (r : Int) = (m : Int) := by omega) | (have hmin : min (m : Int) (r : Int) = (r : Int) := by omega)
      go_enter Try.func53, Try.ntmps53
      go_wp2_with (go_at_call 51; refine hroom.mono ?_; rintro e w1 ⟨rfl, q, rfl⟩)
      have hbq := below_drewN (Below.refl w.heap.size w) q
      have hsz : (w.drewN q).heap.size = w.heap.size := by have := hbq.size; first | rfl | omega
      generalize w.drewN q = w1 at hbq hsz
      have hq1 := HH.out.below hbq
      have hq1d : Que w1.drew base g lim vs lost A n c := hq1.keep rfl (fun _ _ => rfl)
      have hx1 : Src w1.drew X _ _ := (Src.below HX.out hbq).below (Below.refl _ _).drew
      have hlt1 : g < w1.drew.heap.size := hq1d.lt
      obtain ⟨c0, k0, c2⟩ := hq1d.cells
      have f0 := hq1d.frozen 0
      have f1 := hq1d.frozen 1
      have f2 := hq1d.frozen 2
      have HQ1 := Lib.hid hq1d
      have HX1 := Lib.hid hx1
      have HSZ := Lib.hid hsz
      have hbase1 : base ≤ w1.drew.heap.size := by show base ≤ w1.heap.size; omega
      have i0 : (0 : Int) ≤ (m : Int) := by omega
      have i1 : (m : Int) ≤ (cx : Int) := by omega
      have i2 : m ≤ cx := by omega
      clear hq1 hq1d hx1 hsz
      go_region_law (first
          | (refine step_append_q rfl (.tmp 17) (.tmp 20) 44 rfl Try.underlying44 info_el rfl rfl HQ1.out.row hbase1 rfl HX1.out (by simp only [maxLen]; omega) (by omega) ?_
             intro A' c' w3 r1 r2 r3
             have k1 : w3.cell? ⟨g, 1, none⟩ = some (.slice A n c) := r2.cell k0 (fun e => HI.out e.symm)
             have g3 : w3.heap[g]? = w1.drew.heap[g]? := r2.block g hlt1 (fun e => HI.out e.symm)
             have f3 : w3.frozen? ⟨g, 1, none⟩ = false := (World.frozen?_of_block (a := ⟨g, 1, none⟩) g3).trans f1
             have c23 : w3.cell? ⟨g, 2, none⟩ = some (.int .i64 lost) := (World.cell?_of_block (a := ⟨g, 2, none⟩) g3).trans c2
             have f23 : w3.frozen? ⟨g, 2, none⟩ = false := (World.frozen?_of_block (a := ⟨g, 2, none⟩) g3).trans f2
             have G3 := Lib.hid g3
             have R3 := Lib.hid r3
             clear g3 r3))
      have hne : blk A' ≠ some g := fun e => by
        rcases R3.out with h1 | ⟨b, h1, h2⟩
        · exact HI.out (h1.symm.trans e)
        · rw [h1] at e; cases e; omega
      have hq3 := HQ1.out.put r1 G3.out hnk hne
      have htc := fun V => (((Tch.of_below (g := g) (A := A) hbq).drew).grown r2).set 1 V
      have HQ3 := Lib.hid hq3
      have HTC := Lib.hid htc
      clear hne hq3 htc r1 r2
      go_wp2_with fail
      go_ret
      refine ⟨A', c', rfl, (by first | exact HQ3.out.loss _ | (have hl := HQ3.out.loss lost; rw [Int.sub_self, Int.add_zero]; exact hl)), (HTC.out _).set 2 _, ?_⟩
      rcases R3.out with h1 | ⟨b, h1, h2⟩
      · exact .inl h1
      · exact .inr ⟨b, h1, by have h3 : w1.heap.size ≤ b := h2; have := HSZ.out; omega⟩
  refine (main (min m r) rfl).mono ?_
  rintro e w' ⟨A', c', h1, h2⟩
  exact ⟨_, A', c', h1, by omega, h2⟩

theorem qtake_none (w : World) (g base c : Nat) (lim lost : Int) (A : Option Addr) (h : Que w base g lim [] lost A 0 c) :
    Calls Try.prog 52 #[.pointer (some ⟨g, 0, none⟩)] w fun e w' => e = .returned (.tuple #[.int .i64 0, .bool false]) ∧ w = w' := by
  have hp := qpeek_none w g base c lim lost A h
  clear h
  go_enter Try.func52, Try.ntmps52
  go_wp2_with (go_at_call 60; refine hp.mono ?_; rintro e w' ⟨rfl, rfl⟩)
  go_ret2
  exact ⟨rfl, rfl⟩

/-- A queue has lost its first thing, and nothing else has turned. -/
def Taken (w : World) (base g n : Nat) (lim : Int) (vs : List Value) (lost : Int) (A : Option Addr) (w' : World) : Prop := ∃ (A' : Option Addr) (c' : Nat), Que w' base g lim vs lost A' n c' ∧ Tch w w' g A ∧ blk A' = blk A
theorem qtake_some (w : World) (g base n c : Nat) (lim lost : Int) (v : Value) (vs : List Value) (A : Option Addr) (h : Que w base g lim (v :: vs) lost A (n + 1) c) :
    Calls Try.prog 52 #[.pointer (some ⟨g, 0, none⟩)] w fun e w' => e = .returned (.tuple #[v, .bool true]) ∧ Taken w base g n lim vs lost A w' := by
  have hp := qpeek_some w g base n c lim lost v vs A h
  obtain ⟨c0, c1, c2⟩ := h.cells
  have f1 := h.frozen 1
  have hm := h.row.max
  have hc := h.row.cap
  simp only [maxLen] at hm
  obtain ⟨b, off, rfl⟩ := h.row.addr (by omega)
  have cv := h.row.cell rfl (j := 0) (by omega)
  simp only [Nat.add_zero, List.getElem?_cons_zero] at cv
  have fv := h.row.frozen rfl off
  have hne : b ≠ g := fun e => h.isnt (by rw [e]; rfl)
  have HH := Lib.hid h
  clear h
  have hgo := HH.out.gone (.int .i64 0)
  have hgo1 : c = 1 → Que ((w.setCell ⟨b, off, none⟩ (.int .i64 0)).setCell ⟨g, 1, none⟩ (.slice (some ⟨b, off, none⟩) n 0)) base g lim vs lost (some ⟨b, off, none⟩) n 0 := fun e1 => by subst e1; exact hgo
  have hgo2 : ¬ c = 1 → Que ((w.setCell ⟨b, off, none⟩ (.int .i64 0)).setCell ⟨g, 1, none⟩ (.slice (some ⟨b, off + 1, none⟩) n (c - 1))) base g lim vs lost (some ⟨b, off + 1, none⟩) n (c - 1) := fun e1 => by rw [if_neg e1] at hgo; exact hgo
  have HG1 := Lib.hid hgo1
  have HG2 := Lib.hid hgo2
  clear hgo hgo1 hgo2
  have c1' : (w.setCell ⟨b, off, none⟩ (.int .i64 0)).cell? ⟨g, 1, none⟩ = some (.slice (some ⟨b, off, none⟩) (n + 1) c) := (World.cell?_setCell_far w ⟨b, off, none⟩ ⟨g, 1, none⟩ _ hne).trans c1
  have hc1 : (c = 1 ∧ n = 0) ∨ 1 < c := by omega
  rcases hc1 with ⟨rfl, rfl⟩ | hc1
  all_goals
   go_enter Try.func52, Try.ntmps52
   go_wp2_with (first
     | (go_at_call 60; refine hp.mono ?_; rintro e w' ⟨rfl, rfl⟩)
     | (refine wpList_clear1 rfl (.tmp 16) 44 rfl Try.underlying44 zero_el rfl rfl rfl (by rw [cv]; rfl) fv ?_
        clear c1))
   all_goals
     go_ret2
     first
       | exact ⟨rfl, _, _, HG1.out (by trivial), ((Tch.refl _ _ _).set' rfl _ _).set 1 _, rfl⟩
       | exact ⟨rfl, _, _, HG2.out (by omega), ((Tch.refl _ _ _).set' rfl _ _).set 1 _, rfl⟩

theorem qclear_any (w : World) (g base n c : Nat) (lim lost : Int) (vs : List Value) (A : Option Addr) (h : Que w base g lim vs lost A n c) :
    Calls Try.prog 38 #[.pointer (some ⟨g, 0, none⟩)] w fun e w' => e = .returned (.tuple #[]) ∧ Que w' base g lim [] 0 none 0 0 ∧ Tch w w' g none := by
  obtain ⟨c0, c1, c2⟩ := h.cells
  have f1 := h.frozen 1
  have f2 := h.frozen 2
  have hq := (h.put (w' := w) (Qs.nil_ w base _) rfl (by have := h.lims; omega) (by simp [blk])).loss 0
  have HQ := Lib.hid hq
  clear h hq
  go_enter Try.func38, Try.ntmps38
  go_wp2_with fail
  go_end0
  exact ⟨rfl, HQ.out, ((Tch.refl _ _ _).set 1 _).set 2 _⟩
end Go.Proofs.Ytncnlbokipieaaa