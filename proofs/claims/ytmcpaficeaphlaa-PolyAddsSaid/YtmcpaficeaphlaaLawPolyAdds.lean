/- The statement PolyAdds: the remainder of a sum is the sum of the remainders: every width, powers, and two rows (of which as many bits count as the shorter one has), with two starts. No conditions. -/
import Derived.Test.YtmcpaficeaphlaaPolyF
import Derived.Test.YtmcpaficeaphlaaRows
import Derived.ChangeOld
import Derived.ShutString
namespace Go.Proofs.Ytmcpaficeaphlaa.polyAdds
open Go.ChangeShapes Go.WideShapes Go.ChangeAt Go.RowKit
set_option linter.unusedVariables false

theorem start (W : Int) (L : Nat) (w : World) : Below w.heap.size w (w.alloc (Obj.cells #[Value.int IntKind.i64 W, Value.int IntKind.u32 ↑L] 26)) ∧ (w.alloc (Obj.cells #[Value.int IntKind.i64 W, Value.int IntKind.u32 ↑L] 26)).cell? ⟨w.heap.size, 0, none⟩ = some (.int .i64 W) ∧ (w.alloc (Obj.cells #[Value.int IntKind.i64 W, Value.int IntKind.u32 ↑L] 26)).cell? ⟨w.heap.size, 1, none⟩ = some (.int .u32 L) ∧ (w.alloc (Obj.cells #[Value.int IntKind.i64 W, Value.int IntKind.u32 ↑L] 26)).heap.size = w.heap.size + 1 :=
  ⟨(Below.refl _ _).alloc (Nat.le_refl _) _, by rw [cell_of_row _ _ _ _ _ _ (heap_alloc_new w _)]; rfl, by rw [cell_of_row _ _ _ _ _ _ (heap_alloc_new w _)]; rfl, by simp⟩

/-- The sum of the first k bits of two rows. -/
def sumL (l m : List Int) (k : Nat) : List Int := (List.range k).map fun i => (l.getD i 0 + m.getD i 0) % 256 % 2
theorem sumL_len (l m : List Int) (k : Nat) : (sumL l m k).length = k := by simp [sumL]
theorem sumL_getD (l m : List Int) {k j : Nat} (h : j < k) : (sumL l m k).getD j 0 = (l.getD j 0 + m.getD j 0) % 256 % 2 := by simp [sumL, List.getD, h]
theorem sumL_range (l m : List Int) (k : Nat) : ∀ x ∈ sumL l m k, 0 ≤ x ∧ x ≤ 255 := by
  intro x hx
  simp only [sumL, List.mem_map] at hx
  obtain ⟨i, _, rfl⟩ := hx
  omega
theorem sum_bits (l m : List Int) {k : Nat} (h1 : k ≤ l.length) (h2 : k ≤ m.length) : ∀ i, i < (l.take k).length → b2 ((sumL l m k).getD i 0) = b2 ((l.take k).getD i 0) ^^^ b2 ((m.take k).getD i 0) := by
  intro i hi
  rw [List.length_take] at hi
  rw [sumL_getD l m (by omega)]
  have e1 : (l.take k).getD i 0 = l.getD i 0 := by simp [List.getD, show i < k by omega]
  have e2 : (m.take k).getD i 0 = m.getD i 0 := by simp [List.getD, show i < k by omega]
  rw [e1, e2]
  exact b2_add (by omega)
theorem whole_sum (W : Int) (L : Nat) (l m : List Int) {k : Nat} (h1 : k ≤ l.length) (h2 : k ≤ m.length) : wholeV W L (sumL l m k) = wholeV W L (l.take k) ^^^ wholeV W L (m.take k) := by
  unfold wholeV
  split
  · exact whole_xor _ _ _ (by rw [List.length_take, List.length_take]; omega) (by rw [sumL_len, List.length_take]; omega) (sum_bits l m h1 h2)
  · rfl
theorem rem_sum (W : Int) (L s t : Nat) (l m : List Int) {k : Nat} (h1 : k ≤ l.length) (h2 : k ≤ m.length) : remV W L (s ^^^ t) (sumL l m k) = remV W L s (l.take k) ^^^ remV W L t (m.take k) := by
  unfold remV
  split
  · exact rem_xor _ _ _ _ _ (by rw [List.length_take, List.length_take]; omega) (by rw [sumL_len, List.length_take]; omega) (sum_bits l m h1 h2)
  · rfl

set_option maxHeartbeats 1000000 in
theorem core (W : Int) (L s t : Nat) (A : Option Addr) (na ca : Nat) (la : List Int) (B : Option Addr) (nb cb : Nat) (lb : List Int) (w : World) (hL : L < 4294967296) (hs : s < 4294967296) (ht : t < 4294967296) (h : Byt w w.heap.size A na ca la) (g : Byt w w.heap.size B nb cb lb) (hna : na ≤ 140737488351232) :
    Calls Try.prog 4 #[.int .i64 W, .int .u32 L, .int .u32 s, .int .u32 t, .slice A na ca, .slice B nb cb] w fun e w' => e = .returned (.bool true) ∧ Below w.heap.size w w' := by
  have hcap := h.cap
  have hmx := h.max
  have gcap := g.cap
  have gmx := g.max
  simp only [maxLen] at hmx gmx
  obtain ⟨hb0, hc0, hc1, hlt⟩ := start W L w
  have HB := Lib.hid hb0
  have HLT := Lib.hid hlt
  have HC0 := Lib.hid hc0
  have HC1 := Lib.hid hc1
  clear hb0 hlt hc0 hc1
  by_cases hmn : nb < na
  · have hk1 : nb ≤ na := by omega
    have hk2 : nb ≤ nb := by omega
    have h1 := h.take hk1
    have g1 := g.take hk2
    have hws := whole_sum W L la lb (k := nb) (by rw [h.len]; exact hk1) (by rw [g.len]; exact hk2)
    have hrs := rem_sum W L s t la lb (k := nb) (by rw [h.len]; exact hk1) (by rw [g.len]; exact hk2)
    have hst : s ^^^ t < 4294967296 := Nat.xor_lt_two_pow (n := 32) hs ht
    have HSL := Lib.hid (sumL_len la lb nb)
    have HSR := Lib.hid (sumL_range la lb nb)
    have hgd : ∀ j, j < nb → (sumL la lb nb).getD j 0 = (la.getD j 0 + lb.getD j 0) % 256 % 2 := fun j hj => sumL_getD la lb hj
    have HGD := Lib.hid hgd
    clear hgd
    generalize sumL la lb nb = S at hws hrs HSL HSR HGD
    have c1 := fun (w : World) (X : Option Addr) (h : Byt w w.heap.size X nb nb S) => whole_any W L X nb nb S w h
    have c2 := fun (w : World) (h : Byt w w.heap.size A nb ca (la.take nb)) => whole_any W L A nb ca (la.take nb) w h
    have c3 := fun (w : World) (h : Byt w w.heap.size B nb cb (lb.take nb)) => whole_any W L B nb cb (lb.take nb) w h
    have d1 := fun (w : World) (X : Option Addr) (h : Byt w w.heap.size X nb nb S) => rem_any W L (s ^^^ t) X nb nb S w hst h
    have d2 := fun (w : World) (h : Byt w w.heap.size A nb ca (la.take nb)) => rem_any W L s A nb ca (la.take nb) w hs h
    have d3 := fun (w : World) (h : Byt w w.heap.size B nb cb (lb.take nb)) => rem_any W L t B nb cb (lb.take nb) w ht h
    rw [hws] at c1
    rw [hrs] at d1
    have x1 := wholeV_lt W L (la.take nb)
    have x2 := wholeV_lt W L (lb.take nb)
    have y1 := remV_lt W L s (la.take nb)
    have y2 := remV_lt W L t (lb.take nb)
    generalize wholeV W L (la.take nb) = p1 at c1 c2 x1
    generalize wholeV W L (lb.take nb) = p2 at c1 c3 x2
    generalize remV W L s (la.take nb) = q1 at d1 d2 y1
    generalize remV W L t (lb.take nb) = q2 at d1 d3 y2
    have hx1 : bits .xor .u32 (p1 : Int) (p2 : Int) = ((p1 ^^^ p2 : Nat) : Int) := u32_xor_nat _ _ x1 x2
    have hx2 : bits .xor .u32 (q1 : Int) (q2 : Int) = ((q1 ^^^ q2 : Nat) : Int) := u32_xor_nat _ _ y1 y2
    have hx3 : bits .xor .u32 (s : Int) (t : Int) = ((s ^^^ t : Nat) : Int) := u32_xor_nat _ _ hs ht
    generalize p1 ^^^ p2 = p3 at c1 hx1
    generalize q1 ^^^ q2 = q3 at d1 hx2
    generalize s ^^^ t = st at d1 hx3
    have C1 := Lib.hid c1
    have C2 := Lib.hid c2
    have C3 := Lib.hid c3
    have D1 := Lib.hid d1
    have D2 := Lib.hid d2
    have D3 := Lib.hid d3
    have X1 := Lib.hid hx1
    have X2 := Lib.hid hx2
    have X3 := Lib.hid hx3
    have HH := Lib.hid h
    have GG := Lib.hid g
    have H1 := Lib.hid h1
    have G1 := Lib.hid g1
    have hmk := make_row nb (by omega)
    clear c1 c2 c3 d1 d2 d3 hx1 hx2 hx3 h1 g1 hws hrs
    go_enter Try.func4, Try.ntmps4
    go_wp2_with fail
    have hs0 : Below w.heap.size w (w.alloc (Obj.cells #[Value.int IntKind.i64 W, Value.int IntKind.u32 ↑L] 26)) := HB.out
    generalize (w.alloc (Obj.cells #[Value.int IntKind.i64 W, Value.int IntKind.u32 ↑L] 26)) = w0 at HB HC0 HC1 HLT hs0
    go_loopw [16] (fun i wr => ∃ j : Nat, j ≤ nb ∧ i = .int .i64 j ∧ wr.rowIs (w.heap.size + 1) 5 nb (upto S j) ∧ Below w0.heap.size w0 wr) (fun i _ => nb - (intOf i).toNat)
    case atStart => exact ⟨0, Nat.zero_le _, rfl, by rw [← HLT.out]; exact upto_zero _, (Below.refl _ _).alloc (Nat.le_refl _) _⟩
    case round =>
      obtain ⟨j, hj, rfl, hrow, hbel⟩ := hrel
      by_cases hlt : j < nb
      · obtain ⟨ba, oa, rfl, hba, hca⟩ := h.cells (by omega)
        obtain ⟨bb, ob, rfl, hbb, hcb⟩ := g.cells (by omega)
        have hca' := hca j (by omega)
        have hcb' := hcb j (by omega)
        have ra := h.range j
        have rb := g.range j
        have hget := HGD.out j hlt
        generalize la.getD j 0 = u at hca' ra hget
        generalize lb.getD j 0 = v at hcb' rb hget
        have hsall := hs0.trans (hbel.mono hs0.size)
        have cella : wr.cell? ⟨ba, oa + j, none⟩ = some (.int .u8 u) := (hsall.cell (p := ⟨ba, oa + j, none⟩) hba).trans hca'
        have cellb : wr.cell? ⟨bb, ob + j, none⟩ = some (.int .u8 v) := (hsall.cell (p := ⟨bb, ob + j, none⟩) hbb).trans hcb'
        have hgc := hrow.cell hlt
        have hgf := hrow.frozen j
        have HG := Lib.hid hget
        have HROW := Lib.hid hrow
        obtain ⟨ra0, ra1⟩ := ra
        obtain ⟨rb0, rb1⟩ := rb
        clear hca hcb hca' hcb' h g hget hrow hmk
        go_wp2_with fail
        go_region
        go_wp2
        go_roundw
        case rel => exact ⟨j + 1, by omega, by go_num, upto_step HROW.out (by rw [HG.out]; omega), (hbel.setCell (Nat.le_of_eq HLT.out) _).drew⟩
        case measure => simp [intOf]; omega
      · obtain hjk : j = nb := by omega
        rw [hjk] at hrow
        have hrow2 := upto_done hrow
        have hsumB : Byt wr wr.heap.size (some ⟨w.heap.size + 1, 0, none⟩) nb nb S := Byt.of_row hrow2 HSL.out (by simp only [maxLen]; omega) HSR.out
        have hsum0 := Lib.hid hsumB
        have k0 : wr.cell? ⟨w.heap.size, 0, none⟩ = some (.int .i64 W) ∧ wr.cell? ⟨w.heap.size, 1, none⟩ = some (.int .u32 L) := ⟨(hbel.cell (p := ⟨w.heap.size, 0, none⟩) (by rw [HLT.out]; exact Nat.lt_succ_self _)).trans HC0.out, (hbel.cell (p := ⟨w.heap.size, 1, none⟩) (by rw [HLT.out]; exact Nat.lt_succ_self _)).trans HC1.out⟩
        have hl0 : w.heap.size < wr.heap.size := by have := hbel.size; rw [HLT.out] at this; omega
        have hsw := hs0.trans (hbel.mono hs0.size)
        clear hrow hrow2 hsumB hmk h g hbel
        obtain ⟨hc0, hc1⟩ := k0
        have k0 : wr.cell? ⟨w.heap.size, 0, none⟩ = some (.int .i64 W) ∧ wr.cell? ⟨w.heap.size, 1, none⟩ = some (.int .u32 L) := ⟨hc0, hc1⟩
        have hsumd : Byt wr.drew wr.drew.heap.size (some ⟨w.heap.size + 1, 0, none⟩) nb nb S := hsum0.out.drew
        have hsum0d := Lib.hid hsumd
        clear hsumd
        have hkca : (nb : Int) ≤ (ca : Int) := by omega
        have hkcb : (nb : Int) ≤ (cb : Int) := by omega
        have hkca2 : nb ≤ ca := by omega
        have hkcb2 : nb ≤ cb := by omega
        have hx1 := X1.out
        have hn1 : ((p3 : Int) != (p3 : Int)) = false := by simp
        clear k0
        go_wp2_with fail
        go_region_held3 (fun w' => w'.cell? ⟨w.heap.size, 0, none⟩ = some (.int .i64 W) ∧ w'.cell? ⟨w.heap.size, 1, none⟩ = some (.int .u32 L))
          (first | exact ⟨hc0, hc1⟩ | exact k1 | exact k2 | exact k3)
          (first
            | (go_at_call 11
               (with_reducible refine (C1.out wr.drew _ hsum0d.out).mono ?_)
               rintro e w1 ⟨rfl, hb1⟩
               have k1 : w1.cell? ⟨w.heap.size, 0, none⟩ = some (.int .i64 W) ∧ w1.cell? ⟨w.heap.size, 1, none⟩ = some (.int .u32 L) := ⟨(hb1.cell (p := ⟨w.heap.size, 0, none⟩) hl0).trans hc0, (hb1.cell (p := ⟨w.heap.size, 1, none⟩) hl0).trans hc1⟩
               have hs1 := hsw.drew.trans (hb1.mono hsw.drew.size)
               have hl1 := Nat.lt_of_lt_of_le hl0 hb1.size
               have hsum1 : Hid (Byt w1 w1.heap.size (some ⟨w.heap.size + 1, 0, none⟩) nb nb S) := Byt.step hsum0.out.drew hb1)
            | (go_at_call 11
               (with_reducible refine (C2.out w1 (H1.out.step hs1)).mono ?_)
               rintro e w2 ⟨rfl, hb2⟩
               have k2 : w2.cell? ⟨w.heap.size, 0, none⟩ = some (.int .i64 W) ∧ w2.cell? ⟨w.heap.size, 1, none⟩ = some (.int .u32 L) := ⟨(hb2.cell (p := ⟨w.heap.size, 0, none⟩) hl1).trans k1.1, (hb2.cell (p := ⟨w.heap.size, 1, none⟩) hl1).trans k1.2⟩
               have hs2 := hs1.trans (hb2.mono hs1.size)
               have hl2 := Nat.lt_of_lt_of_le hl1 hb2.size
               have hsum2 : Hid (Byt w2 w2.heap.size (some ⟨w.heap.size + 1, 0, none⟩) nb nb S) := Byt.step hsum1.out hb2)
            | (go_at_call 11
               (with_reducible refine (C3.out w2 (G1.out.step hs2)).mono ?_)
               rintro e w3 ⟨rfl, hb3⟩
               have k3 : w3.cell? ⟨w.heap.size, 0, none⟩ = some (.int .i64 W) ∧ w3.cell? ⟨w.heap.size, 1, none⟩ = some (.int .u32 L) := ⟨(hb3.cell (p := ⟨w.heap.size, 0, none⟩) hl2).trans k2.1, (hb3.cell (p := ⟨w.heap.size, 1, none⟩) hl2).trans k2.2⟩
               have hs3 := hs2.trans (hb3.mono hs2.size)
               have hl3 := Nat.lt_of_lt_of_le hl2 hb3.size
               have hsum3 : Hid (Byt w3 w3.heap.size (some ⟨w.heap.size + 1, 0, none⟩) nb nb S) := Byt.step hsum2.out hb3))
        obtain ⟨hc0', hc1'⟩ := k3
        clear hc0 hc1 k1 k2 hx1 hn1
        have hx2 := X2.out
        have hx3 := X3.out
        go_wp2_with fail
        go_region_held3 (fun w' => w'.cell? ⟨w.heap.size, 0, none⟩ = some (.int .i64 W) ∧ w'.cell? ⟨w.heap.size, 1, none⟩ = some (.int .u32 L))
          (first | exact ⟨hc0', hc1'⟩ | exact k4 | exact k5 | exact k6 | exact k7)
          (first
            | (go_at_call 8
               (with_reducible refine (live3_any _).mono ?_)
               rintro e w4 ⟨rfl, hb4⟩
               have k4 : w4.cell? ⟨w.heap.size, 0, none⟩ = some (.int .i64 W) ∧ w4.cell? ⟨w.heap.size, 1, none⟩ = some (.int .u32 L) := ⟨(hb4.cell (p := ⟨w.heap.size, 0, none⟩) hl3).trans hc0', (hb4.cell (p := ⟨w.heap.size, 1, none⟩) hl3).trans hc1'⟩
               have hs4 := hs3.drew.trans (hb4.mono hs3.drew.size)
               have hl4 := Nat.lt_of_lt_of_le hl3 hb4.size
               have hsum4 : Hid (Byt w4 w4.heap.size (some ⟨w.heap.size + 1, 0, none⟩) nb nb S) := Byt.step hsum3.out.drew hb4)
            | (go_at_call 12
               (with_reducible refine (D1.out w4 _ hsum4.out).mono ?_)
               rintro e w5 ⟨rfl, hb5⟩
               have k5 : w5.cell? ⟨w.heap.size, 0, none⟩ = some (.int .i64 W) ∧ w5.cell? ⟨w.heap.size, 1, none⟩ = some (.int .u32 L) := ⟨(hb5.cell (p := ⟨w.heap.size, 0, none⟩) hl4).trans k4.1, (hb5.cell (p := ⟨w.heap.size, 1, none⟩) hl4).trans k4.2⟩
               have hs5 := hs4.trans (hb5.mono hs4.size)
               have hl5 := Nat.lt_of_lt_of_le hl4 hb5.size
               have hsum5 : Hid (Byt w5 w5.heap.size (some ⟨w.heap.size + 1, 0, none⟩) nb nb S) := Byt.step hsum4.out hb5)
            | (go_at_call 12
               (with_reducible refine (D2.out w5 (H1.out.step hs5)).mono ?_)
               rintro e w6 ⟨rfl, hb6⟩
               have k6 : w6.cell? ⟨w.heap.size, 0, none⟩ = some (.int .i64 W) ∧ w6.cell? ⟨w.heap.size, 1, none⟩ = some (.int .u32 L) := ⟨(hb6.cell (p := ⟨w.heap.size, 0, none⟩) hl5).trans k5.1, (hb6.cell (p := ⟨w.heap.size, 1, none⟩) hl5).trans k5.2⟩
               have hs6 := hs5.trans (hb6.mono hs5.size)
               have hl6 := Nat.lt_of_lt_of_le hl5 hb6.size
               have hsum6 : Hid (Byt w6 w6.heap.size (some ⟨w.heap.size + 1, 0, none⟩) nb nb S) := Byt.step hsum5.out hb6)
            | (go_at_call 12
               (with_reducible refine (D3.out w6 (G1.out.step hs6)).mono ?_)
               rintro e w7 ⟨rfl, hb7⟩
               have k7 : w7.cell? ⟨w.heap.size, 0, none⟩ = some (.int .i64 W) ∧ w7.cell? ⟨w.heap.size, 1, none⟩ = some (.int .u32 L) := ⟨(hb7.cell (p := ⟨w.heap.size, 0, none⟩) hl6).trans k6.1, (hb7.cell (p := ⟨w.heap.size, 1, none⟩) hl6).trans k6.2⟩
               have hs7 := hs6.trans (hb7.mono hs6.size)
               have hl7 := Nat.lt_of_lt_of_le hl6 hb7.size
               have hsum7 : Hid (Byt w7 w7.heap.size (some ⟨w.heap.size + 1, 0, none⟩) nb nb S) := Byt.step hsum6.out hb7))
        clear hx2 hx3
        go_wp2
        go_ret
        exact ⟨by simp, hs7⟩

  · have hk1 : na ≤ na := by omega
    have hk2 : na ≤ nb := by omega
    have h1 := h.take hk1
    have g1 := g.take hk2
    have hws := whole_sum W L la lb (k := na) (by rw [h.len]; exact hk1) (by rw [g.len]; exact hk2)
    have hrs := rem_sum W L s t la lb (k := na) (by rw [h.len]; exact hk1) (by rw [g.len]; exact hk2)
    have hst : s ^^^ t < 4294967296 := Nat.xor_lt_two_pow (n := 32) hs ht
    have HSL := Lib.hid (sumL_len la lb na)
    have HSR := Lib.hid (sumL_range la lb na)
    have hgd : ∀ j, j < na → (sumL la lb na).getD j 0 = (la.getD j 0 + lb.getD j 0) % 256 % 2 := fun j hj => sumL_getD la lb hj
    have HGD := Lib.hid hgd
    clear hgd
    generalize sumL la lb na = S at hws hrs HSL HSR HGD
    have c1 := fun (w : World) (X : Option Addr) (h : Byt w w.heap.size X na na S) => whole_any W L X na na S w h
    have c2 := fun (w : World) (h : Byt w w.heap.size A na ca (la.take na)) => whole_any W L A na ca (la.take na) w h
    have c3 := fun (w : World) (h : Byt w w.heap.size B na cb (lb.take na)) => whole_any W L B na cb (lb.take na) w h
    have d1 := fun (w : World) (X : Option Addr) (h : Byt w w.heap.size X na na S) => rem_any W L (s ^^^ t) X na na S w hst h
    have d2 := fun (w : World) (h : Byt w w.heap.size A na ca (la.take na)) => rem_any W L s A na ca (la.take na) w hs h
    have d3 := fun (w : World) (h : Byt w w.heap.size B na cb (lb.take na)) => rem_any W L t B na cb (lb.take na) w ht h
    rw [hws] at c1
    rw [hrs] at d1
    have x1 := wholeV_lt W L (la.take na)
    have x2 := wholeV_lt W L (lb.take na)
    have y1 := remV_lt W L s (la.take na)
    have y2 := remV_lt W L t (lb.take na)
    generalize wholeV W L (la.take na) = p1 at c1 c2 x1
    generalize wholeV W L (lb.take na) = p2 at c1 c3 x2
    generalize remV W L s (la.take na) = q1 at d1 d2 y1
    generalize remV W L t (lb.take na) = q2 at d1 d3 y2
    have hx1 : bits .xor .u32 (p1 : Int) (p2 : Int) = ((p1 ^^^ p2 : Nat) : Int) := u32_xor_nat _ _ x1 x2
    have hx2 : bits .xor .u32 (q1 : Int) (q2 : Int) = ((q1 ^^^ q2 : Nat) : Int) := u32_xor_nat _ _ y1 y2
    have hx3 : bits .xor .u32 (s : Int) (t : Int) = ((s ^^^ t : Nat) : Int) := u32_xor_nat _ _ hs ht
    generalize p1 ^^^ p2 = p3 at c1 hx1
    generalize q1 ^^^ q2 = q3 at d1 hx2
    generalize s ^^^ t = st at d1 hx3
    have C1 := Lib.hid c1
    have C2 := Lib.hid c2
    have C3 := Lib.hid c3
    have D1 := Lib.hid d1
    have D2 := Lib.hid d2
    have D3 := Lib.hid d3
    have X1 := Lib.hid hx1
    have X2 := Lib.hid hx2
    have X3 := Lib.hid hx3
    have HH := Lib.hid h
    have GG := Lib.hid g
    have H1 := Lib.hid h1
    have G1 := Lib.hid g1
    have hmk := make_row na (by omega)
    clear c1 c2 c3 d1 d2 d3 hx1 hx2 hx3 h1 g1 hws hrs
    go_enter Try.func4, Try.ntmps4
    go_wp2_with fail
    have hs0 : Below w.heap.size w (w.alloc (Obj.cells #[Value.int IntKind.i64 W, Value.int IntKind.u32 ↑L] 26)) := HB.out
    generalize (w.alloc (Obj.cells #[Value.int IntKind.i64 W, Value.int IntKind.u32 ↑L] 26)) = w0 at HB HC0 HC1 HLT hs0
    go_loopw [16] (fun i wr => ∃ j : Nat, j ≤ na ∧ i = .int .i64 j ∧ wr.rowIs (w.heap.size + 1) 5 na (upto S j) ∧ Below w0.heap.size w0 wr) (fun i _ => na - (intOf i).toNat)
    case atStart => exact ⟨0, Nat.zero_le _, rfl, by rw [← HLT.out]; exact upto_zero _, (Below.refl _ _).alloc (Nat.le_refl _) _⟩
    case round =>
      obtain ⟨j, hj, rfl, hrow, hbel⟩ := hrel
      by_cases hlt : j < na
      · obtain ⟨ba, oa, rfl, hba, hca⟩ := h.cells (by omega)
        obtain ⟨bb, ob, rfl, hbb, hcb⟩ := g.cells (by omega)
        have hca' := hca j (by omega)
        have hcb' := hcb j (by omega)
        have ra := h.range j
        have rb := g.range j
        have hget := HGD.out j hlt
        generalize la.getD j 0 = u at hca' ra hget
        generalize lb.getD j 0 = v at hcb' rb hget
        have hsall := hs0.trans (hbel.mono hs0.size)
        have cella : wr.cell? ⟨ba, oa + j, none⟩ = some (.int .u8 u) := (hsall.cell (p := ⟨ba, oa + j, none⟩) hba).trans hca'
        have cellb : wr.cell? ⟨bb, ob + j, none⟩ = some (.int .u8 v) := (hsall.cell (p := ⟨bb, ob + j, none⟩) hbb).trans hcb'
        have hgc := hrow.cell hlt
        have hgf := hrow.frozen j
        have HG := Lib.hid hget
        have HROW := Lib.hid hrow
        obtain ⟨ra0, ra1⟩ := ra
        obtain ⟨rb0, rb1⟩ := rb
        clear hca hcb hca' hcb' h g hget hrow hmk
        go_wp2_with fail
        go_region
        go_wp2
        go_roundw
        case rel => exact ⟨j + 1, by omega, by go_num, upto_step HROW.out (by rw [HG.out]; omega), (hbel.setCell (Nat.le_of_eq HLT.out) _).drew⟩
        case measure => simp [intOf]; omega
      · obtain hjk : j = na := by omega
        rw [hjk] at hrow
        have hrow2 := upto_done hrow
        have hsumB : Byt wr wr.heap.size (some ⟨w.heap.size + 1, 0, none⟩) na na S := Byt.of_row hrow2 HSL.out (by simp only [maxLen]; omega) HSR.out
        have hsum0 := Lib.hid hsumB
        have k0 : wr.cell? ⟨w.heap.size, 0, none⟩ = some (.int .i64 W) ∧ wr.cell? ⟨w.heap.size, 1, none⟩ = some (.int .u32 L) := ⟨(hbel.cell (p := ⟨w.heap.size, 0, none⟩) (by rw [HLT.out]; exact Nat.lt_succ_self _)).trans HC0.out, (hbel.cell (p := ⟨w.heap.size, 1, none⟩) (by rw [HLT.out]; exact Nat.lt_succ_self _)).trans HC1.out⟩
        have hl0 : w.heap.size < wr.heap.size := by have := hbel.size; rw [HLT.out] at this; omega
        have hsw := hs0.trans (hbel.mono hs0.size)
        clear hrow hrow2 hsumB hmk h g hbel
        obtain ⟨hc0, hc1⟩ := k0
        have k0 : wr.cell? ⟨w.heap.size, 0, none⟩ = some (.int .i64 W) ∧ wr.cell? ⟨w.heap.size, 1, none⟩ = some (.int .u32 L) := ⟨hc0, hc1⟩
        have hsumd : Byt wr.drew wr.drew.heap.size (some ⟨w.heap.size + 1, 0, none⟩) na na S := hsum0.out.drew
        have hsum0d := Lib.hid hsumd
        clear hsumd
        have hkca : (na : Int) ≤ (ca : Int) := by omega
        have hkcb : (na : Int) ≤ (cb : Int) := by omega
        have hkca2 : na ≤ ca := by omega
        have hkcb2 : na ≤ cb := by omega
        have hx1 := X1.out
        have hn1 : ((p3 : Int) != (p3 : Int)) = false := by simp
        clear k0
        go_wp2_with fail
        go_region_held3 (fun w' => w'.cell? ⟨w.heap.size, 0, none⟩ = some (.int .i64 W) ∧ w'.cell? ⟨w.heap.size, 1, none⟩ = some (.int .u32 L))
          (first | exact ⟨hc0, hc1⟩ | exact k1 | exact k2 | exact k3)
          (first
            | (go_at_call 11
               (with_reducible refine (C1.out wr.drew _ hsum0d.out).mono ?_)
               rintro e w1 ⟨rfl, hb1⟩
               have k1 : w1.cell? ⟨w.heap.size, 0, none⟩ = some (.int .i64 W) ∧ w1.cell? ⟨w.heap.size, 1, none⟩ = some (.int .u32 L) := ⟨(hb1.cell (p := ⟨w.heap.size, 0, none⟩) hl0).trans hc0, (hb1.cell (p := ⟨w.heap.size, 1, none⟩) hl0).trans hc1⟩
               have hs1 := hsw.drew.trans (hb1.mono hsw.drew.size)
               have hl1 := Nat.lt_of_lt_of_le hl0 hb1.size
               have hsum1 : Hid (Byt w1 w1.heap.size (some ⟨w.heap.size + 1, 0, none⟩) na na S) := Byt.step hsum0.out.drew hb1)
            | (go_at_call 11
               (with_reducible refine (C2.out w1 (H1.out.step hs1)).mono ?_)
               rintro e w2 ⟨rfl, hb2⟩
               have k2 : w2.cell? ⟨w.heap.size, 0, none⟩ = some (.int .i64 W) ∧ w2.cell? ⟨w.heap.size, 1, none⟩ = some (.int .u32 L) := ⟨(hb2.cell (p := ⟨w.heap.size, 0, none⟩) hl1).trans k1.1, (hb2.cell (p := ⟨w.heap.size, 1, none⟩) hl1).trans k1.2⟩
               have hs2 := hs1.trans (hb2.mono hs1.size)
               have hl2 := Nat.lt_of_lt_of_le hl1 hb2.size
               have hsum2 : Hid (Byt w2 w2.heap.size (some ⟨w.heap.size + 1, 0, none⟩) na na S) := Byt.step hsum1.out hb2)
            | (go_at_call 11
               (with_reducible refine (C3.out w2 (G1.out.step hs2)).mono ?_)
               rintro e w3 ⟨rfl, hb3⟩
               have k3 : w3.cell? ⟨w.heap.size, 0, none⟩ = some (.int .i64 W) ∧ w3.cell? ⟨w.heap.size, 1, none⟩ = some (.int .u32 L) := ⟨(hb3.cell (p := ⟨w.heap.size, 0, none⟩) hl2).trans k2.1, (hb3.cell (p := ⟨w.heap.size, 1, none⟩) hl2).trans k2.2⟩
               have hs3 := hs2.trans (hb3.mono hs2.size)
               have hl3 := Nat.lt_of_lt_of_le hl2 hb3.size
               have hsum3 : Hid (Byt w3 w3.heap.size (some ⟨w.heap.size + 1, 0, none⟩) na na S) := Byt.step hsum2.out hb3))
        obtain ⟨hc0', hc1'⟩ := k3
        clear hc0 hc1 k1 k2 hx1 hn1
        have hx2 := X2.out
        have hx3 := X3.out
        go_wp2_with fail
        go_region_held3 (fun w' => w'.cell? ⟨w.heap.size, 0, none⟩ = some (.int .i64 W) ∧ w'.cell? ⟨w.heap.size, 1, none⟩ = some (.int .u32 L))
          (first | exact ⟨hc0', hc1'⟩ | exact k4 | exact k5 | exact k6 | exact k7)
          (first
            | (go_at_call 8
               (with_reducible refine (live3_any _).mono ?_)
               rintro e w4 ⟨rfl, hb4⟩
               have k4 : w4.cell? ⟨w.heap.size, 0, none⟩ = some (.int .i64 W) ∧ w4.cell? ⟨w.heap.size, 1, none⟩ = some (.int .u32 L) := ⟨(hb4.cell (p := ⟨w.heap.size, 0, none⟩) hl3).trans hc0', (hb4.cell (p := ⟨w.heap.size, 1, none⟩) hl3).trans hc1'⟩
               have hs4 := hs3.drew.trans (hb4.mono hs3.drew.size)
               have hl4 := Nat.lt_of_lt_of_le hl3 hb4.size
               have hsum4 : Hid (Byt w4 w4.heap.size (some ⟨w.heap.size + 1, 0, none⟩) na na S) := Byt.step hsum3.out.drew hb4)
            | (go_at_call 12
               (with_reducible refine (D1.out w4 _ hsum4.out).mono ?_)
               rintro e w5 ⟨rfl, hb5⟩
               have k5 : w5.cell? ⟨w.heap.size, 0, none⟩ = some (.int .i64 W) ∧ w5.cell? ⟨w.heap.size, 1, none⟩ = some (.int .u32 L) := ⟨(hb5.cell (p := ⟨w.heap.size, 0, none⟩) hl4).trans k4.1, (hb5.cell (p := ⟨w.heap.size, 1, none⟩) hl4).trans k4.2⟩
               have hs5 := hs4.trans (hb5.mono hs4.size)
               have hl5 := Nat.lt_of_lt_of_le hl4 hb5.size
               have hsum5 : Hid (Byt w5 w5.heap.size (some ⟨w.heap.size + 1, 0, none⟩) na na S) := Byt.step hsum4.out hb5)
            | (go_at_call 12
               (with_reducible refine (D2.out w5 (H1.out.step hs5)).mono ?_)
               rintro e w6 ⟨rfl, hb6⟩
               have k6 : w6.cell? ⟨w.heap.size, 0, none⟩ = some (.int .i64 W) ∧ w6.cell? ⟨w.heap.size, 1, none⟩ = some (.int .u32 L) := ⟨(hb6.cell (p := ⟨w.heap.size, 0, none⟩) hl5).trans k5.1, (hb6.cell (p := ⟨w.heap.size, 1, none⟩) hl5).trans k5.2⟩
               have hs6 := hs5.trans (hb6.mono hs5.size)
               have hl6 := Nat.lt_of_lt_of_le hl5 hb6.size
               have hsum6 : Hid (Byt w6 w6.heap.size (some ⟨w.heap.size + 1, 0, none⟩) na na S) := Byt.step hsum5.out hb6)
            | (go_at_call 12
               (with_reducible refine (D3.out w6 (G1.out.step hs6)).mono ?_)
               rintro e w7 ⟨rfl, hb7⟩
               have k7 : w7.cell? ⟨w.heap.size, 0, none⟩ = some (.int .i64 W) ∧ w7.cell? ⟨w.heap.size, 1, none⟩ = some (.int .u32 L) := ⟨(hb7.cell (p := ⟨w.heap.size, 0, none⟩) hl6).trans k6.1, (hb7.cell (p := ⟨w.heap.size, 1, none⟩) hl6).trans k6.2⟩
               have hs7 := hs6.trans (hb7.mono hs6.size)
               have hl7 := Nat.lt_of_lt_of_le hl6 hb7.size
               have hsum7 : Hid (Byt w7 w7.heap.size (some ⟨w.heap.size + 1, 0, none⟩) na na S) := Byt.step hsum6.out hb7))
        clear hx2 hx3
        go_wp2
        go_ret
        exact ⟨by simp, hs7⟩


theorem walk (W L s t : Int) (A : Option Addr) (na ca : Nat) (la : List Int) (B : Option Addr) (nb cb : Nat) (lb : List Int) (w : World) (hW : (Lit.int .i64 W).wf = true) (hL : (Lit.int .u32 L).wf = true) (hs : (Lit.int .u32 s).wf = true) (ht : (Lit.int .u32 t).wf = true) (h : Byt w w.heap.size A na ca la) (hz : ca * 1 ≤ 140737488351232) (g : Byt w w.heap.size B nb cb lb) (gz : cb * 1 ≤ 140737488351232) :
    Calls Try.prog 4 #[.int .i64 W, .int .u32 L, .int .u32 s, .int .u32 t, .slice A na ca, .slice B nb cb] w fun e w' => e = .returned (.bool true) ∧ Below w.heap.size w w' := by
  have hL' := bounds_u32 hL
  have hs' := bounds_u32 hs
  have ht' := bounds_u32 ht
  have hcap := h.cap
  obtain ⟨L, rfl⟩ := Int.eq_ofNat_of_zero_le (show 0 ≤ L by omega)
  obtain ⟨s, rfl⟩ := Int.eq_ofNat_of_zero_le (show 0 ≤ s by omega)
  obtain ⟨t, rfl⟩ := Int.eq_ofNat_of_zero_le (show 0 ≤ t by omega)
  exact core W L s t A na ca la B nb cb lb w (by omega) (by omega) (by omega) h g (by omega)

theorem own : ownKnob Try.prog.godebug = none := by kernel_rfl
theorem laidOut : laidOutB Try.prog = true := by kernel_rfl

theorem bytes1 : Try.prog.bytesOf 5 = 1 := by kernel_rfl


set_option maxRecDepth 100000 in
theorem lifted (os : Os) (started : os.Started) (H : Type) (enc : TypeId × Value → H) :
    ReturnsInHanded {} Try.checked os 4 .any (Rows.polyAddsSpec.pre6 enc Try.prog Try.f4 Rows.polyAddsRow.domain false) (Rows.polyAddsSpec.post enc Try.prog Try.f4 false true false false) := by
  refine returnsInHanded_of_change_sized (C := Try.checked) own started (by kernel_rfl) Try.func4
    (ChangeSpec.witness6 (enc := enc) (C := Try.checked) false ⟨#[], #[.int .i64 0, .int .u32 0, .int .u32 0, .int .u32 0, .slice none 0 0, .slice none 0 0], []⟩ 8 (by kernel_rfl) (by kernel_rfl) (by kernel_rfl) (by kernel_rfl)) ?_
  intro W base args ds gs before hval0 hW hcnd hsz0 _
  have hval : ∀ (j : Nat) t v, Try.f4.params[j]? = some t → args[j]? = some v → Value.okWide Try.prog W .any base t v := hval0
  have hsz : (DataW.weightsEach Try.prog (Try.f4.params.toList ++ Rows.polyAddsSpec.plain.varTypes Try.prog) (ds ++ gs)).all (· ≤ reachBytes) = true := hsz0
  have hW' := hW
  obtain ⟨p, q, hA0, hV, rfl, hfz, hnd⟩ := hW
  have hA : DataW.TrodAll enc Try.prog W 0 (fun _ => true) true Try.f4.params.toList args.toList ds p := hA0
  rw [Try.params4] at hA hval hsz
  obtain ⟨v0, vs0, d0, ds0, p0, q0, hargs, rfl, rfl, h0, r0⟩ := trodAll_cons hA
  obtain ⟨v1, vs1, d1, ds1, p1, q1, rfl, rfl, rfl, h1, r1⟩ := trodAll_cons r0
  obtain ⟨v2, vs2, d2, ds2, p2, q2, rfl, rfl, rfl, h2, r2⟩ := trodAll_cons r1
  obtain ⟨v3, vs3, d3, ds3, p3, q3, rfl, rfl, rfl, h3, r3⟩ := trodAll_cons r2
  obtain ⟨v4, vs4, d4, ds4, p4, q4, rfl, rfl, rfl, h4, r4⟩ := trodAll_cons r3
  obtain ⟨v5, vs5, d5, ds5, p5, q5, rfl, rfl, rfl, h5, r5⟩ := trodAll_cons r4
  obtain ⟨rfl, rfl, rfl⟩ := trodAll_nil r5
  obtain rfl : args = #[v0, v1, v2, v3, v4, v5] := by cases args; simp_all
  obtain ⟨rfl, rfl⟩ := trodVars_none hV
  obtain ⟨a0, rfl, rfl, rfl, w0⟩ := open_int Try.underlying3 (hval 0 3 v0 rfl rfl) h0
  obtain ⟨a1, rfl, rfl, rfl, w1⟩ := open_int Try.underlying22 (hval 1 22 v1 rfl rfl) h1
  obtain ⟨a2, rfl, rfl, rfl, w2⟩ := open_int Try.underlying22 (hval 2 22 v2 rfl rfl) h2
  obtain ⟨a3, rfl, rfl, rfl, w3⟩ := open_int Try.underlying22 (hval 3 22 v3 rfl rfl) h3
  obtain ⟨a4, len4, cap4, rfl⟩ := okWide_slice Try.underlying23 (hval 4 23 v4 rfl rfl)
  have k4 := h4
  have lt4 : ∀ x ∈ p4, x.block < W.heap.size := by obtain ⟨m, hm⟩ := k4; exact DataW.trod_lt m _ _ _ hm
  obtain ⟨z4, w4, y4⟩ : ∃ zs, Byt W W.heap.size a4 len4 cap4 zs ∧ cap4 * 1 ≤ 140737488351232 := by
    obtain ⟨fuel, hf⟩ := h4
    rcases open_ints Try.underlying23 Try.underlying5 (by kernel_rfl) hf with ⟨hcs, _⟩ | ⟨x, l, c, zs, hcs, _, hl, hm, hz, hx, hcell, hwz⟩
    · simp [Value.cells] at hcs
      obtain ⟨rfl, rfl, rfl⟩ := hcs
      exact ⟨[], Byt.nil_ _ _, by omega⟩
    · simp [Value.cells] at hcs
      obtain ⟨rfl, rfl, rfl⟩ := hcs
      have hs := hsz
      obtain ⟨rfl, rfl⟩ := hx
      have hs := sized_slice hs (j := 4) (t := 23) (e := 5) rfl rfl Try.underlying23
      rw [bytes1] at hs
      simp only [lits, List.length_map, List.length_take, List.length_drop, reachBytes] at hs
      exact ⟨_, byt_of_row hl hm (by simpa using hz) hcell hwz, by simp at hz; omega⟩
  obtain ⟨a5, len5, cap5, rfl⟩ := okWide_slice Try.underlying23 (hval 5 23 v5 rfl rfl)
  have k5 := h5
  have lt5 : ∀ x ∈ p5, x.block < W.heap.size := by obtain ⟨m, hm⟩ := k5; exact DataW.trod_lt m _ _ _ hm
  obtain ⟨z5, w5, y5⟩ : ∃ zs, Byt W W.heap.size a5 len5 cap5 zs ∧ cap5 * 1 ≤ 140737488351232 := by
    obtain ⟨fuel, hf⟩ := h5
    rcases open_ints Try.underlying23 Try.underlying5 (by kernel_rfl) hf with ⟨hcs, _⟩ | ⟨x, l, c, zs, hcs, _, hl, hm, hz, hx, hcell, hwz⟩
    · simp [Value.cells] at hcs
      obtain ⟨rfl, rfl, rfl⟩ := hcs
      exact ⟨[], Byt.nil_ _ _, by omega⟩
    · simp [Value.cells] at hcs
      obtain ⟨rfl, rfl, rfl⟩ := hcs
      have hs := hsz
      obtain ⟨rfl, rfl⟩ := hx
      have hs := sized_slice hs (j := 5) (t := 23) (e := 5) rfl rfl Try.underlying23
      rw [bytes1] at hs
      simp only [lits, List.length_map, List.length_take, List.length_drop, reachBytes] at hs
      exact ⟨_, byt_of_row hl hm (by simpa using hz) hcell hwz, by simp at hz; omega⟩
  clear hA0 hval0
  refine (walk a0 a1 a2 a3 a4 len4 cap4 z4 a5 len5 cap5 z5 W w0 w1 w2 w3 w4 y4 w5 y5).mono fun e W' ⟨he, bel⟩ => ?_
  subst he
  exact ⟨_, rfl, _, _, _, [], _, [], hW', trodAll_mk1 (shut_bool Try.underlying4 _), (trodAll_cons_mk (shut_int Try.underlying3 w0) (trodAll_cons_mk (shut_int Try.underlying22 w1) (trodAll_cons_mk (shut_int Try.underlying22 w2) (trodAll_cons_mk (shut_int Try.underlying22 w3) (trodAll_cons_mk (Below.trod laidOut (by kernel_rfl) (of_decide_eq_true (by kernel_rfl)) k4 bel lt4) (trodAll_cons_mk (Below.trod laidOut (by kernel_rfl) (of_decide_eq_true (by kernel_rfl)) k5 bel lt5) trodAll_mk0)))))), rfl, bel.frame _, fun h => by cases h⟩

theorem over : Rows.polyAddsRow.holds Try.pinned (OpenSpec.ofChange Rows.polyAddsSpec) :=
  OpenClaim.holds_of_wide 4 Try.f4 rfl rfl rfl rfl rfl rfl rfl ⟨rfl, rfl, rfl, rfl, rfl⟩ rfl rfl rfl rfl rfl (by kernel_rfl) Try.func4 (by kernel_rfl)
    (of_decide_eq_true (by kernel_rfl)) (by unfold Func.isWrapper; first | (rw [if_pos (by decide +kernel)]; kernel_rfl) | (rw [if_neg (by decide +kernel)]; exact ⟨rfl, rfl⟩))
    (fun os started H enc _ => lifted os started H enc)

theorem proved : Rows.PolyAddsSaid := over
end Go.Proofs.Ytmcpaficeaphlaa.polyAdds
