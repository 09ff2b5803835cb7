/- What Seal answers. -/
import Derived.Test.YtmcpaficeaphlaaPolyD
import Derived.Deep.RegionLawGrows
namespace Go.Proofs.Ytmcpaficeaphlaa
open Go.RowKit

theorem turn_full (w : World) (A : Option Addr) (n c : Nat) (l : List Int) (h : Byt w w.heap.size A n c l) (hn : n ≤ 281474976710656)
    (A2 : Option Addr) (m c2 : Nat) (a : List Int) (h2 : Nums w w.heap.size A2 m c2 a) :
    Calls Try.prog 25 #[.slice A n c, .slice A2 m c2] w fun e w' => ∃ A', e = .returned (.slice A' n n) ∧ Byt w' w'.heap.size A' n n (tL l a) ∧ Below w.heap.size w w' := by
  have hmx := h2.max
  have hcx := h2.cap
  simp only [maxLen] at hmx
  go_enter Try.func25, Try.ntmps25
  go_wp2_with fail
  refine (clean_any _ _ _ _ _ h hn).mono ?_
  rintro e w1 ⟨g, rfl, hg, hrow1, hb1⟩
  have h2' := h2.below hb1
  have hL := h.len
  have hrow : w1.rowIs g 5 n (fun i => .int .u8 (tb l (a.take 0) i)) := hrow1.congr fun i hi => by
    have e : (pl l).getD i 0 = l.getD i 0 % 2 := getD_map (f := (· % 2)) (by rw [h.len]; exact hi)
    rw [e]; simp [tb, cnt]
  clear hrow1 h h2
  go_wp2_with fail
  go_loopw [12] (fun i wr => ∃ j : Nat, j ≤ m ∧ i = .int .i64 j ∧ wr.rowIs g 5 n (fun i => .int .u8 (tb l (a.take j) i)) ∧ Below w.heap.size w1 wr) (fun i _ => m - (intOf i).toNat)
  case atStart => exact ⟨0, Nat.zero_le _, rfl, hrow, Below.refl _ _⟩
  case round =>
    obtain ⟨j, hj, rfl, hrow, hbel⟩ := hrel
    by_cases hlt : j < m
    · obtain ⟨b, off, rfl, hb, hc⟩ := h2'.cells (by omega)
      have hrange := h2'.range j
      have hcj := hc j hlt
      have htake : a.take (j + 1) = a.take j ++ [a.getD j 0] := take_succ_getD (by rw [h2'.len]; exact hlt)
      generalize a.getD j 0 = q at hrange hcj htake
      have hcell : wr.cell? ⟨b, off + j, none⟩ = some (.int .i64 q) := (hbel.cell (p := ⟨b, off + j, none⟩) hb).trans hcj
      have HT := Lib.hid htake
      have H2 := Lib.hid h2'
      have HL := Lib.hid hL
      obtain ⟨hq0, hq1⟩ := hrange
      clear hcj htake hc h2' hL
      by_cases hq2 : 0 ≤ q
      · obtain ⟨k, rfl⟩ := Int.eq_ofNat_of_zero_le hq2
        by_cases hkn : k < n
        · have hgc := hrow.cell hkn
          have hgf := hrow.frozen k
          have hr := tb_range l (a.take j) k
          generalize hv : tb l (a.take j) k = v at hgc hr
          have HV := Lib.hid hv
          obtain ⟨hv0, hv1⟩ := hr
          clear hv
          go_wp2
          go_roundw
          case rel =>
            refine ⟨j + 1, by omega, by go_num, (hrow.set k (.int .u8 (1 - v))).congr fun i _ => ?_, hbel.setCell hg _⟩
            rw [HT.out]
            by_cases e : i = k
            · subst e; rw [if_pos rfl, tb_snoc_eq, HV.out]
            · rw [if_neg e, tb_snoc_ne _ _ (by omega)]
          case measure => simp [intOf]; omega
        · go_wp2
          go_roundw
          case rel =>
            refine ⟨j + 1, by omega, by go_num, hrow.congr fun i hi => ?_, hbel⟩
            rw [HT.out, tb_snoc_ne _ _ (by omega)]
          case measure => simp [intOf]; omega
      · go_wp2
        go_roundw
        case rel =>
          refine ⟨j + 1, by omega, by go_num, hrow.congr fun i hi => ?_, hbel⟩
          rw [HT.out, tb_snoc_ne _ _ (by omega)]
        case measure => simp [intOf]; omega
    · obtain rfl : j = m := by omega
      have hm := h2'.len
      have hm2 : n ≤ 281474976710656 := hn
      rw [List.take_of_length_le (by omega)] at hrow
      have HR := Lib.hid hrow
      have HL := Lib.hid hL
      clear hm h2' hrow hL
      go_wp2
      go_ret
      have hl := HL.out
      refine ⟨_, rfl, Byt.of_row (HR.out.congr fun i hi => ?_) (by rw [tL_len]; exact hl) (by simp only [maxLen]; omega) (tL_range l a), hb1.trans hbel⟩
      rw [tL_getD _ _ (by omega)]
theorem Byt.drew {w : World} {B n c : Nat} {A : Option Addr} {l : List Int} (h : Byt w B A n c l) : Byt w.drew B A n c l := ⟨h.len, h.cap, h.max, h.rng, h.cells⟩

theorem Byt.none_ {w : World} {B n c : Nat} {A : Option Addr} {l : List Int} (h : Byt w B A n c l) (e : A = none) : n = 0 := by
  rcases Nat.eq_zero_or_pos n with h0 | h0
  · exact h0
  · obtain ⟨b, off, e', _⟩ := h.cells h0
    rw [e] at e'; cases e'
theorem Byt.news {w : World} {B n c : Nat} {A : Option Addr} {l : List Int} (h : Byt w B A n c l) : ∀ b, A = some b → ∀ j u, (l.map (Value.int .u8))[j]? = some u → w.cell? (b.add j) = some u := by
  intro b e j u hu
  have hj : j < n := by
    rcases Nat.lt_or_ge j n with h1 | h1
    · exact h1
    · rw [List.getElem?_eq_none (by simp [h.len]; omega)] at hu; cases hu
  obtain ⟨b0, off, e', _, hc⟩ := h.cells (by omega)
  rw [e] at e'
  cases e'
  have hplain : (⟨b0, off, none⟩ : Addr).add j = ⟨b0, off + j, none⟩ := by unfold Addr.add; split <;> simp_all
  rw [hplain, hc j hj]
  rw [List.getElem?_map, List.getElem?_eq_getElem (by rw [h.len]; exact hj)] at hu
  simp only [Option.map_some, Option.some.injEq] at hu
  subst hu
  simp [List.getD, List.getElem?_eq_getElem (show j < l.length by rw [h.len]; exact hj)]
theorem ints_cell (l : List Int) : ∀ u ∈ l.map (Value.int .u8), u.oneCell' = true := by
  intro u hu
  simp only [List.mem_map] at hu
  obtain ⟨x, _, rfl⟩ := hu
  rfl

theorem tL_nil (l : List Int) : tL l [] = pl l := by
  unfold tL pl
  apply List.ext_getElem
  · simp
  · intro i h1 h2
    simp [tb, cnt, List.getD]
    rw [List.getElem?_eq_getElem (by simpa using h1)]
    rfl
theorem ofL_bt (n W : Nat) : ofL (n : Int) W = btL n W := by
  unfold ofL btL
  exact List.map_congr_left fun i _ => bt_eq n _
theorem clamp_of {W : Nat} (h : W ≤ 32) : clampW (W : Int) = W := by unfold clampW; omega

/-- A row with its remainder behind. -/
def sealL (W L : Nat) (l : List Int) : List Int := pl l ++ ofL ((remN W L 0 l : Nat) : Int) W

theorem seal_no (W : Int) (L : Nat) (A : Option Addr) (n c : Nat) (w : World) (h : ¬ (1 ≤ W ∧ W ≤ 31 ∧ L < 2 ^ W.toNat)) :
    Calls Try.prog 13 #[.agg #[.int .i64 W, .int .u32 L], .slice A n c] w fun e w' => e = .returned (.slice none 0 0) ∧ Below w.heap.size w w' := by
  have hm := fun w => may_no W L w h
  have HM := Lib.hid hm
  clear hm h
  go_enter Try.func13, Try.ntmps13
  go_wp2_with fail
  refine (HM.out _).mono ?_
  rintro e w1 ⟨rfl, hb1⟩
  go_wp2
  go_ret
  exact ⟨rfl, ((Below.refl _ _).alloc (Nat.le_refl _) _).trans (hb1.mono (by simp))⟩

theorem seal_yes (W L : Nat) (A : Option Addr) (n c : Nat) (l : List Int) (w : World) (hW1 : 1 ≤ W) (hW : W ≤ 31) (hL : L < 2 ^ W) (h : Byt w w.heap.size A n c l) (hn : n ≤ 140737488351232) :
    Calls Try.prog 13 #[.agg #[.int .i64 W, .int .u32 L], .slice A n c] w fun e w' => ∃ A' c', e = .returned (.slice A' (n + W) c') ∧ Byt w' w'.heap.size A' (n + W) c' (sealL W L l) ∧ Below w.heap.size w w' := by
  have hm := fun w => may_yes W L w hW1 hW hL
  have HM := Lib.hid hm
  have hr : ∀ (w : World), Byt w w.heap.size A n c l → Calls Try.prog 12 #[.agg #[.int .i64 W, .int .u32 L], .int .u32 0, .slice A n c] w fun e w' => e = .returned (.int .u32 ((remN W L 0 l : Nat) : Int)) ∧ Below w.heap.size w w' := fun w h => rem_yes W L 0 A n c l w hW1 hW hL (by omega) h
  have hsl : sealL W L l = pl l ++ ofL ((remN W L 0 l : Nat) : Int) W := rfl
  have hlt := rem_lt (W := W) (L := L) hL 0 l
  have hp := pow32 hW
  have hsr : ∀ x ∈ sealL W L l, 0 ≤ x ∧ x ≤ 255 := fun x hx => by
    rw [hsl, List.mem_append] at hx
    rcases hx with hx | hx
    · exact pl_range l x hx
    · exact ofL_range _ _ x hx
  generalize sealL W L l = S at hsl hsr
  generalize remN W L 0 l = q at hr hlt hsl
  have hof := fun w => of_any (q : Int) (W : Int) w (by omega)
  rw [clamp_of (by omega)] at hof
  have HOF := Lib.hid hof
  have HR := Lib.hid hr
  have HSL := Lib.hid hsl
  have HSR := Lib.hid hsr
  have HL := Lib.hid hL
  have HH := Lib.hid h
  have hturn := fun (w : World) (h : Byt w w.heap.size A n c l) => turn_full w A n c l h (by omega) none 0 0 [] (Nums.nil_ _ _)
  rw [tL_nil] at hturn
  have HT := Lib.hid hturn
  have hpl := pl_len l
  have hll := h.len
  rw [hll] at hpl
  obtain ⟨i0, hi, hz0, hz1, hz2⟩ := info_parts byte_info
  clear hr hsl hof hsr hm hL hturn hll
  have hbw : Below w.heap.size w (w.alloc (Obj.cells #[Value.int IntKind.i64 ↑W, Value.int IntKind.u32 ↑L] 26)) := (Below.refl _ _).alloc (Nat.le_refl _) _
  have hP := PAt.new w W L
  have HB := Lib.hid hbw
  have HP := Lib.hid hP
  have HPL := Lib.hid hpl
  have HI := Lib.hid hi
  have HZ0 := Lib.hid hz0
  have HZ1 := Lib.hid hz1
  have HZ2 := Lib.hid hz2
  clear hbw hP h hpl hi hz0 hz1 hz2
  go_enter Try.func13, Try.ntmps13
  go_wp2_with fail
  generalize (w.alloc (Obj.cells #[Value.int IntKind.i64 ↑W, Value.int IntKind.u32 ↑L] 26)) = w0 at HB HP
  refine (HM.out _).mono ?_
  rintro e w1 ⟨rfl, hb1⟩
  have hP1 := HP.out.below hb1
  have hbw1 := HB.out.trans (hb1.mono HB.out.size)
  have HP1 := Lib.hid hP1
  clear hP1
  go_wp2_with fail
  refine (HT.out _ (HH.out.step hbw1)).mono ?_
  rintro e w2 ⟨AT, rfl, hBT, hb2⟩
  have hP2 := HP1.out.below hb2
  have hbw2 := hbw1.trans (hb2.mono hbw1.size)
  have hc0 := hP2.c0
  have hc1 := hP2.c1
  have hgl := hP2.lt
  have HBT := Lib.hid hBT
  clear hP2 hBT
  go_wp2_with fail
  go_region_held3 (fun w' => w'.cell? ⟨w.heap.size, 0, none⟩ = some (.int .i64 W) ∧ w'.cell? ⟨w.heap.size, 1, none⟩ = some (.int .u32 L))
    (first | exact ⟨hc0, hc1⟩ | exact k3 | exact k4 | exact k5)
    (first
      | (go_at_call 12
         refine (HR.out w2.drew (HH.out.step hbw2.drew)).mono ?_
         rintro e w3 ⟨rfl, hb3⟩
         have k3 : w3.cell? ⟨w.heap.size, 0, none⟩ = some (.int .i64 W) ∧ w3.cell? ⟨w.heap.size, 1, none⟩ = some (.int .u32 L) := ⟨(hb3.cell (p := ⟨w.heap.size, 0, none⟩) hgl).trans hc0, (hb3.cell (p := ⟨w.heap.size, 1, none⟩) hgl).trans hc1⟩
         have hbw3 := hbw2.drew.trans (hb3.mono hbw2.size)
         have hg3 := Nat.lt_of_lt_of_le hgl hb3.size
         have hBT3 : Hid (Byt w3 w3.heap.size AT n n (pl l)) := (Byt.step (Byt.drew HBT.out) hb3))
      | (go_at_call 26
         refine (HOF.out _).mono ?_
         rintro e w4 ⟨A4, c4, rfl, hB4, hb4⟩
         have k4 : w4.cell? ⟨w.heap.size, 0, none⟩ = some (.int .i64 W) ∧ w4.cell? ⟨w.heap.size, 1, none⟩ = some (.int .u32 L) := ⟨(hb4.cell (p := ⟨w.heap.size, 0, none⟩) hg3).trans k3.1, (hb4.cell (p := ⟨w.heap.size, 1, none⟩) hg3).trans k3.2⟩
         have hbw4 := hbw3.trans (hb4.mono hbw3.size)
         have hg4 := Nat.lt_of_lt_of_le hg3 hb4.size
         have hBT4 : Hid (Byt w4 w4.heap.size AT n n (pl l)) := (Byt.step hBT3.out hb4)
         obtain ⟨b4, o4, rfl, _, _⟩ := hB4.cells hW1
         have HB4 := Lib.hid hB4
         clear hB4)
      | (refine step_append_grows rfl (.tmp 11) (.tmp 17) 23 rfl 5 i0 (.int .u8 0) 1 1 Try.underlying23 HI.out HZ0.out HZ1.out HZ2.out rfl (by decide) AT n n ((pl l).map (Value.int .u8)) rfl (fun e => ⟨hBT4.out.none_ e, hBT4.out.none_ e⟩) (by rw [List.length_map, HPL.out, Nat.mul_one]) hBT4.out.news ⟨b4, o4, none⟩ W c4 ((ofL (q : Int) W).map (Value.int .u8)) rfl (by rw [List.length_map, ofL_len, Nat.mul_one]) (HB4.out.news _ rfl) (ints_cell _) (by omega) (by simp only [maxLen]; omega) (by omega) ?_
         intro v5 w5 hown5 hg5
         rw [← List.map_append, ← HSL.out] at hown5
         have k5 : w5.cell? ⟨w.heap.size, 0, none⟩ = some (.int .i64 W) ∧ w5.cell? ⟨w.heap.size, 1, none⟩ = some (.int .u32 L) := ⟨(World.cell?_of_block (a := ⟨w.heap.size, 0, none⟩) (hg5.block _ hg4 (by simp))).trans k4.1, (World.cell?_of_block (a := ⟨w.heap.size, 1, none⟩) (hg5.block _ hg4 (by simp))).trans k4.2⟩
         have hbw5 := hbw4.grown hg5 hbw4.size (fun k e => by cases e)))
  go_wp2
  go_ret
  obtain ⟨A', c', rfl, hB5, _⟩ := Byt.of_own hown5 HSR.out
  exact ⟨_, _, rfl, hB5, hbw5⟩
end Go.Proofs.Ytmcpaficeaphlaa
