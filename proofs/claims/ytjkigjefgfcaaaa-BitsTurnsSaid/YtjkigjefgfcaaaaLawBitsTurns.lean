/- The statement BitsTurns: bits that are turned are turned, as often as it is told, and no others; the row that was handed in is as it was: every row (of up to 100 bits), and places (of which the first 20 count). No conditions. -/
import Derived.Test.YtjkigjefgfcaaaaBitsT
import Derived.Test.YtjkigjefgfcaaaaBitsE
import Derived.Test.YtjkigjefgfcaaaaRows
import Derived.ChangeOld
import Derived.ShutString
namespace Go.Proofs.Ytjkigjefgfcaaaa.bitsTurns
open Go.ChangeShapes Go.WideShapes Go.ChangeAt Go.RowKit
set_option linter.unusedVariables false

theorem rest (A : Option Addr) (n c : Nat) (l : List Int) (A2 : Option Addr) (m c2 : Nat) (a : List Int) (w : World) (h : Byt w w.heap.size A n c l) (h2 : Nums w w.heap.size A2 m c2 a) (hn : ¬ 100 < n)
    (k : Nat) (hk : (k = m ∧ m ≤ 20) ∨ (k = 20 ∧ 20 < m)) :
    Calls Try.prog 7 #[.slice A n c, .slice A2 m c2] w fun e w' => e = .returned (.bool true) ∧ Below w.heap.size w w' := by
  have hmx := h2.max
  have hcx := h2.cap
  simp only [maxLen] at hmx
  have hcap := h.cap
  have hmx1 := h.max
  simp only [maxLen] at hmx1
  have hk20 : k ≤ m ∧ k ≤ 20 := by omega
  have hN := h2.take (k := k) (by omega)
  generalize a.take k = b at hN
  clear h2
  rcases hk with ⟨rfl, h20⟩ | ⟨rfl, h20⟩
  · go_enter Try.func7, Try.ntmps7
    go_wp2_with (at_builtin; refine wpList_bytes rfl (.tmp 19) (.tmp 20) rfl Try.underlying23 byte_info rfl (l := []) (World.ownsRow_lit w #[] 0 (Nat.le_refl _) (by simp [maxLen]) rfl) rfl (h.keep (B := w.heap.size) (fun b o hlt => ((Below.refl w.heap.size w).alloc (Nat.le_refl _) _).cell (p := ⟨b, o, none⟩) hlt)) (by omega) (by simp) ?_; intro v1 w1 hown1 hbel1)
    have hb1 : Below w.heap.size w w1 := ((Below.refl _ _).alloc (Nat.le_refl _) _).trans hbel1
    rw [List.nil_append] at hown1
    obtain ⟨A1, c1, rfl, hB1, _⟩ := Byt.of_own hown1 h.rng
    rw [Nat.zero_add] at hB1
    have hl := h.len
    clear hown1 hbel1
    go_wp2_with fail
    refine (turn_any _ _ _ _ _ (h.step hb1) (by omega) _ _ _ _ (hN.step hb1)).mono ?_
    rintro e w2 ⟨AX, cX, rfl, hX, hb2⟩
    have hs2 := below_trans' hb1 hb2
    go_wp2_with fail
    refine (same_any _ _ _ _ _ _ _ _ _ (h.step hs2) (hB1.step hb2)).mono ?_
    rintro e w3 ⟨he, hb3⟩
    rw [decide_eq_true rfl] at he
    subst he
    have hs3 := below_trans' hs2 hb3
    have hX3 := hX.step hb3
    have h3 := h.step hs3
    have hN3 := hN.step hs3
    clear h hN hX hB1
    go_wp2_with fail
    go_loop [7] (fun i => ∃ j : Nat, j ≤ n ∧ i = .int .i64 j) (fun i => n - (intOf i).toNat)
    case atStart => exact ⟨0, Nat.zero_le _, rfl⟩
    case round =>
      obtain ⟨j, hj, rfl⟩ := hrel
      by_cases hlt : j < n
      · obtain ⟨b0, off, rfl, hb0, hc⟩ := h3.cells (by omega)
        obtain ⟨bx, offx, rfl, hbx, hcx3⟩ := hX3.cells (by omega)
        have hcj := hc j hlt
        have hcxj := hcx3 j hlt
        rw [tL_getD _ _ (by omega)] at hcxj
        have hrange := h3.range j
        have htb : tb l b j = (l.getD j 0 + (cnt b j : Int)) % 2 := rfl
        have hle := cnt_le b j
        have hbl := hN3.len
        generalize l.getD j 0 = q at hcj hrange htb
        generalize tb l b j = v at hcxj htb
        obtain ⟨hq0, hq1⟩ := hrange
        have HT := Lib.hid htb
        have H3 := Lib.hid h3
        have HX := Lib.hid hX3
        have HL := Lib.hid hl
        clear htb hc hcx3 h3 hX3 hl
        go_wp2_with fail
        go_loop [8, 9] (fun nn kk => ∃ t : Nat, t ≤ k ∧ kk = .int .i64 t ∧ nn = .int .i64 (q + (cnt (b.take t) j : Int))) (fun _ kk => k - (intOf kk).toNat)
        case atStart => exact ⟨0, Nat.zero_le _, rfl, by simp [cnt]⟩
        case round =>
          obtain ⟨t, ht, rfl, rfl⟩ := hrel
          by_cases hlt2 : t < k
          · obtain ⟨ba, offa, rfl, hba, hca⟩ := hN3.cells (by omega)
            have hcat := hca t hlt2
            have hra := hN3.range t
            have hcs : cnt (b.take (t + 1)) j = cnt (b.take t) j + if b.getD t 0 = (j : Int) then 1 else 0 := by rw [take_succ_getD (by rw [hbl]; exact hlt2), cnt_snoc]
            have hcl : cnt (b.take t) j ≤ 20 := by have := cnt_le (b.take t) j; rw [List.length_take] at this; omega
            generalize b.getD t 0 = z at hcat hra hcs
            generalize cnt (b.take t) j = y at hcs hcl
            have HN := Lib.hid hN3
            have HCA := Lib.hid hca
            have HB := Lib.hid hbl
            obtain ⟨hz0, hz1⟩ := hra
            by_cases hzj : z = (j : Int)
            · rw [if_pos hzj] at hcs
              have t1 : (z == (j : Int)) = true := by simp [hzj]
              have HS := Lib.hid hcs
              have HZ := Lib.hid hzj
              clear hcs hzj hN3 hca hbl
              go_wp2
              go_round
              case rel => exact ⟨t + 1, by omega, by go_num, by rw [HS.out]; go_num⟩
              case measure => simp [intOf]; omega
            · rw [if_neg hzj] at hcs
              have t1 : (z == (j : Int)) = false := by simp [hzj]
              have HS := Lib.hid hcs
              have HZ := Lib.hid hzj
              clear hcs hzj hN3 hca hbl
              go_wp2
              go_round
              case rel => exact ⟨t + 1, by omega, by go_num, by rw [HS.out]; go_num⟩
              case measure => simp [intOf]; omega
          · obtain rfl : t = k := by omega
            rw [List.take_of_length_le (by omega)]
            generalize cnt b j = y at hle HT
            have t1 : (v != (q + (y : Int)) % 2) = false := by rw [HT.out]; simp
            have t2 : (v == (q + (y : Int)) % 2) = true := by rw [HT.out]; simp
            have hv : 0 ≤ v ∧ v ≤ 1 := by rw [HT.out]; omega
            obtain ⟨hv0, hv1⟩ := hv
            have HB := Lib.hid hbl
            have HN := Lib.hid hN3
            have hy : y ≤ 20 := by omega
            clear hbl hN3 hle
            go_wp2
            go_round
            case rel => exact ⟨j + 1, by omega, by go_num⟩
            case measure => simp [intOf]; omega
      · clear h3 hX3 hN3 hl
        go_wp2_with fail
        refine (live1_any _).mono ?_
        rintro e w4 ⟨rfl, hb4⟩
        go_wp2
        go_ret
        exact ⟨rfl, below_trans' hs3 hb4⟩

  · go_enter Try.func7, Try.ntmps7
    go_wp2_with (at_builtin; refine wpList_bytes rfl (.tmp 19) (.tmp 20) rfl Try.underlying23 byte_info rfl (l := []) (World.ownsRow_lit w #[] 0 (Nat.le_refl _) (by simp [maxLen]) rfl) rfl (h.keep (B := w.heap.size) (fun b o hlt => ((Below.refl w.heap.size w).alloc (Nat.le_refl _) _).cell (p := ⟨b, o, none⟩) hlt)) (by omega) (by simp) ?_; intro v1 w1 hown1 hbel1)
    have hb1 : Below w.heap.size w w1 := ((Below.refl _ _).alloc (Nat.le_refl _) _).trans hbel1
    rw [List.nil_append] at hown1
    obtain ⟨A1, c1, rfl, hB1, _⟩ := Byt.of_own hown1 h.rng
    rw [Nat.zero_add] at hB1
    have hl := h.len
    clear hown1 hbel1
    go_wp2_with fail
    refine (turn_any _ _ _ _ _ (h.step hb1) (by omega) _ _ _ _ (hN.step hb1)).mono ?_
    rintro e w2 ⟨AX, cX, rfl, hX, hb2⟩
    have hs2 := below_trans' hb1 hb2
    go_wp2_with fail
    refine (same_any _ _ _ _ _ _ _ _ _ (h.step hs2) (hB1.step hb2)).mono ?_
    rintro e w3 ⟨he, hb3⟩
    rw [decide_eq_true rfl] at he
    subst he
    have hs3 := below_trans' hs2 hb3
    have hX3 := hX.step hb3
    have h3 := h.step hs3
    have hN3 := hN.step hs3
    clear h hN hX hB1
    go_wp2_with fail
    go_loop [7] (fun i => ∃ j : Nat, j ≤ n ∧ i = .int .i64 j) (fun i => n - (intOf i).toNat)
    case atStart => exact ⟨0, Nat.zero_le _, rfl⟩
    case round =>
      obtain ⟨j, hj, rfl⟩ := hrel
      by_cases hlt : j < n
      · obtain ⟨b0, off, rfl, hb0, hc⟩ := h3.cells (by omega)
        obtain ⟨bx, offx, rfl, hbx, hcx3⟩ := hX3.cells (by omega)
        have hcj := hc j hlt
        have hcxj := hcx3 j hlt
        rw [tL_getD _ _ (by omega)] at hcxj
        have hrange := h3.range j
        have htb : tb l b j = (l.getD j 0 + (cnt b j : Int)) % 2 := rfl
        have hle := cnt_le b j
        have hbl := hN3.len
        generalize l.getD j 0 = q at hcj hrange htb
        generalize tb l b j = v at hcxj htb
        obtain ⟨hq0, hq1⟩ := hrange
        have HT := Lib.hid htb
        have H3 := Lib.hid h3
        have HX := Lib.hid hX3
        have HL := Lib.hid hl
        clear htb hc hcx3 h3 hX3 hl
        go_wp2_with fail
        go_loop [8, 9] (fun nn kk => ∃ t : Nat, t ≤ 20 ∧ kk = .int .i64 t ∧ nn = .int .i64 (q + (cnt (b.take t) j : Int))) (fun _ kk => 20 - (intOf kk).toNat)
        case atStart => exact ⟨0, Nat.zero_le _, rfl, by simp [cnt]⟩
        case round =>
          obtain ⟨t, ht, rfl, rfl⟩ := hrel
          by_cases hlt2 : t < 20
          · obtain ⟨ba, offa, rfl, hba, hca⟩ := hN3.cells (by omega)
            have hcat := hca t hlt2
            have hra := hN3.range t
            have hcs : cnt (b.take (t + 1)) j = cnt (b.take t) j + if b.getD t 0 = (j : Int) then 1 else 0 := by rw [take_succ_getD (by rw [hbl]; exact hlt2), cnt_snoc]
            have hcl : cnt (b.take t) j ≤ 20 := by have := cnt_le (b.take t) j; rw [List.length_take] at this; omega
            generalize b.getD t 0 = z at hcat hra hcs
            generalize cnt (b.take t) j = y at hcs hcl
            have HN := Lib.hid hN3
            have HCA := Lib.hid hca
            have HB := Lib.hid hbl
            obtain ⟨hz0, hz1⟩ := hra
            by_cases hzj : z = (j : Int)
            · rw [if_pos hzj] at hcs
              have t1 : (z == (j : Int)) = true := by simp [hzj]
              have HS := Lib.hid hcs
              have HZ := Lib.hid hzj
              clear hcs hzj hN3 hca hbl
              go_wp2
              go_round
              case rel => exact ⟨t + 1, by omega, by go_num, by rw [HS.out]; go_num⟩
              case measure => simp [intOf]; omega
            · rw [if_neg hzj] at hcs
              have t1 : (z == (j : Int)) = false := by simp [hzj]
              have HS := Lib.hid hcs
              have HZ := Lib.hid hzj
              clear hcs hzj hN3 hca hbl
              go_wp2
              go_round
              case rel => exact ⟨t + 1, by omega, by go_num, by rw [HS.out]; go_num⟩
              case measure => simp [intOf]; omega
          · obtain rfl : t = 20 := by omega
            rw [List.take_of_length_le (by omega)]
            generalize cnt b j = y at hle HT
            have t1 : (v != (q + (y : Int)) % 2) = false := by rw [HT.out]; simp
            have t2 : (v == (q + (y : Int)) % 2) = true := by rw [HT.out]; simp
            have hv : 0 ≤ v ∧ v ≤ 1 := by rw [HT.out]; omega
            obtain ⟨hv0, hv1⟩ := hv
            have HB := Lib.hid hbl
            have HN := Lib.hid hN3
            have hy : y ≤ 20 := by omega
            clear hbl hN3 hle
            go_wp2
            go_round
            case rel => exact ⟨j + 1, by omega, by go_num⟩
            case measure => simp [intOf]; omega
      · clear h3 hX3 hN3 hl
        go_wp2_with fail
        refine (live1_any _).mono ?_
        rintro e w4 ⟨rfl, hb4⟩
        go_wp2
        go_ret
        exact ⟨rfl, below_trans' hs3 hb4⟩

theorem walk (A : Option Addr) (n c : Nat) (l : List Int) (A2 : Option Addr) (m c2 : Nat) (a : List Int) (w : World) (h : Byt w w.heap.size A n c l) (h2 : Nums w w.heap.size A2 m c2 a) :
    Calls Try.prog 7 #[.slice A n c, .slice A2 m c2] w fun e w' => e = .returned (.bool true) ∧ Below w.heap.size w w' := by
  by_cases hn : 100 < n
  · go_enter Try.func7, Try.ntmps7
    go_wp2_with fail
    refine (live1_any _).mono ?_
    rintro e w1 ⟨rfl, hb⟩
    go_wp2
    go_ret
    exact ⟨rfl, hb⟩
  · by_cases h20 : m ≤ 20
    · exact rest A n c l A2 m c2 a w h h2 hn m (.inl ⟨rfl, h20⟩)
    · exact rest A n c l A2 m c2 a w h h2 hn 20 (.inr ⟨rfl, by omega⟩)

theorem own : ownKnob Try.prog.godebug = none := by kernel_rfl
theorem laidOut : laidOutB Try.prog = true := by kernel_rfl


set_option maxRecDepth 100000 in
theorem lifted (os : Os) (started : os.Started) (H : Type) (enc : TypeId × Value → H) :
    ReturnsInHanded {} Try.checked os 7 .any (Rows.bitsTurnsSpec.pre6 enc Try.prog Try.f7 Rows.bitsTurnsRow.domain false) (Rows.bitsTurnsSpec.post enc Try.prog Try.f7 false true false false) := by
  refine returnsInHanded_of_change (C := Try.checked) own started (by kernel_rfl) Try.func7
    (ChangeSpec.witness6 (enc := enc) (C := Try.checked) false ⟨#[], #[.slice none 0 0, .slice none 0 0], []⟩ 8 (by kernel_rfl) (by kernel_rfl) (by kernel_rfl) (by kernel_rfl)) ?_
  intro W base args ds gs before hval0 hW hcnd _
  have hval : ∀ (j : Nat) t v, Try.f7.params[j]? = some t → args[j]? = some v → Value.okWide Try.prog W .any base t v := hval0
  have hW' := hW
  obtain ⟨p, q, hA0, hV, rfl, hfz, hnd⟩ := hW
  have hA : DataW.TrodAll enc Try.prog W 0 (fun _ => true) true Try.f7.params.toList args.toList ds p := hA0
  rw [Try.params7] at hA hval
  obtain ⟨v0, vs0, d0, ds0, p0, q0, hargs, rfl, rfl, h0, r0⟩ := trodAll_cons hA
  obtain ⟨v1, vs1, d1, ds1, p1, q1, rfl, rfl, rfl, h1, r1⟩ := trodAll_cons r0
  obtain ⟨rfl, rfl, rfl⟩ := trodAll_nil r1
  obtain rfl : args = #[v0, v1] := by cases args; simp_all
  obtain ⟨rfl, rfl⟩ := trodVars_none hV
  obtain ⟨a0, len0, cap0, rfl⟩ := okWide_slice Try.underlying23 (hval 0 23 v0 rfl rfl)
  have k0 := h0
  have lt0 : ∀ x ∈ p0, x.block < W.heap.size := by obtain ⟨m, hm⟩ := k0; exact DataW.trod_lt m _ _ _ hm
  obtain ⟨z0, w0⟩ : ∃ zs, Byt W W.heap.size a0 len0 cap0 zs := by
    obtain ⟨fuel, hf⟩ := h0
    rcases open_ints Try.underlying23 Try.underlying5 (by kernel_rfl) hf with ⟨hcs, _⟩ | ⟨x, l, c, zs, hcs, _, hl, hm, hz, _, hcell, hwz⟩
    · simp [Value.cells] at hcs
      obtain ⟨rfl, rfl, rfl⟩ := hcs
      exact ⟨[], Byt.nil_ _ _⟩
    · simp [Value.cells] at hcs
      obtain ⟨rfl, rfl, rfl⟩ := hcs
      exact ⟨_, byt_of_row hl hm (by simpa using hz) hcell hwz⟩
  obtain ⟨a1, len1, cap1, rfl⟩ := okWide_slice Try.underlying40 (hval 1 40 v1 rfl rfl)
  have k1 := h1
  have lt1 : ∀ x ∈ p1, x.block < W.heap.size := by obtain ⟨m, hm⟩ := k1; exact DataW.trod_lt m _ _ _ hm
  obtain ⟨z1, w1⟩ : ∃ zs, Nums W W.heap.size a1 len1 cap1 zs := by
    obtain ⟨fuel, hf⟩ := h1
    rcases open_ints Try.underlying40 Try.underlying3 (by kernel_rfl) hf with ⟨hcs, _⟩ | ⟨x, l, c, zs, hcs, _, hl, hm, hz, _, hcell, hwz⟩
    · simp [Value.cells] at hcs
      obtain ⟨rfl, rfl, rfl⟩ := hcs
      exact ⟨[], Nums.nil_ _ _⟩
    · simp [Value.cells] at hcs
      obtain ⟨rfl, rfl, rfl⟩ := hcs
      exact ⟨_, nums_of_row hl hm (by simpa using hz) hcell hwz⟩
  clear hA0 hval0
  refine (walk a0 len0 cap0 z0 a1 len1 cap1 z1 W w0 w1).mono fun e W' ⟨he, bel⟩ => ?_
  subst he
  exact ⟨_, rfl, _, _, _, [], _, [], hW', trodAll_mk1 (shut_bool Try.underlying4 _), (trodAll_cons_mk (Below.trod laidOut (by kernel_rfl) (of_decide_eq_true (by kernel_rfl)) k0 bel lt0) (trodAll_cons_mk (Below.trod laidOut (by kernel_rfl) (of_decide_eq_true (by kernel_rfl)) k1 bel lt1) trodAll_mk0)), rfl, bel.frame _, fun h => by cases h⟩

theorem over : Rows.bitsTurnsRow.holds Try.pinned (OpenSpec.ofChange Rows.bitsTurnsSpec) :=
  OpenClaim.holds_of_wide 7 Try.f7 rfl rfl rfl rfl rfl rfl rfl ⟨rfl, rfl, rfl, rfl, rfl⟩ rfl rfl rfl rfl rfl (by kernel_rfl) Try.func7 (by kernel_rfl)
    (of_decide_eq_true (by kernel_rfl)) (by unfold Func.isWrapper; first | (rw [if_pos (by decide +kernel)]; kernel_rfl) | (rw [if_neg (by decide +kernel)]; exact ⟨rfl, rfl⟩))
    (fun os started H enc _ => lifted os started H enc)

theorem proved : Rows.BitsTurnsSaid := over
end Go.Proofs.Ytjkigjefgfcaaaa.bitsTurns
