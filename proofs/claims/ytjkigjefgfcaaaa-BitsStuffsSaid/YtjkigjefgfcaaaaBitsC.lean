/- What the document's Stuff and the two Unstuffs answer. -/
import Derived.Test.YtjkigjefgfcaaaaBitsB
namespace Go.Proofs.Ytjkigjefgfcaaaa
open Go.RowKit

/-- One byte more in a row of the call's own; the row is a slice that reads so. -/
theorem wpList_byteS {P : Program} {wr : World} {ops : Array Oper} {rest : List Oper} {o : Oper} {a : Act} {Q : Exit → Act → World → Prop} {base t e n : Nat} {q : Int} {l : List Int} {v : Value} (hgd : o.guard = none) (s x : Operand)
    (ho : o.op = .call { callee := .builtin .append, args := #[s, x], argTypes := #[t, t] }) (ht : P.underlying t = some (.slice e))
    (hinfo : (P.info? e).map (fun i => (i.zero, i.size, i.bytes)) = some (some (.int .u8 0), 1, 1)) (hs : a.eval s = v) (hown : wr.ownsRow base e 1 v n (l.map (Value.int .u8)))
    (hx : a.eval x = .slice (some ⟨wr.heap.size, 0, none⟩) 1 1) (hn : n + 1 ≤ 140737488355328) (hb : base ≤ wr.heap.size) (hr : ∀ y ∈ l ++ [q], 0 ≤ y ∧ y ≤ 255)
    (h : ∀ A c w', w'.ownsRow base e 1 (.slice A (n + 1) c) (n + 1) ((l ++ [q]).map (Value.int .u8)) → Byt w' w'.heap.size A (n + 1) c (l ++ [q]) → Below base wr w' → wpList P ops Q rest (a.put o.dst (.slice A (n + 1) c)) w') :
    wpList P ops Q (o :: rest) a (wr.alloc (.cells #[.int .u8 q] e)) := by
  refine wpList_byte hgd s x ho ht hinfo hs hown hx hn hb fun v' w' h1 h2 => ?_
  obtain ⟨A, c, rfl, hB, _⟩ := Byt.of_own h1 hr
  exact h A c w' h1 hB h2

theorem own_below {w w' : World} {base e size n : Nat} {v : Value} {xs : List Value} (h : w.ownsRow base e size v n xs) (hb : Below w.heap.size w w') : w'.ownsRow base e size v n xs :=
  h.kept (row := none) ⟨hb.os, hb.tape, hb.output, hb.size, fun i hi _ => hb.block i hi⟩ (by
    rcases h.2 with ⟨rfl, _⟩ | ⟨g, cap, cur, rfl, _⟩
    · exact .inl rfl
    · exact .inr (by simp [Value.ownBlock]))

theorem rstuff_any (w : World) (A : Option Addr) (n c : Nat) (l : List Int) (h : Byt w w.heap.size A n c l) (hn : n ≤ 1000000) :
    Calls Try.prog 18 #[.slice A n c] w fun e w' => ∃ A' c', e = .returned (.slice A' (stuffL l).length c') ∧ Byt w' w'.heap.size A' (stuffL l).length c' (stuffL l) ∧ Below w.heap.size w w' := by
  go_enter Try.func18, Try.ntmps18
  go_wp2_with fail
  go_loopw [4, 3] (fun i v wr => ∃ (j : Nat) (out : List Int), j ≤ n ∧ i = .int .i64 j ∧ Hid (out = stuffL (l.take j)) ∧ wr.ownsRow w.heap.size 5 1 v out.length (out.map (Value.int .u8)) ∧ Below w.heap.size w wr) (fun i _ _ => n - (intOf i).toNat)
  case atStart => exact ⟨0, [], Nat.zero_le _, rfl, rfl, World.ownsRow_lit w #[] 0 (Nat.le_refl _) (by simp [maxLen]) rfl, (Below.refl _ _).alloc (Nat.le_refl _) _⟩
  case round =>
    obtain ⟨j, out, hj, rfl, hout, hown, hbel⟩ := hrel
    by_cases hlt : j < n
    · obtain ⟨b, off, rfl, hb, hc⟩ := h.cells (by omega)
      have hrange := h.range j
      have hcj := hc j hlt
      have hget : l.take (j + 1) = l.take j ++ [l.getD j 0] := take_succ_getD (by rw [h.len]; exact hlt)
      generalize l.getD j 0 = q at hrange hcj hget
      have hcell : wr.cell? ⟨b, off + j, none⟩ = some (.int .u8 q) := (hbel.cell (p := ⟨b, off + j, none⟩) hb).trans hcj
      have hstep : stuffL (l.take (j + 1)) = stuffStep out q := by rw [hget, stuffL_snoc, ← hout.out]
      have hsz := stuff_size (l.take j)
      have hln : (l.take j).length = j := by rw [List.length_take, h.len]; omega
      rw [hln, ← hout.out] at hsz
      have hol : out.length ≤ 2000000 := by omega
      have hob : ∀ y ∈ out, y = 0 ∨ y = 1 := by rw [hout.out]; exact stuff_bits _
      have hr1 : ∀ y ∈ out ++ [q % 2], 0 ≤ y ∧ y ≤ 255 := fun y hy => by
        simp only [List.mem_append, List.mem_singleton] at hy
        rcases hy with hy | hy
        · have := hob y hy; omega
        · omega
      have hr2 : ∀ y ∈ out ++ [q % 2] ++ [1 - q % 2], 0 ≤ y ∧ y ≤ 255 := fun y hy => by
        rw [List.mem_append] at hy
        rcases hy with hy | hy
        · exact hr1 y hy
        · simp only [List.mem_singleton] at hy; omega
      have HST := Lib.hid hstep
      have HH := Lib.hid h
      have HR1 := Lib.hid hr1
      have HR2 := Lib.hid hr2
      obtain ⟨hq0, hq1⟩ := hrange
      by_cases h5 : tailN (out ++ [q % 2]) = 5
      · have H5 := Lib.hid h5
        clear hcj hget hc h hstep hsz hln h5 hob hr1 hr2
        go_wp2_with (at_builtin; refine wpList_byteS rfl (.tmp 12) (.tmp 18) rfl Try.underlying23 byte_info rfl hown rfl (by omega) hbel.size HR1.out ?_; intro A1 c1 w1 hown1 hB1 hbel1)
        refine (tail_any _ _ _ _ _ hB1).mono ?_
        rintro e w2 ⟨he, hb2⟩
        rw [show ((tailN (out ++ [q % 2]) : Nat) : Int) = 5 by rw [H5.out]; rfl] at he
        subst he
        have hbel2 := (hbel.trans hbel1).trans (hb2.mono (Nat.le_trans hbel.size hbel1.size))
        have hcell2 : w2.cell? ⟨b, off + j, none⟩ = some (.int .u8 q) := (((hbel1.trans (hb2.mono (Nat.le_trans hbel.size hbel1.size))).cell (p := ⟨b, off + j, none⟩) hb)).trans hcell
        have hown2 := own_below hown1 hb2
        have hlen2 : out.length + 1 = (out ++ [q % 2]).length := by simp
        have HL2 := Lib.hid hlen2
        clear hlen2 hcell
        go_wp2_with (at_builtin; refine wpList_byteS rfl (.tmp 23) (.tmp 30) rfl Try.underlying23 byte_info rfl hown2 rfl (by omega) hbel2.size HR2.out ?_; intro A3 c3 w3 hown3 hB3 hbel3)
        go_roundw
        case rel =>
          have e1 : stuffStep out q = out ++ [q % 2] ++ [1 - q % 2] := by unfold stuffStep; rw [if_pos H5.out]
          have e2 : (stuffStep out q).length = out.length + 1 + 1 := by rw [e1]; simp
          exact ⟨j + 1, stuffStep out q, by omega, by go_num, HST.out.symm, by rw [e2, e1]; exact hown3, hbel2.trans hbel3⟩
        case measure => simp [intOf]; omega
      · have H5 := Lib.hid h5
        have hd : ((tailN (out ++ [q % 2]) : Int) == 5) = false := by simp; omega
        clear hcj hget hc h hstep hsz hln h5 hob hr1 hr2
        go_wp2_with (at_builtin; refine wpList_byteS rfl (.tmp 12) (.tmp 18) rfl Try.underlying23 byte_info rfl hown rfl (by omega) hbel.size HR1.out ?_; intro A1 c1 w1 hown1 hB1 hbel1)
        refine (tail_any _ _ _ _ _ hB1).mono ?_
        rintro e w2 ⟨rfl, hb2⟩
        have hbel2 := (hbel.trans hbel1).trans (hb2.mono (Nat.le_trans hbel.size hbel1.size))
        have hown2 := own_below hown1 hb2
        go_wp2
        go_roundw
        case rel =>
          have e1 : stuffStep out q = out ++ [q % 2] := by unfold stuffStep; rw [if_neg H5.out]
          have e2 : (stuffStep out q).length = out.length + 1 := by rw [e1]; simp
          exact ⟨j + 1, stuffStep out q, by omega, by go_num, HST.out.symm, by rw [e2, e1]; exact hown2, hbel2⟩
        case measure => simp [intOf]; omega
    · obtain rfl : j = n := by omega
      have hl := h.len
      have e := hout.out
      rw [List.take_of_length_le (by omega)] at e
      subst e
      clear hl hout
      go_wp2
      go_ret
      obtain ⟨A', c', rfl, hB, _⟩ := Byt.of_own hown (stuff_range l)
      exact ⟨_, _, rfl, hB, hbel⟩

theorem unstuff_any (w : World) (A : Option Addr) (n c : Nat) (l : List Int) (h : Byt w w.heap.size A n c l) (hn : n ≤ 281474976710656) :
    Calls Try.prog 15 #[.slice A n c] w fun e w' => ∃ A' c', e = .returned (.tuple #[.slice A' (unA l).length c', .int .i64 (unE l)]) ∧ Byt w' w'.heap.size A' (unA l).length c' (unA l) ∧ Below w.heap.size w w' := by
  have hmk := make_cap n hn
  have hpl : ∀ j, j < n → (pl l).take (j + 1) = (pl l).take j ++ [l.getD j 0 % 2] := fun j hj => by
    rw [take_succ_getD (by rw [pl_len, h.len]; exact hj)]
    unfold pl
    rw [getD_map (f := (· % 2)) (by rw [h.len]; exact hj)]
  have HPL := Lib.hid hpl
  clear hpl
  go_enter Try.func15, Try.ntmps15
  go_wp2_with fail
  go_loopw [15, 4, 6] (fun i v bt wr => ∃ (j : Nat) (out : List Int) (b : Int) (t : Nat), j ≤ n ∧ i = .int .i64 j ∧ v = .slice (some ⟨w.heap.size, 0, none⟩) out.length n ∧ bt = .bool (decide (t = 5)) ∧ Hid (unO ((pl l).take j) = some out) ∧
    wr.ownsRow w.heap.size 5 1 (.slice (some ⟨w.heap.size, 0, none⟩) out.length n) out.length (out.map (Value.int .u8)) ∧ St ((pl l).take j) b t ∧ t ≤ 5 ∧ TailAt wr (w.heap.size + 1) b t ∧ Below w.heap.size w wr) (fun i _ _ _ => n - (intOf i).toNat)
  case atStart =>
    refine ⟨0, [], 0, 0, Nat.zero_le _, rfl, rfl, rfl, rfl, ?_, St.nil, by omega, ?_, ((Below.refl _ _).alloc (Nat.le_refl _) _).alloc (by simp) _⟩
    · exact (World.ownsRow_made w _ n (Nat.le_refl _) (by simp only [maxLen]; omega) (by rw [size_madeCells]; omega)).alloc _
    · show ((w.alloc _).alloc _).heap[w.heap.size + 1]? = _
      have := heap_alloc_new (w.alloc (.cells (madeCells #[.int .u8 0] n) 5)) (.cells #[.int .u8 0, .int .i64 0] 50)
      simpa using this
  case round =>
    obtain ⟨j, out, b0, t, hj, rfl, rfl, rfl, hout, hown, hSt, ht5, hT, hbel⟩ := hrel
    by_cases hlt : j < n
    · obtain ⟨b, off, rfl, hb, hc⟩ := h.cells (by omega)
      have hrange := h.range j
      have hcj := hc j hlt
      have hget := HPL.out j hlt
      generalize l.getD j 0 = q at hrange hcj hget
      have hcell : wr.cell? ⟨b, off + j, none⟩ = some (.int .u8 q) := (hbel.cell (p := ⟨b, off + j, none⟩) hb).trans hcj
      have hln : ((pl l).take j).length = j := by rw [List.length_take, pl_len, h.len]; omega
      have hroom : out.length + 1 ≤ n := by have := (unO_sub _ _ hout.out).1; omega
      have htt := hSt.le
      have hs1 := hSt.step (q % 2)
      rw [← hget] at hs1
      have hc0 := hT.c0
      have HS1 := Lib.hid hs1
      have HT := Lib.hid hT
      have HSt := Lib.hid hSt
      have HH := Lib.hid h
      have HGET := Lib.hid hget
      obtain ⟨hq0, hq1⟩ := hrange
      by_cases h5 : t = 5
      · have hlast : lastB ((pl l).take j) = b0 ∧ tailN ((pl l).take j) = 5 := by
          rcases hSt with ⟨_, _, h⟩ | ⟨_, h1, h2⟩
          · omega
          · exact ⟨h1.symm, by omega⟩
        subst h5
        by_cases hqb : q % 2 = b0
        · have hnone : unO (pl l) = none := unO_take_none (j := j + 1) (by rw [hget]; exact unO_snoc_bad hout.out hlast.2 (by rw [hlast.1, hqb]))
          have HN := Lib.hid hnone
          have he : (q % 2 == b0) = true := by simp [hqb]
          clear hcj hget hc h hln hs1 hT hSt htt hlast hnone hqb
          go_wp2_with (go_at_call 25; refine (low_any _ _ (by omega) (by omega)).mono ?_; rintro e w1 ⟨rfl, rfl⟩)
          go_ret2
          have e1 : unA l = [] := by unfold unA; rw [HN.out]
          have e2 : unE l = 9 := by unfold unE; rw [HN.out]
          exact ⟨none, 0, by rw [e1, e2]; rfl, by rw [e1]; exact Byt.nil_ _ _, hbel⟩
        · have hskip : unO ((pl l).take (j + 1)) = some out := by rw [hget]; exact unO_snoc_skip hout.out hlast.2 (fun e => hqb (by rw [← e, hlast.1]))
          have HK := Lib.hid hskip
          have he : (q % 2 == b0) = false := by simp [hqb]
          have hnx : nx b0 5 (q % 2) = 1 := by unfold nx; rw [if_neg hqb]
          have HNX := Lib.hid hnx
          clear hcj hget hc h hln hs1 hT hSt htt hlast hskip hqb hnx
          go_wp2_with (go_at_call 25; refine (low_any _ _ (by omega) (by omega)).mono ?_; rintro e w1 ⟨rfl, rfl⟩)
          refine (add_any _ _ b0 5 _ HT.out (by omega)).mono ?_
          rintro e w2 ⟨rfl, hT2, hg2⟩
          have hown2 := hown.kept hg2 (.inr (by simp [Value.ownBlock]))
          have hbel2 := hbel.grown hg2 hbel.size (fun k hk => by cases hk; omega)
          go_wp2
          go_roundw
          case rel => exact ⟨j + 1, out, _, _, by omega, by go_num, rfl, rfl, HK.out, hown2, HS1.out.2, by rw [HNX.out]; omega, hT2, hbel2⟩
          case measure => simp [intOf]; omega
      · have hkeep : unO ((pl l).take (j + 1)) = some (out ++ [q % 2]) := by rw [hget]; exact unO_snoc_keep hout.out (by rw [← htt]; exact h5)
        have HK := Lib.hid hkeep
        have hd : decide (t = 5) = false := decide_eq_false h5
        have hnx : nx b0 t (q % 2) ≤ 5 := by unfold nx; split <;> omega
        clear hcj hget hc h hln hs1 hT hSt htt hkeep hc0
        go_wp2_with (first | (go_at_call 25; refine (low_any _ _ (by omega) (by omega)).mono ?_; rintro e w1 ⟨rfl, rfl⟩) | (at_builtin; refine wpList_fits rfl (.tmp 30) (.tmp 32) rfl Try.underlying23 byte_info rfl hown rfl hroom ?_; intro w1 hown1 hg1))
        have hT1 := HT.out.grown hg1 (by simp)
        refine (add_any _ _ b0 t _ hT1 ht5).mono ?_
        rintro e w2 ⟨rfl, hT2, hg2⟩
        have hown2 := hown1.kept hg2 (.inr (by simp [Value.ownBlock]))
        have hbel2 := (hbel.grown hg1 hbel.size (fun k hk => by cases hk; omega)).grown hg2 (Nat.le_trans hbel.size hg1.size) (fun k hk => by cases hk; omega)
        go_wp2
        go_roundw
        case rel =>
          have e2 : (out ++ [q % 2]).length = out.length + 1 := by simp
          exact ⟨j + 1, out ++ [q % 2], _, _, by omega, by go_num, by rw [e2], rfl, HK.out, by rw [e2]; exact hown2, HS1.out.2, hnx, hT2, hbel2⟩
        case measure => simp [intOf]; omega
    · obtain rfl : j = n := by omega
      have hl := h.len
      have ho := hout.out
      have htt := hSt.le
      rw [List.take_of_length_le (by rw [pl_len]; omega)] at ho htt
      have HO := Lib.hid ho
      have HTT := Lib.hid htt
      by_cases h5 : t = 5
      · subst h5
        clear hl ho htt hout hSt
        go_wp2
        go_ret2
        have e1 : unA l = [] := by unfold unA; rw [HO.out]; simp only; rw [if_pos HTT.out.symm]
        have e2 : unE l = 5 := by unfold unE; rw [HO.out]; simp only; rw [if_pos HTT.out.symm]
        exact ⟨none, 0, by rw [e1, e2]; rfl, by rw [e1]; exact Byt.nil_ _ _, hbel⟩
      · have hd : decide (t = 5) = false := decide_eq_false h5
        have e1 : unA l = out := by unfold unA; rw [ho]; simp only; rw [if_neg (by rw [← htt]; exact h5)]
        have e2 : unE l = 0 := by unfold unE; rw [ho]; simp only; rw [if_neg (by rw [← htt]; exact h5)]
        have E1 := Lib.hid e1
        have E2 := Lib.hid e2
        clear hl ho htt hout hSt e1 e2
        go_wp2
        go_ret2
        obtain ⟨A', c', hv, hB, _⟩ := Byt.of_own hown (by rw [← E1.out]; exact unA_range l)
        cases hv
        exact ⟨_, _, by rw [E1.out, E2.out]; rfl, by rw [E1.out]; exact hB, hbel⟩
end Go.Proofs.Ytjkigjefgfcaaaa
