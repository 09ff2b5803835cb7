/- What All, and the function that All hands back, do. -/
import Derived.Test.YtncnlbokipieaaaEEqh
namespace Go.Proofs.Ytncnlbokipieaaa
open Go.RowKit Go.Shelf
attribute [local go_sem] Oper.semAt_some

theorem qall_any (w : World) (p : Option Addr) :
    Calls Try.prog 39 #[.pointer p] w fun e w' => e = .returned (.func (Fn.func 54) #[] #[.pointer (some ⟨w.heap.size, 0, none⟩)]) ∧ w' = w.alloc (.cells #[.pointer p] 77) := by
  go_enter Try.func39, Try.ntmps39
  go_wp2_with fail
  go_ret
  exact ⟨rfl, rfl⟩

set_option maxRecDepth 100000 in
set_option maxHeartbeats 2000000 in
/-- The function that All hands back, for every loop body that keeps what the clone holds. -/
theorem qall_in (n : Nat) (hn : 1 ≤ n) (l gb g base N c : Nat) (lim lost : Int) (xs : List Int) (A : Option Addr) (Fx : Nat → Prop) (tb : World → Option Nat) (J Jx : List Elt → World → Prop) (W : World) (hab : AbidesFrom W.heap.size J)
    (hY : ∀ pre x W, J pre W → pre.length < N → YieldAt Fence.wide (n - 1) Try.prog l #[.int .i64 (x.1 : Nat), .int .i64 x.2] W fun e W' =>
      (e = .returned (.bool true) ∧ J (pre ++ [x]) W' ∧ Kq Fx tb W W') ∨ (e = .returned (.bool false) ∧ Jx (pre ++ [x]) W'))
    (hbox : W.heap[gb]? = some (.cells #[.pointer (some ⟨g, 0, none⟩)] 77 (0, 0))) (hq : Que W base g lim (ints xs) lost A N c)
    (hF : ∀ k, Fx k → k < W.heap.size) (htb : ∀ W', Below W.heap.size W W' → tb W' = tb W) (htl : ∀ b, tb W = some b → b < W.heap.size) (h0 : J [] W) :
    CallsIn Fence.wide n Try.prog 54 #[.func (.yield l) #[] #[], .pointer (some ⟨gb, 0, none⟩)] W fun e W' => (∃ v, e = .returned v) ∧
      ((∃ ys, ys = en xs ∧ J ys W') ∨ (∃ pre, pre <+: en xs ∧ Jx pre W')) := by
  have hN : N ≤ 65536 := by have := hq.fits; have := hq.lims; omega
  have hxl : xs.length = N := by have := hq.row.len; simpa using this
  have cb : W.cell? ⟨gb, 0, none⟩ = some (.pointer (some ⟨g, 0, none⟩)) := by rw [cell_of_row _ _ _ _ _ _ hbox]; rfl
  obtain ⟨_, c1, _⟩ := hq.cells
  have hcl := qclone_any W base N c (ints xs) A hq.row (by omega)
  have HCL := Lib.hid hcl
  have HXL := Lib.hid hxl
  clear hcl hq hbox hxl
  refine callsIn_of_wp Try.func54 rfl trivial ?_ rfl
  simp only [Try.ntmps54, List.size_toArray, List.length_cons, List.length_nil, Nat.reduceAdd, Nat.reduceSub, Array.replicate_succ, Array.replicate_zero, List.push_toArray, List.append_toArray, List.nil_append, List.cons_append]
  gi_wp2_with fail
  refine ⟨trivial, ?_⟩
  refine (callsIn_wide.2 HCL.out).mono ?_
  rintro e w1 ⟨Ac, cc, rfl, hqc, hb1⟩
  have hcm := hqc.max
  simp only [maxLen] at hcm
  have hcN := hqc.cap
  have hJ1 : J [] w1 := hab [] W w1 none h0 (grown_of_below hb1) (fun r e => by cases e)
  have hF1 : ∀ b, blk Ac = some b → ¬ Fx b := fun b hb hf => by have := (hqc.lt hb).1; have := hF b hf; omega
  have ht1 : ∀ b, blk Ac = some b → tb w1 ≠ some b := fun b hb he => by
    rw [htb w1 hb1] at he
    have := (hqc.lt hb).1; have := htl b he; omega
  have HF := Lib.hid hF1
  have HST : Hid (Qs w1 W.heap.size 3 Ac N cc (ints xs) ∧ ∀ b, blk Ac = some b → tb w1 ≠ some b) := ⟨hqc, ht1⟩
  have HAB := Lib.hid hab
  have HY := Lib.hid hY
  clear hqc hF1 ht1 hab hY htb htl hF h0 c1 cb HCL
  gi_wp2_with fail
  gi_loopw [13] (fun i wr => ∃ p : Nat, p ≤ N ∧ i = .int .i64 p ∧ J ((en xs).take p) wr ∧ Hid (Qs wr W.heap.size 3 Ac N cc (ints xs) ∧ ∀ b, blk Ac = some b → tb wr ≠ some b))
    (fun i _ => N - (intOf i).toNat)
  case atStart => exact ⟨0, Nat.zero_le _, rfl, hJ1, HST⟩
  case round =>
    obtain ⟨p, hp, rfl, hJs, HS⟩ := hrel
    by_cases hlt : p < N
    · obtain ⟨b, off, rfl⟩ := HS.out.1.addr (by omega)
      have hcell := HS.out.1.cell rfl hlt
      have hv : (ints xs)[p]? = some (.int .i64 (xs.getD p 0)) := by have := HXL.out; simp [List.getD, List.getElem?_eq_getElem (show p < xs.length by omega)]
      rw [hv] at hcell
      have hx := en_take xs (i := p) (by have := HXL.out; omega)
      have hlen : ((en xs).take p).length < N := by rw [List.length_take, en_len, HXL.out]; omega
      have hpre : (en xs).take (p + 1) <+: en xs := List.take_prefix _ _
      generalize xs.getD p 0 = v at hcell hx
      obtain ⟨fn, tmps, assign, body, hy, hRd⟩ := HY.out _ (p, v) wr hJs hlen
      rw [hx] at hRd
      dsimp only at hy
      have HRD := Lib.hid hRd
      have HP := Lib.hid hpre
      have hpi : (p : Int) < (N : Int) := by omega
      have hp0 : (0 : Int) ≤ (p : Int) := by omega
      clear hv hx hlen hRd hpre
      gi_wp2_with fail
      refine HRD.out.mono ?_
      rintro e W3 (⟨rfl, hJ3, hk3⟩ | ⟨rfl, hJx3⟩)
      · have HS3 : Hid (Qs W3 W.heap.size 3 (some ⟨b, off, none⟩) N cc (ints xs) ∧ ∀ b', blk (some ⟨b, off, none⟩) = some b' → tb W3 ≠ some b') := by
          refine ⟨HS.out.1.kq hk3 HF.out HS.out.2, fun b' hb' e => ?_⟩
          rcases hk3.next with h2 | ⟨b2, h2, h3⟩
          · exact HS.out.2 b' hb' (h2 ▸ e)
          · rw [h2] at e; cases e
            have := (HS.out.1.lt hb').2
            omega
        clear hk3
        gi_wp2
        go_roundw
        case rel => exact ⟨p + 1, by omega, by go_num, hJ3, HS3⟩
        case measure => simp [intOf]; omega
      · gi_wp2
        refine bodyPost_ret (results_none rfl _ _ _) rfl ?_
        exact ⟨⟨_, rfl⟩, .inr ⟨_, HP.out, hJx3⟩⟩
    · obtain rfl : p = N := by omega
      have hx : (en xs).take p = en xs := List.take_of_length_le (by rw [en_len, HXL.out]; omega)
      rw [hx] at hJs
      clear hx
      gi_wp2
      go_end0
      exact ⟨⟨_, rfl⟩, .inl ⟨_, rfl, hJs⟩⟩

theorem qall_stops (n : Nat) (hn : 1 ≤ n) (gb g base N c : Nat) (lim lost : Int) (xs : List Int) (A : Option Addr) (Fx : Nat → Prop) (tb : World → Option Nat) (w : World)
    (hbox : w.heap[gb]? = some (.cells #[.pointer (some ⟨g, 0, none⟩)] 77 (0, 0))) (hq : Que w base g lim (ints xs) lost A N c)
    (hF : ∀ k, Fx k → k < w.heap.size) (htb : ∀ W W', Below w.heap.size w W → Below W.heap.size W W' → tb W' = tb W) (htl : ∀ W b, Below w.heap.size w W → tb W = some b → b < W.heap.size) :
    SeqStopsK Fence.wide n Try.prog 54 #[.pointer (some ⟨gb, 0, none⟩)] (fun x : Elt => #[Value.int .i64 (x.1 : Nat), Value.int .i64 x.2]) (Kq Fx tb) (fun ys => ys = en xs) (fun pre => pre <+: en xs) N w := fun l J Jx W hW hJ _ hY h0 =>
  qall_in n hn l gb g base N c lim lost xs A Fx tb J Jx W hJ hY ((hW.block gb (Array.getElem?_eq_some_iff.1 hbox).1).trans hbox) (hq.below hW) (fun k hk => Nat.lt_of_lt_of_le (hF k hk) hW.size) (fun W' hb => htb W W' hW hb) (fun b hb => htl W b hW hb) h0
theorem kq_b {Fx : Nat → Prop} {tb : World → Option Nat} {w : World} (htp : ∀ (W : World) l o', w.heap.size ≤ l → tb (W.putObj l o') = tb W) (W : World) (l : Nat) (o o' : Obj) (hl : w.heap.size ≤ l) (h : W.heap[l]? = some o) (h1 : o.isCells = false) (_ : o.isWalk = false) : Kq Fx tb W (W.putObj l o') := by
  have hg := grownBy_putObj' W l o'
  refine ⟨hg.size, fun k cs t fr hk _ _ => hg.block k (Array.getElem?_eq_some_iff.1 hk).1 (fun e => ?_), .inl (htp W l o' hl)⟩
  cases e
  rw [hk] at h
  cases h
  cases h1
theorem kq_set {Fx : Nat → Prop} {tb : World → Option Nat} (W : World) (a : Addr) (v : Value) (hF : Fx a.block) (ht : tb (W.setCell a v) = tb W) : Kq Fx tb W (W.setCell a v) :=
  ⟨by simp, fun k cs t fr hk hn _ => Below.heap_setCell _ _ _ _ (fun e => hn (e ▸ hF)), .inl ht⟩
theorem kq_refl {Fx : Nat → Prop} {tb : World → Option Nat} (W : World) : Kq Fx tb W W := ⟨Nat.le_refl _, fun _ _ _ _ _ _ _ => rfl, .inl rfl⟩
end Go.Proofs.Ytncnlbokipieaaa