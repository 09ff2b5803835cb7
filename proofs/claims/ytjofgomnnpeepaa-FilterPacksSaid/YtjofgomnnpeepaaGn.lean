/- Filters, for the document's: plain. -/
import Derived.Test.YtjofgomnnpeepaaGm
import Derived.Deep.RegionHeldLaw
namespace Go.Proofs.Ytjofgomnnpeepaa
open Go.RowKit Go.Sort

theorem Fils.congr {w : World} {B n c : Nat} {A : Option Addr} {fs gs : Nat → Int × Int} (h : Fils w B A n c fs) (e : ∀ i, i < n → fs i = gs i) : Fils w B A n c gs :=
  ⟨h.cap, h.max, fun hn => by
    obtain ⟨b, off, ha, hlt, hc⟩ := h.cells hn
    exact ⟨b, off, ha, hlt, fun i hi => by rw [← e i hi]; exact hc i hi⟩⟩
def firstF (fs : Nat → Int × Int) (n : Nat) : List (Int × Int) := (List.range n).map fs
theorem firstF_succ (fs : Nat → Int × Int) (n : Nat) {p q : Int} (h : fs n = (p, q)) : (firstF fs (n + 1)).flatMap two = (firstF fs n).flatMap two ++ [.int .i64 p, .int .i64 q] := by
  unfold firstF
  rw [List.range_succ, List.map_append, List.flatMap_append]
  simp [h, two]
theorem firstF_at (fs : Nat → Int × Int) {n i : Nat} (h : i < n) : (firstF fs n).getD i (0, 0) = fs i := by simp [firstF, List.getD, h]
/-- One struct of two numbers is appended to a row of the call's own: as one step of a region that draws its order. -/
theorem step_two {P : Program} {wr : World} {ops : Array Oper} {o : Oper} {a : Act} {K : Act → World → Prop} {Q : Exit → Act → World → Prop} {E : Prop} {base t e n : Nat} {p q : Int} {xs : List Value} {v : Value} (hgd : o.guard = none) (s x : Operand)
    (ho : o.op = .call { callee := .builtin .append, args := #[s, x], argTypes := #[t, t] }) (ht : P.underlying t = some (.slice e))
    (hinfo : (P.info? e).map (fun i => (i.zero, i.size, i.bytes)) = some (some (.agg #[.int .i64 0, .int .i64 0]), 2, 16)) (hs : a.eval s = v) (hown : wr.ownsRow base e 2 v n xs)
    (hx : a.eval x = .slice (some ⟨wr.heap.size, 0, none⟩) 1 1) (hn : n ≤ 1000000) (hb : base ≤ wr.heap.size)
    (hK : ∀ v' w', w'.ownsRow base e 2 v' (n + 1) (xs ++ [.int .i64 p, .int .i64 q]) → Below base wr w' → K (a.put o.dst v') w') :
    if Region.wanted o (yielded ops a.tmps) = true then Oper.wp P o a (wr.alloc (.cells #[.int .i64 p, .int .i64 q] e)) K Q else E := by
  obtain ⟨i0, hi, hz0, hz1, hz2⟩ := info_parts hinfo
  have hw : Region.wanted o (yielded ops a.tmps) = true := by simp [Region.wanted, hgd]
  rw [if_pos hw]
  obtain ⟨v', w', hrun, r1, r2, _⟩ := run_append_own (P := P) (wr.alloc (.cells #[.int .i64 p, .int .i64 q] e)) base t o.type e i0 (.agg #[.int .i64 0, .int .i64 0]) 2 16 ht hi hz0 hz1 hz2 rfl (by omega) v n xs (hown.alloc _) ⟨wr.heap.size, 0, none⟩ 1 1 [.int .i64 p, .int .i64 q] rfl (fun j u hu => by
    have hc : ∀ k, (wr.alloc (.cells #[.int .i64 p, .int .i64 q] e)).cell? ⟨wr.heap.size, k, none⟩ = (#[Value.int .i64 p, Value.int .i64 q] : Array Value)[k]? := fun k => by rw [cell_of_row _ _ _ _ e (0, 0) (heap_alloc_new wr _)]
    have hplain : (⟨wr.heap.size, 0, none⟩ : Addr).add j = ⟨wr.heap.size, j, none⟩ := by unfold Addr.add; split <;> simp_all
    rw [hplain, hc j, ← hu]
    match j with
    | 0 => rfl
    | 1 => rfl
    | j + 2 => simp) (by simp [Value.oneCell']) (by simp only [maxLen]; omega) (by omega) (by simp; omega)
  unfold Oper.wp
  simp [execOp, ho, resolve, invoke, builtin, hs, hx, hrun, Result.andThen]
  exact hK v' w' r1 (((Below.refl _ wr).alloc hb _).grown r2 (by simp; omega) fun k hk => (hown.lt k hk).1)
theorem info_ref : (Try.prog.info? 41).map (fun i => (i.zero, i.size, i.bytes)) = some (some (.agg #[.int .i64 0, .int .i64 0]), 2, 16) := by kernel_rfl
def Plained (fs : Nat → Int × Int) (n : Nat) (e : Ending) (w' : World) : Prop := ∃ A c, e = .returned (.slice A n c) ∧ Fils w' w'.heap.size A n c fs
set_option maxHeartbeats 1000000 in
theorem plain_any (w : World) (A : Option Addr) (n c : Nat) (fs : Nat → Int × Int) (h : Fils w w.heap.size A n c fs) (hn : n ≤ 1000) :
    Calls Try.prog 7 #[.slice A n c] w fun e w' => Plained fs n e w' ∧ Below w.heap.size w w' := by
  have HF := Lib.hid h
  have hcap := h.cap
  have hmax := h.max
  simp only [maxLen] at hmax
  clear h
  have hown0 : (w.alloc (.cells #[] 41)).ownsRow w.heap.size 41 2 (.slice (some ⟨w.heap.size, 0, none⟩) 0 0) 0 ((firstF fs 0).flatMap two) := ⟨rfl, .inr ⟨_, 0, #[], rfl, Nat.le_refl _, heap_alloc_new w _, Nat.le_refl _, by simp [maxLen], by simp, rfl⟩⟩
  have hb0 : Below w.heap.size w (w.alloc (.cells #[] 41)) := (Below.refl _ _).alloc (Nat.le_refl _) _
  have HO := Lib.hid hown0
  have HB := Lib.hid hb0
  clear hown0 hb0
  go_enter Try.func7, Try.ntmps7
  go_wp2_with fail
  go_loopw [3, 4] (fun v i wr => ∃ j : Nat, j ≤ n ∧ i = .int .i64 j ∧ wr.ownsRow w.heap.size 41 2 v j ((firstF fs j).flatMap two) ∧ Below w.heap.size w wr) (fun _ i _ => n - (intOf i).toNat)
  case atStart => exact ⟨0, by omega, rfl, HO.out, HB.out⟩
  case round =>
    obtain ⟨j, hj, rfl, hown, hb⟩ := hrel
    by_cases hlt : j < n
    · obtain ⟨b, off, rfl, hbb, hcl⟩ := (HF.out.below hb).cells (by omega)
      obtain ⟨c0, c1⟩ := hcl j hlt
      have hst := @firstF_succ fs j
      generalize fs j = f at c0 c1 hst
      obtain ⟨fc, fm⟩ := f
      simp only at c0 c1
      have hst2 := hst rfl
      have HST := Lib.hid hst2
      have hown2 : wr.drew.ownsRow w.heap.size 41 2 _ j ((firstF fs j).flatMap two) := hown
      have hb2 : Below w.heap.size w wr.drew := below_drewN hb 1
      have HOW2 := Lib.hid hown2
      have HB2 := Lib.hid hb2
      clear hst hst2 hcl hb hown hown2 hb2
      go_wp2_with fail
      go_region_held_law (fun w' => w'.cell? ⟨b, off + j * 2, none⟩ = some (.int .i64 fc) ∧ w'.cell? ⟨b, off + j * 2 + 1, none⟩ = some (.int .i64 fm)) (first | go_keep | exact ⟨(hbel'.cell (p := ⟨b, _, none⟩) hbb).trans c0, (hbel'.cell (p := ⟨b, _, none⟩) hbb).trans c1⟩)
        ((refine step_two (by rfl) (.tmp 12) (.tmp 24) (by rfl) Try.underlying23 info_ref (by rfl) HOW2.out (by rfl) (by omega) HB2.out.size ?_; intro v' w' hown' hbel'))
      have hb3 : Below w.heap.size w w' := HB2.out.trans hbel'
      go_wp2_with fail
      exact ⟨⟨j + 1, by omega, by go_num, by rw [HST.out]; exact hown', hb3⟩, by simp [intOf]; omega⟩
    · obtain rfl : j = n := by omega
      obtain ⟨A', c', rfl, hl, hf⟩ := Fils.of_own hown
      have HF2 := Lib.hid (hf.congr fun i hi => firstF_at fs hi)
      have hcap2 := hf.cap
      clear hf hown hl
      go_wp2_with fail
      exact bodyPost_ret (results_tmp rfl _ _ _) rfl ⟨⟨A', c', rfl, HF2.out⟩, hb⟩
end Go.Proofs.Ytjofgomnnpeepaa
