/- Slices.Backward's function; parts of a table; what All's, From's and Back's functions do of any table, and of none. -/
import Derived.Test.YtobigmcfbkgmbaaSx
namespace Go.Proofs.Ytobigmcfbkgmbaa
open Go.RowKit Go.Shelf
attribute [local go_sem] Oper.semAt_some

/-! ### Falling -/
def enR (R : List (Int × Int)) : List Elt := (en R).reverse
theorem enR_len (R : List (Int × Int)) : (enR R).length = R.length := by simp [enR, en_len]
theorem enR_snd (R : List (Int × Int)) : (enR R).map (·.2) = R.reverse := by rw [enR, List.map_reverse, en_snd]
theorem enR_take {R : List (Int × Int)} {i p : Nat} {x : Int × Int} (h : R[i]? = some x) (hp : p + i + 1 = R.length) : (enR R).take p ++ [(i, x)] = (enR R).take (p + 1) := by
  have hl : p < (enR R).length := by rw [enR_len]; omega
  rw [List.take_succ_eq_append_getElem hl]
  have h2 : (enR R)[p]? = some (i, x) := by
    rw [enR, List.getElem?_reverse (by rw [en_len]; omega), en_len, show R.length - 1 - p = i by omega]
    exact en_get h
  rw [List.getElem?_eq_getElem hl] at h2
  rw [Option.some.inj h2]
theorem sbk_any (w : World) (a : Option Addr) (n c : Nat) :
    Calls Try.prog 32 #[.slice a n c] w fun e w' => e = .returned (.func (Fn.func 45) #[] #[.pointer (some ⟨w.heap.size, 0, none⟩)]) ∧ w' = w.alloc (.cells #[.slice a n c] 51) := by
  go_enter Try.func32, Try.ntmps32
  go_wp2_with fail
  go_ret
  exact ⟨rfl, rfl⟩
set_option maxRecDepth 100000 in
set_option maxHeartbeats 2000000 in
theorem sbk_in (n : Nat) (hn : 1 ≤ n) (l gb base : Nat) (v : Value) (R : List (Int × Int)) (Fx : Nat → Prop) (tb : World → Option Nat) (J Jx : List Elt → World → Prop) (W : World) 
    (hY : ∀ pre x W, J pre W → pre.length < R.length → YieldAt Fence.wide (n - 1) Try.prog l (encs x) W fun e W' =>
      (e = .returned (.bool true) ∧ J (pre ++ [x]) W' ∧ Kq Fx tb W W') ∨ (e = .returned (.bool false) ∧ Jx (pre ++ [x]) W'))
    (hbox : W.heap[gb]? = some (.cells #[v] 51 (0, 0))) (hown : W.ownsRow base 59 2 v R.length (fl eI eI R)) (hR : R.length ≤ 1000000)
    (hFb : ¬ Fx gb) (hF : ∀ b, v.ownBlock = some b → ¬ Fx b) (htg : tb W ≠ some gb) (htb : ∀ b, v.ownBlock = some b → tb W ≠ some b) (h0 : J [] W) :
    CallsIn Fence.wide n Try.prog 45 #[.func (.yield l) #[] #[], .pointer (some ⟨gb, 0, none⟩)] W fun e W' => (∃ v, e = .returned v) ∧
      ((∃ ys, ys = enR R ∧ J ys W') ∨ (∃ pre, pre <+: enR R ∧ Jx pre W')) := by
  have cb : W.cell? ⟨gb, 0, none⟩ = some v := by rw [cell_of_row _ _ _ _ _ _ hbox]; rfl
  have hgl : gb < W.heap.size := (Array.getElem?_eq_some_iff.1 hbox).1
  obtain ⟨a, c, rfl⟩ := own_slice hown
  have HX := Lib.hid (fun p (hp : p < R.length) => show ∃ x, R[p]? = some x from ⟨_, List.getElem?_eq_getElem hp⟩)
  have HRL : Hid ((enR R).take R.length = enR R) := Lib.hid (List.take_of_length_le (by rw [enR_len]; exact Nat.le_refl _))
  have HF := Lib.hid hF
  have HFB := Lib.hid hFb
  have HS : Hid (W.ownsRow base 59 2 (.slice a R.length c) R.length (fl eI eI R) ∧ (∀ b, (Value.slice a R.length c).ownBlock = some b → tb W ≠ some b) ∧ W.heap[gb]? = some (.cells #[.slice a R.length c] 51 (0, 0)) ∧ tb W ≠ some gb) := Lib.hid ⟨hown, htb, hbox, htg⟩
  have HY := Lib.hid hY
  have HLN : Hid (∀ p, p < R.length → ((enR R).take p).length < R.length) := Lib.hid (fun p hp => by rw [List.length_take, enR_len]; omega)
  have HTK : Hid (∀ i p x, R[i]? = some x → p + i + 1 = R.length → (enR R).take p ++ [(i, x)] = (enR R).take (p + 1)) := Lib.hid (fun i p x => enR_take)
  generalize hRN : R.length = N at *
  have HRN := Lib.hid hRN
  clear hown hF htb hY hbox hRN hFb htg
  refine callsIn_of_wp Try.func45 rfl trivial ?_ rfl
  simp only [Try.ntmps45, List.size_toArray, List.length_cons, List.length_nil, Nat.reduceAdd, Nat.reduceSub, Array.replicate_succ, Array.replicate_zero, List.push_toArray, List.append_toArray, List.nil_append, List.cons_append]
  gi_wp2_with fail
  gi_loopw [3] (fun i wr => ∃ p q : Nat, p + q = N ∧ i = .int .i64 ((q : Int) - 1) ∧ J ((enR R).take p) wr ∧ Hid (wr.ownsRow base 59 2 (.slice a N c) N (fl eI eI R) ∧ (∀ b, (Value.slice a N c).ownBlock = some b → tb wr ≠ some b) ∧ wr.heap[gb]? = some (.cells #[.slice a N c] 51 (0, 0)) ∧ tb wr ≠ some gb))
    (fun i _ => (intOf i + 1).toNat)
  case atStart => exact ⟨0, N, by omega, by go_num, h0, HS⟩
  case round =>
    clear HS h0 cb
    obtain ⟨p, q, hpq, rfl, hJs, HS⟩ := hrel
    rcases Nat.eq_zero_or_pos q with hq0 | hq0
    · subst hq0
      obtain rfl : p = N := by omega
      rw [HRL.out] at hJs
      gi_wp2
      go_end0
      exact ⟨⟨_, rfl⟩, .inl ⟨_, rfl, hJs⟩⟩
    · obtain ⟨i, rfl⟩ : ∃ i, q = i + 1 := ⟨q - 1, by omega⟩
      have eq : ((i + 1 : Nat) : Int) - 1 = (i : Int) := by omega
      rw [eq]
      obtain ⟨x, hx⟩ := HX.out i (by omega)
      obtain ⟨g, rfl, hg, hnc, hm, c0, c1⟩ := rows_at HS.out.1 hx
      simp only [maxLen] at hm
      have htk := HTK.out i p x hx (by omega)
      have hlen := HLN.out p (by omega)
      have hpre : (enR R).take (p + 1) <+: enR R := List.take_prefix _ _
      have cb : wr.cell? ⟨gb, 0, none⟩ = some (.slice (some ⟨g, 0, none⟩) N c) := by rw [cell_of_row _ _ _ _ _ _ HS.out.2.2.1]; rfl
      obtain ⟨xk, xv⟩ := x
      simp only at c0 c1
      obtain ⟨fn, tmps, assign, body, hy, hRd⟩ := HY.out _ (i, (xk, xv)) _ hJs hlen
      rw [htk] at hRd
      dsimp only [encs] at hy
      have HRD := Lib.hid hRd
      have HP := Lib.hid hpre
      have hpi : (i : Int) < (N : Int) := by omega
      have hp0 : (0 : Int) ≤ (i : Int) := by omega
      have HGL := Lib.hid ((Array.getElem?_eq_some_iff.1 HS.out.2.2.1).1)
      clear htk hlen hRd hpre hx hJs eq
      gi_wp2_with fail
      refine HRD.out.mono ?_
      rintro e W3 (⟨rfl, hJ3, hk3⟩ | ⟨rfl, hJx3⟩)
      · have HS3 : Hid (W3.ownsRow base 59 2 (.slice (some ⟨g, 0, none⟩) N c) N (fl eI eI R) ∧ (∀ b, (Value.slice (some ⟨g, 0, none⟩) N c).ownBlock = some b → tb W3 ≠ some b) ∧ W3.heap[gb]? = some (.cells #[.slice (some ⟨g, 0, none⟩) N c] 51 (0, 0)) ∧ tb W3 ≠ some gb) := by
          obtain ⟨s1, s2, s3, s4⟩ := HS.out
          exact Lib.hid ⟨hk3.own s1 HF.out s2, fun b hb => hk3.not (s1.lt b hb).2 (s2 b hb), hk3.heap s3 HFB.out s4, hk3.not HGL.out s4⟩
        clear hk3
        gi_wp2
        go_roundw
        case rel => exact ⟨p + 1, i, by omega, by first | rfl | go_num, hJ3, HS3⟩
        case measure => simp [intOf]
      · gi_wp2
        refine bodyPost_ret (results_none rfl _ _ _) rfl ?_
        exact ⟨⟨_, rfl⟩, .inr ⟨_, HP.out, hJx3⟩⟩
theorem sbk_stops (n : Nat) (hn : 1 ≤ n) (gb base : Nat) (v : Value) (R : List (Int × Int)) (Fx : Nat → Prop) (tb : World → Option Nat) (B0 : Nat) (hloc : Loc B0 tb) (w : World) (hB0 : B0 ≤ w.heap.size)
    (hbox : w.heap[gb]? = some (.cells #[v] 51 (0, 0))) (hown : w.ownsRow base 59 2 v R.length (fl eI eI R)) (hR : R.length ≤ 1000000)
    (hFb : ¬ Fx gb) (hF : ∀ b, v.ownBlock = some b → ¬ Fx b) (htg : tb w ≠ some gb) (htb : ∀ b, v.ownBlock = some b → tb w ≠ some b) :
    SeqStopsK Fence.wide n Try.prog 45 #[.pointer (some ⟨gb, 0, none⟩)] encs (Kq Fx tb) (fun ys => ys = enR R) (fun pre => pre <+: enR R) R.length w := fun l J Jx W hW hJ _ hY h0 => by
  have et : tb W = tb w := hloc _ _ (fun k hk => hW.block k (by omega))
  exact sbk_in n hn l gb base v R Fx tb J Jx W hY ((hW.block gb (Array.getElem?_eq_some_iff.1 hbox).1).trans hbox) (own_below hown hW) hR hFb hF (by rw [et]; exact htg) (fun b hb => by rw [et]; exact htb b hb) h0
theorem told_back (n : Nat) (hn : 4 ≤ n) (l : Nat) (T : List (Int × Int)) (hT : T.length ≤ 1000000) (Fx : Nat → Prop) (tb : World → Option Nat) (B0 : Nat) (hloc : Loc B0 tb) (J Jx : List (Int × Int) → World → Prop) (W : World) (hB0 : B0 ≤ W.heap.size) (hJ : OwnFrom W.heap.size J) (hJx : OwnFrom W.heap.size Jx)
    (hF : ∀ k, Fx k → k < W.heap.size) (htl : ∀ k, tb W = some k → k < W.heap.size)
    (hY : ∀ pre x W1, J pre W1 → pre.length < T.length → YieldAt Fence.wide (n - 1) Try.prog l (encP x) W1 (Answ (Kq Fx tb) J Jx W.heap.size (pre ++ [x]) W1)) (h0 : J [] W)
    (w3 : World) (a3 : Option Addr) (c3 : Nat) (hb : Below W.heap.size W w3) (base : Nat) (hbase : W.heap.size ≤ base) (hrow : w3.ownsRow base 59 2 (.slice a3 T.length c3) T.length (fl eI eI T)) :
    Calls Try.prog 27 #[.func (Fn.func 45) #[] #[.pointer (some ⟨w3.heap.size, 0, none⟩)], .func (.yield l) #[] #[]] (w3.alloc (.cells #[.slice a3 T.length c3] 51)) fun e W' => (∃ v, e = .returned v) ∧ ((∃ ys, ys = T.reverse ∧ J ys W') ∨ (∃ pre, pre <+: T.reverse ∧ Jx pre W')) := by
  have hba : Below w3.heap.size w3 (w3.alloc (.cells #[.slice a3 T.length c3] 51)) := (Below.refl _ _).alloc (Nat.le_refl _) _
  have hb2 := kF hba hb
  have hbx := heap_alloc_new w3 (.cells #[.slice a3 T.length c3] 51)
  have htW : ∀ X, Below W.heap.size W X → tb X = tb W := fun X hX => hloc _ _ fun k hk => hX.block k (by omega)
  have hlt : ∀ b, (Value.slice a3 T.length c3).ownBlock = some b → W.heap.size ≤ b := fun b hb => Nat.le_trans hbase (hrow.lt b hb).1
  have ht := tell_in n (n - 1) (by omega) l W.heap.size 45 #[.pointer (some ⟨w3.heap.size, 0, none⟩)] (enters_of Try.func45 (by kernel_rfl) rfl) (enR T) T.length Fx tb B0 hloc J Jx _ (Nat.le_trans hB0 hb2.size) hb2.size hJ hJx (fun k hk => Nat.lt_of_lt_of_le (hF k hk) hb2.size) (fun k hk => by rw [htW _ hb2] at hk; exact Nat.lt_of_lt_of_le (htl k hk) hb2.size) hY
    (fun w' hw' => sbk_stops (n - 1) (by omega) w3.heap.size base (.slice a3 T.length c3) T Fx tb B0 hloc w' (by have := hb2.size; have := hw'.size; omega) ((hw'.block _ (by simp)).trans hbx) (own_below (own_below hrow hba) hw') hT (fun hf => by have := hF _ hf; have := hb.size; omega) (fun b hb hf => by have := hlt b hb; have := hF b hf; omega) (fun e => by rw [htW _ (kF hw' hb2)] at e; have := htl _ e; have := hb.size; omega) (fun b hb e => by rw [htW _ (kF hw' hb2)] at e; have := hlt b hb; have := htl b e; omega))
    (hJ [] W _ none h0 (grown_below none hb2) (fun r e => by cases e))
  rw [enR_snd] at ht
  exact callsIn_wide.1 ht
end Go.Proofs.Ytobigmcfbkgmbaa
