/- slices.Repeat of one row: the walk. -/
import Derived.Test.YtchmildlkaikmaaArE
namespace Go.Proofs.Ytchmildlkaikmaa
open Go.RowKit
set_option linter.unusedSimpArgs false
set_option linter.unusedVariables false
theorem size_spec : (Try.prog.info? 27).map (·.size) = some 4 := by kernel_rfl
def RpAt (w : World) (g i n : Nat) (x : Sp) : Prop := ∃ cur : Array Value, w.heap[g]? = some (.cells cur 27 (0, 0)) ∧ cur.size = n * 4 ∧ ∀ k, k < i * 4 → cur[k]? = (spC x)[k % 4]?
theorem spC_len (x : Sp) : (spC x).length = 4 := rfl
theorem spC_one (x : Sp) : ∀ v ∈ spC x, v.oneCell' = true := by
  intro v hv
  simp only [spC, List.mem_cons, List.not_mem_nil, or_false] at hv
  rcases hv with rfl | rfl | rfl | rfl <;> rfl
theorem RpAt.first {w : World} {g n : Nat} {cur : Array Value} (x : Sp) (hg : w.heap[g]? = some (.cells cur 27 (0, 0))) (hs : cur.size = n * 4) (hn : 1 ≤ n) : RpAt (w.setCells g 0 (spC x)) g 1 n x := by
  obtain ⟨c, h1, h2, h3⟩ := setCells_blockR (spC x) w g 0 27 (0, 0) cur hg (by rw [spC_len]; omega)
  refine ⟨c, h1, h2.trans hs, fun k hk => ?_⟩
  rw [h3 k, if_pos ⟨Nat.zero_le _, by rw [spC_len]; omega⟩, Nat.sub_zero, Nat.mod_eq_of_lt (by omega)]
theorem RpAt.copy {w : World} {g i n j : Nat} {x : Sp} (h : RpAt w g i n x) (hj : j ≤ i) (hn : i + j ≤ n) :
    ∃ (cur : Array Value) (cs : List Value), w.heap[g]? = some (.cells cur 27 (0, 0)) ∧ i * 4 + cs.length ≤ cur.size ∧ cs.length = j * 4 ∧ (∀ k v, cs[k]? = some v → w.cell? ⟨g, k, none⟩ = some v) ∧ (∀ v ∈ cs, v.oneCell' = true) ∧ RpAt (w.setCells g (i * 4) cs) g (i + j) n x := by
  obtain ⟨cur, hg, hs, hx⟩ := h
  have hlen : (cur.toList.take (j * 4)).length = j * 4 := by rw [List.length_take]; simp; omega
  have hat : ∀ k, k < j * 4 → (cur.toList.take (j * 4))[k]? = cur[k]? := fun k hk => by rw [List.getElem?_take, if_pos hk]; simp
  obtain ⟨c, h1, h2, h3⟩ := setCells_blockR (cur.toList.take (j * 4)) w g (i * 4) 27 (0, 0) cur hg (by rw [hlen]; omega)
  refine ⟨cur, _, hg, by rw [hlen]; omega, hlen, ?_, ?_, c, h1, h2.trans hs, ?_⟩
  · intro k v hv
    have hk : k < j * 4 := by rw [← hlen]; exact (List.getElem?_eq_some_iff.1 hv).1
    rw [cell_of_row _ _ _ _ _ _ hg, ← hat k hk]; exact hv
  · intro v hv
    obtain ⟨k, hk⟩ := List.mem_iff_getElem?.1 hv
    have hk2 : k < j * 4 := by rw [← hlen]; exact (List.getElem?_eq_some_iff.1 hk).1
    rw [hat k hk2, hx k (by omega)] at hk
    exact spC_one x v (List.mem_of_getElem? hk)
  · intro k hk
    rw [h3 k, hlen]
    by_cases h : i * 4 ≤ k
    · rw [if_pos ⟨h, by omega⟩, hat _ (by omega), hx _ (by omega)]
      congr 1; omega
    · rw [if_neg (by omega), hx k (by omega)]
theorem RpAt.row {w : World} {g n base : Nat} {x : Sp} (h : RpAt w g n n x) (hn : 0 < n) (hm : n ≤ 1000) (hb : base ≤ g) : SpAt w base (.slice (some ⟨g, 0, none⟩) n n) (List.replicate n x) := by
  obtain ⟨cur, hg, hs, hx⟩ := h
  have h4 : ∀ m : Nat, (spF (List.replicate m x)).length = m * 4 := fun m => by
    induction m with
    | zero => rfl
    | succ m ih => rw [List.replicate_succ]; simp [spF, spC] at ih ⊢; omega
  have h5 : ∀ m k : Nat, k < m * 4 → (spF (List.replicate m x))[k]? = (spC x)[k % 4]? := fun m => by
    induction m with
    | zero => intro k hk; omega
    | succ m ih =>
      intro k hk
      rw [List.replicate_succ]
      show ((spC x) ++ spF (List.replicate m x))[k]? = _
      by_cases h : k < 4
      · rw [List.getElem?_append_left (by rw [spC_len]; exact h), Nat.mod_eq_of_lt h]
      · rw [List.getElem?_append_right (by rw [spC_len]; omega), spC_len, ih _ (by omega)]
        congr 1; omega
  have := own_mk (w := w) (base := base) (e := 27) (s := 4) (n := n) (g := g) (cap := n) (cur := cur) (xs := spF (List.replicate n x)) hb hg (Nat.le_refl _) (by simp [maxLen]; omega) hs (h4 n) (fun k hk => by rw [hx k hk, h5 n k hk])
  unfold SpAt
  rw [List.length_replicate]
  exact this
def zrN (n : Nat) : Array Value := Array.replicate (n * 4) (.int .i64 0)
set_option maxRecDepth 100000 in
set_option maxHeartbeats 2000000 in
theorem repeat_any (w : World) (b n : Nat) (x : Sp) (hn : n = 8 ∨ n = 4) (hb : w.heap[b]? = some (.cells (spC x).toArray 27 (0, 0))) :
    Calls Try.prog 96 #[.slice (some ⟨b, 0, none⟩) 1 1, .int .i64 (n : Nat)] w fun e w' => e = .returned (.slice (some ⟨w.heap.size, 0, none⟩) n n) ∧ RpAt w' w.heap.size n n x ∧ Below w.heap.size w w' := by
  have hmk : ∀ w, (Instr.makeSlice 90 (.int .i64 n) (.int .i64 n)).run Try.prog w = .ok (.slice (some ⟨w.heap.size, 0, none⟩) n n) (w.alloc (.cells (zrN n) 27)) := fun w => by
    rcases hn with rfl | rfl <;> kernel_rfl
  have hblt : b < w.heap.size := (Array.getElem?_eq_some_iff.1 hb).1
  have hb0 : (w.alloc (.cells (zrN n) 27)).heap[b]? = some (.cells (spC x).toArray 27 (0, 0)) := (heap_alloc_old w _ hblt).trans hb
  have hz0 : (w.alloc (.cells (zrN n) 27)).heap[w.heap.size]? = some (.cells (zrN n) 27 (0, 0)) := heap_alloc_new w _
  have hzs : (zrN n).size = n * 4 := by simp [zrN]
  have hn1 : 4 ≤ n ∧ n ≤ 8 := by omega
  have HC0 : Hid (∀ ty dc sc, (Builtin.copy_ #[90, 90] ty #[.slice (some ⟨w.heap.size, 0, none⟩) n dc, .slice (some ⟨b, 0, none⟩) 1 sc]).run Try.prog (w.alloc (.cells (zrN n) 27)) = .ok (goInt (1 : Nat)) ((w.alloc (.cells (zrN n) 27)).setCells w.heap.size 0 (spC x))) := Lib.hid (fun ty dc sc =>
    run_copy_rows _ 90 90 ty 27 4 w.heap.size 0 n dc _ 1 sc 1 27 (spC x) (zrN n) Try.underlying90 size_spec (by simp only [Nat.min_def]; split <;> omega) rfl hz0 (by rw [spC_len, hzs]; omega)
      ⟨_, rfl, fun j u hu => by rw [add_plainR, Nat.zero_add, cell_of_row _ _ _ _ _ _ hb0]; simpa using hu⟩ (spC_one x))
  have HR0 : Hid (RpAt ((w.alloc (.cells (zrN n) 27)).setCells w.heap.size 0 (spC x)) w.heap.size 1 n x) := Lib.hid (RpAt.first x hz0 hzs (by omega))
  have HB0 : Hid (Below w.heap.size w ((w.alloc (.cells (zrN n) 27)).setCells w.heap.size 0 (spC x))) := Lib.hid (by
    have h := setCells_grownR (spC x) w.heap.size 0 (World.grownBy_alloc w (.cells (zrN n) 27) (some w.heap.size))
    exact ⟨h.os, h.tape, h.output, h.size, fun k hk => h.block k hk (fun e => by cases e; omega)⟩)
  generalize ((w.alloc (.cells (zrN n) 27)).setCells w.heap.size 0 (spC x)) = w0 at HC0 HR0 HB0
  have HMU := Lib.hid (fun W => mul_any n (by omega) W)
  clear hb hb0 hz0 hzs hn hblt
  go_enter Try.func96, Try.ntmps96
  go_wp2_with fail
  refine (HMU.out _).mono ?_
  rintro e w1 ⟨rfl, rfl⟩
  go_wp2_with (refine wpList_copy_runI _ (o := ⟨some 33, _, _, _, _, _⟩) rfl (.tmp 31) (.tmp 32) 90 90 rfl _ _ rfl rfl (HC0.out _ _ _) ?_)
  go_loopw [8] (fun i wr => ∃ q : Nat, 1 ≤ q ∧ q ≤ n ∧ i = .int .i64 q ∧ Hid (RpAt wr w1.heap.size q n x) ∧ Hid (Below w1.heap.size w1 wr)) (fun i _ => n - (intOf i).toNat)
  case atStart => exact ⟨1, Nat.le_refl _, by omega, rfl, HR0, HB0⟩
  case round =>
    obtain ⟨q, hq1, hqn, rfl, HR, HB⟩ := hrel
    by_cases hlt : q < n
    · obtain ⟨m, hm⟩ : ∃ m, m = Nat.min q (n - q) := ⟨_, rfl⟩
      have hm1 : 1 ≤ m ∧ m ≤ q ∧ q + m ≤ n := by
        rw [hm]; simp only [Nat.min_def]; split <;> omega
      obtain ⟨cur, cs, k1, k2, k3, k4, k5, k6⟩ := HR.out.copy (j := m) hm1.2.1 hm1.2.2
      have HC : Hid (∀ ty dc sc, (Builtin.copy_ #[90, 90] ty #[.slice (some ⟨w1.heap.size, q * 4, none⟩) (n - q) dc, .slice (some ⟨w1.heap.size, 0, none⟩) q sc]).run Try.prog wr.drew = .ok (goInt (m : Nat)) (wr.drew.setCells w1.heap.size (q * 4) cs)) := Lib.hid (fun ty dc sc =>
        run_copy_rows wr.drew 90 90 ty 27 4 w1.heap.size (q * 4) (n - q) dc _ q sc m 27 cs cur Try.underlying90 size_spec hm.symm k3 k1 k2
          ⟨_, rfl, fun j u hu => by rw [add_plainR, Nat.zero_add]; exact k4 j u hu⟩ k5)
      have HK : Hid (RpAt (wr.drew.setCells w1.heap.size (q * 4) cs) w1.heap.size (q + m) n x) := Lib.hid (by
        obtain ⟨c, g1, g2, g3⟩ := k6
        refine ⟨c, ?_, g2, g3⟩
        have e : ∀ (l : List Value) (W : World) (a o : Nat), W.drew.setCells a o l = (W.setCells a o l).drew := fun l => by
          induction l with
          | nil => intro W a o; rfl
          | cons x l ih => intro W a o; exact (ih (W.setCell ⟨a, o, none⟩ x) a (o + 1))
        rw [e]; exact g1)
      have HBK : Hid (Below w1.heap.size w1 (wr.drew.setCells w1.heap.size (q * 4) cs)) := Lib.hid (by
        have h := setCells_grownR cs w1.heap.size (q * 4) (grown_refl wr.drew (some w1.heap.size))
        have hb := HB.out
        exact ⟨h.os.trans hb.os, h.tape.trans hb.tape, h.output.trans hb.output, Nat.le_trans hb.size h.size, fun k hk => (h.block k (Nat.lt_of_lt_of_le hk hb.size) (fun e => by cases e; omega)).trans (hb.block k hk)⟩)
      have hcq : ¬ (n = q) := by omega
      have hw : IntKind.i64.wrap ((q : Int) + (m : Int)) = (q : Int) + (m : Int) := IntWalk.i64_in _ (by omega)
      have ht : ((q : Nat) : Int).toNat = q := by omega
      clear k1 k2 k3 k4 k5 k6 HR HB hm
      go_wp2_with fail
      go_region_law ((refine step_copy_runI rfl _ _ 90 90 rfl (.slice (some ⟨w1.heap.size, q * 4, none⟩) (n - q) (n - q)) (.slice (some ⟨w1.heap.size, 0, none⟩) q n) (by simp [Act.eval, Act.put]) (by simp [Act.eval, Act.put]) (HC.out _ (n - q) n) ?_))
      go_simp
      go_wp2_with fail
      exact ⟨⟨q + m, by omega, by omega, by rw [Int.natCast_add], HK, HBK⟩, by simp only [intOf]; omega⟩
    · obtain rfl : q = n := by omega
      go_wp2_with fail
      go_ret
      exact ⟨rfl, HR.out, HB.out⟩
end Go.Proofs.Ytchmildlkaikmaa
