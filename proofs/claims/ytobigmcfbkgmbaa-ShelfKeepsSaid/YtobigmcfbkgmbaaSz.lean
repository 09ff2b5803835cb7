/- Copies of a part; what All's, From's and Back's functions do, of any table and of none. -/
import Derived.Test.YtobigmcfbkgmbaaSy
namespace Go.Proofs.Ytobigmcfbkgmbaa
open Go.RowKit Go.Shelf
attribute [local go_sem] Oper.semAt_some

theorem clone_src (w : World) (b off m c : Nat) (xs : List Value) (hl : xs.length = m * 2) (hmc : m ≤ c) (hm : c ≤ maxLen) (hb : b < w.heap.size) (hsr : ∀ j u, xs[j]? = some u → w.cell? ⟨b, off + j, none⟩ = some u) (hn : m ≤ 100000) (hx1 : ∀ u ∈ xs, u.oneCell' = true) :
    Calls Try.prog 44 #[.slice (some ⟨b, off, none⟩) m c] w (Cloned w m xs) := by
  have heq := fun (w : World) (a : Option Addr) (l c : Nat) => Lib.run_eql_slice_nil (P := Try.prog) w 51 59 a l c 0 0 Try.underlying51
  obtain ⟨i0, hi, hz0, hz1, hz2⟩ := info_parts info_el
  have hbe : Below w.heap.size w (w.alloc (.cells #[] 59)) := (Below.refl _ _).alloc (Nat.le_refl _) _
  have hown0 := own_made w w.heap.size 59 2 (Nat.le_refl _)
  have hsrc : Hid (∀ j u, xs[j]? = some u → (w.alloc (.cells #[] 59)).cell? ((⟨b, off, none⟩ : Addr).add j) = some u) := Lib.hid fun j u hu => by
    rw [add_plainR, hbe.cell (p := ⟨b, off + j, none⟩) hb, hsr j u hu]
  have HO := Lib.hid hown0
  have HB := Lib.hid hbe
  have HI := Lib.hid hi
  have HL := Lib.hid hl
  have HX := Lib.hid hx1
  simp only [maxLen] at hm
  clear hown0 hbe hi hl hx1 hsr
  go_enter Try.func44, Try.ntmps44
  go_wp2_with (at_builtin; refine wpList_append_own _ rfl (.tmp 5) (.tmp 6) 51 rfl w.heap.size 59 i0 (.agg #[.int .i64 0, .int .i64 0]) 2 16 Try.underlying51 HI.out hz0 hz1 hz2 rfl (by omega) _ 0 [] rfl HO.out ⟨b, off, none⟩ m c xs rfl HL.out hsrc.out HX.out (by simp [maxLen]; omega) (by omega) HB.out.size ?_; intro v' w' r1 r2 _)
  go_ret
  rw [Nat.zero_add, List.nil_append] at r1
  exact ⟨_, rfl, r1, HB.out.grown r2 (by simp) (fun k e => by cases e; exact Nat.le_refl _)⟩
set_option maxRecDepth 100000 in
set_option maxHeartbeats 2000000 in
theorem partG (w : World) (base g n f t : Nat) (xs : List Value) (v : Value) (h : Sh 53 59 w base g n xs v) (hn : n ≤ 1000) (hx1 : ∀ u ∈ xs, u.oneCell' = true) (hft : f ≤ t) (htn : t ≤ n) :
    Calls Try.prog 29 #[.pointer (some ⟨g, 0, none⟩), .int .i64 (f : Nat), .int .i64 (t : Nat)] w (Cloned w (t - f) ((xs.drop (f * 2)).take ((t - f) * 2))) := by
  have c0 := h.cell
  have hl := h.lt
  have hxl := h.row.1
  have hx2 : ∀ u ∈ (xs.drop (f * 2)).take ((t - f) * 2), u.oneCell' = true := fun u hu => hx1 u (List.mem_of_mem_drop (List.mem_of_mem_take hu))
  rcases h.row.2 with ⟨rfl, h0⟩ | ⟨b, cap, cur, rfl, hb, hg, hnc, hm, hs, _⟩
  · subst h0
    obtain rfl : t = 0 := by omega
    obtain rfl : f = 0 := by omega
    have HC := Lib.hid (clone_any w base 0 (.slice none 0 0) ((xs.drop (0 * 2)).take ((0 - 0) * 2)) ⟨by simp, .inl ⟨rfl, rfl⟩⟩ (by omega) hx2)
    clear h hxl hx2 hx1
    go_enter Try.func29, Try.ntmps29
    go_wp2_with fail
    refine HC.out.mono ?_
    rintro e w2 ⟨v', rfl, hrow, hb⟩
    obtain ⟨qa, qc, rfl⟩ := own_slice hrow
    clear c0
    go_wp2_with fail
    go_ret
    exact ⟨_, rfl, hrow, hb⟩
  · have hc : ∀ off c, ((off = f * 2) ∨ t = f) → t - f ≤ c → c ≤ maxLen → Calls Try.prog 44 #[.slice (some ⟨b, off, none⟩) (t - f) c] w (Cloned w (t - f) ((xs.drop (f * 2)).take ((t - f) * 2))) := fun off c ho h1 h2 =>
      clone_src w b off (t - f) c _ (by rw [List.length_take, List.length_drop, hxl]; omega) h1 h2 (Array.getElem?_eq_some_iff.1 hg).1 (fun j u hu => by
        have hj := (List.getElem?_eq_some_iff.1 hu).1
        rw [List.length_take] at hj
        rcases ho with rfl | e
        · rw [List.getElem?_take, if_pos (by omega), List.getElem?_drop] at hu
          rw [own_cell h.row (by omega), hu]
        · omega) (by omega) hx2
    have HC := Lib.hid hc
    simp only [maxLen] at hm
    clear h hg hs hc hx1 hx2 hxl
    obtain ⟨d, rfl⟩ : ∃ d, t = f + d := ⟨t - f, by omega⟩
    have e1 : f + d - f = d := by omega
    rw [e1] at HC ⊢
    generalize (xs.drop (f * 2)).take (d * 2) = X at HC ⊢
    by_cases hcf : cap = f
    · subst hcf
      obtain rfl : d = 0 := by omega
      go_enter Try.func29, Try.ntmps29
      go_wp2_with fail
      refine (HC.out _ _ (by omega) (by omega) (by simp only [maxLen]; omega)).mono ?_
      rintro e w2 ⟨v', rfl, hrow, hb⟩
      obtain ⟨qa, qc, rfl⟩ := own_slice hrow
      clear c0
      go_wp2_with fail
      go_ret
      exact ⟨_, rfl, hrow, hb⟩
    · go_enter Try.func29, Try.ntmps29
      go_wp2_with fail
      refine (HC.out _ _ (by omega) (by omega) (by simp only [maxLen]; omega)).mono ?_
      rintro e w2 ⟨v', rfl, hrow, hb⟩
      obtain ⟨qa, qc, rfl⟩ := own_slice hrow
      clear c0
      go_wp2_with fail
      go_ret
      exact ⟨_, rfl, hrow, hb⟩

def ptr (p : Option Nat) : Value := .pointer (p.map fun g => ⟨g, 0, none⟩)
theorem all_any (w : World) (p : Option Addr) :
    Calls Try.prog 9 #[.pointer p] w fun e w' => e = .returned (.func (Fn.func 26) #[] #[.pointer (some ⟨w.heap.size, 0, none⟩)]) ∧ w' = w.alloc (.cells #[.pointer p] 23) := by
  go_enter Try.func9, Try.ntmps9
  go_wp2_with fail
  go_ret
  exact ⟨rfl, rfl⟩
theorem from_any (w : World) (p : Option Addr) (k : Int) :
    Calls Try.prog 11 #[.pointer p, .int .i64 k] w fun e w' => e = .returned (.func (Fn.func 30) #[] #[.pointer (some ⟨w.heap.size, 0, none⟩), .pointer (some ⟨w.heap.size + 1, 0, none⟩)]) ∧ w' = (w.alloc (.cells #[.pointer p] 23)).alloc (.cells #[.int .i64 k] 3) := by
  go_enter Try.func11, Try.ntmps11
  go_wp2_with fail
  go_ret
  exact ⟨rfl, rfl⟩
theorem back1_any (w : World) (p : Option Addr) (k : Int) :
    Calls Try.prog 12 #[.pointer p, .int .i64 k] w fun e w' => e = .returned (.func (Fn.func 31) #[] #[.pointer (some ⟨w.heap.size, 0, none⟩), .pointer (some ⟨w.heap.size + 1, 0, none⟩)]) ∧ w' = (w.alloc (.cells #[.pointer p] 23)).alloc (.cells #[.int .i64 k] 3) := by
  go_enter Try.func12, Try.ntmps12
  go_wp2_with fail
  go_ret
  exact ⟨rfl, rfl⟩
/-- What Place answers, whatever it makes. -/
def Plc (w : World) (at_ : Nat) (th : Bool) (e : Ending) (w' : World) : Prop := e = .returned (.tuple #[.int .i64 (at_ : Nat), .bool th]) ∧ Below w.heap.size w w'
set_option maxRecDepth 100000 in
set_option maxHeartbeats 2000000 in
theorem all1_G (n : Nat) (hn : 5 ≤ n) (gb : Nat) (p : Option Addr) (T : List (Int × Int)) (hT : T.length ≤ 100000)  (Fx : Nat → Prop) (tb : World → Option Nat) (B0 : Nat) (hloc : Loc B0 tb) (w : World) (hB0 : B0 ≤ w.heap.size)
    (hbox : w.heap[gb]? = some (.cells #[.pointer p] 23 (0, 0))) (hlen : ∀ x, Below w.heap.size w x → Calls Try.prog 7 #[.pointer p] x fun e w' => e = .returned (.int .i64 (T.length : Nat)) ∧ w' = x)
    (hpart : ∀ x, Below w.heap.size w x → Calls Try.prog 29 #[.pointer p, .int .i64 0, .int .i64 (T.length : Nat)] x (Cloned x T.length (fl eI eI T)))
    (hF : ∀ k, Fx k → k < w.heap.size) (htl : ∀ k, tb w = some k → k < w.heap.size) :
    SeqL n Try.prog 26 #[.pointer (some ⟨gb, 0, none⟩)] encP (Kq Fx tb) (fun ys => ys = T) (fun pre => pre <+: T) T.length w := by
  intro l J Jx W hW hJ hJx hY h0
  have HS := Lib.hid (fun x (hx : Below W.heap.size W x) => show x.cell? ⟨gb, 0, none⟩ = some (.pointer p) from by rw [cell_of_row _ _ _ _ _ _ (((kF hx hW).block gb (Array.getElem?_eq_some_iff.1 hbox).1).trans hbox)]; rfl)
  have HPT := Lib.hid (fun x (hx : Below W.heap.size W x) => hpart x (kF hx hW))
  have HLN := Lib.hid (fun x (hx : Below W.heap.size W x) => hlen x (kF hx hW))
  have HTL := Lib.hid (fun w3 a3 c3 hb hrow => told_rows (n - 1) (by omega) l T Fx tb B0 hloc J Jx W (Nat.le_trans hB0 hW.size) hJ hJx (fun k hk => Nat.lt_of_lt_of_le (hF k hk) hW.size) (fun k hk => by rw [hloc w W fun k hk => hW.block k (by omega)] at hk; exact Nat.lt_of_lt_of_le (htl k hk) hW.size)
    (fun pre x W1 hj hl => by obtain ⟨fn, tmps, assign, body, hy, hR⟩ := hY pre x W1 hj hl; exact ⟨fn, tmps, assign, body, hy, hR.1, fun c cs _ => hR.2 c cs (wide_room _)⟩) h0 w3 a3 c3 hb W.heap.size (Nat.le_refl _) hrow)
  generalize T.length = M at *
  clear hY h0 hF htl hJ hJx hlen hpart hbox
  refine callsIn_of_wp Try.func26 rfl trivial ?_ rfl
  simp only [Try.ntmps26, List.size_toArray, List.length_cons, List.length_nil, Nat.reduceAdd, Nat.reduceSub, Array.replicate_succ, Array.replicate_zero, List.push_toArray, List.append_toArray, List.nil_append, List.cons_append]
  gi_wp2_with fail
  refine wpIn_wide.2 ?_
  refine wp_region_last (fun w' => w'.cell? ⟨gb, 0, none⟩ = some (.pointer p)) 6 (by kernel_rfl) (HS.out _ (kD _)) (fun hHeld => ?_)
  refine wpAnyL_take (i := 0) (v := ?_) rfl (by kernel_rfl) (by kernel_rfl) (by kernel_rfl) (by kernel_rfl) (by kernel_rfl) (fun _ _ _ h => h) (Or.inl ⟨by rfl, ?_⟩) (by assumption) ?_
  rotate_left
  · intro wq hSw; (try dsimp only at hSw); first | (go_simp; done) | (go_simp; with_reducible rfl) | with_reducible rfl
  try simp only [Act.put, List.setIfInBounds_toArray, List.set_cons_zero, List.set_cons_succ]
  refine wpAnyL_take (i := 1) (v := ?_) rfl (by kernel_rfl) (by kernel_rfl) (by kernel_rfl) (by kernel_rfl) (by kernel_rfl) (fun _ _ _ h => h) (Or.inl ⟨by rfl, ?_⟩) (by assumption) ?_
  rotate_left
  · intro wq hSw; (try dsimp only at hSw); first | (go_simp; done) | (go_simp; with_reducible rfl) | with_reducible rfl
  try simp only [Act.put, List.setIfInBounds_toArray, List.set_cons_zero, List.set_cons_succ]
  refine wpAnyL_take (i := 5) (v := ?_) rfl (by kernel_rfl) (by kernel_rfl) (by kernel_rfl) (by kernel_rfl) (by kernel_rfl) (fun _ _ _ h => h) (Or.inl ⟨by rfl, ?_⟩) (by assumption) ?_
  rotate_left
  · intro wq hSw; (try dsimp only at hSw); first | (go_simp; done) | (go_simp; with_reducible rfl) | with_reducible rfl
  try simp only [Act.put, List.setIfInBounds_toArray, List.set_cons_zero, List.set_cons_succ]
  refine wpAnyL_ready (rs := [2]) (by kernel_rfl) (by simp) ?_
  refine (AllReadyL.cons rfl (fun K hK => ?_) AllReadyL.nil)
  go_simp
  go_wp2_with (go_at_call 7; refine (HLN.out _ (kD _)).mono ?_; rintro e w1 ⟨rfl, rfl⟩)
  refine hK.out _ _ ?_ (fun hHeld => ?_)
  · (try dsimp only); exact HS.out _ (kD _)
  clear hK K
  refine wpAnyL_ready (rs := [3]) (by kernel_rfl) (by simp) ?_
  refine (AllReadyL.cons rfl (fun K hK => ?_) AllReadyL.nil)
  go_simp
  go_wp2_with (go_at_call 29; refine (HPT.out _ (kD _)).mono ?_; rintro e w3 ⟨v3, rfl, hrow3, hb3⟩; obtain ⟨a3, c3, rfl⟩ := own_slice hrow3; have hq3 := kF hb3 (kD _))
  refine hK.out _ _ ?_ (fun hHeld => ?_)
  · (try dsimp only); exact HS.out _ hq3
  clear hK K
  refine wpAnyL_ready (rs := [4]) (by kernel_rfl) (by simp) ?_
  refine (AllReadyL.cons rfl (fun K hK => ?_) AllReadyL.nil)
  go_simp
  go_wp2_with (go_at_call 28; refine (sall_any _ _ _ _).mono ?_; rintro e w4 ⟨rfl, rfl⟩; have hT := HTL.out w3 a3 c3 hq3 (own_less hrow3 (Nat.le_refl _)))
  refine hK.out _ _ ?_ (fun hHeld => ?_)
  · (try dsimp only); exact HS.out _ (kA hq3 _)
  clear hK K
  refine wpAnyL_ready (rs := [6]) (by kernel_rfl) (by simp) ?_
  refine AllReadyL.last rfl (fun K hK => ?_)
  go_simp
  go_wp2_with (go_at_call 27; refine hT.mono ?_; rintro e w5 ⟨⟨_, rfl⟩, hP⟩)
  refine hK.out _ _ ?_
  clear hK K
  refine wpAnyL_done (by kernel_rfl) ?_ _
  clear hHeld
  gi_wp2
  go_end0
  exact ⟨⟨_, rfl⟩, hP⟩
set_option maxRecDepth 100000 in
set_option maxHeartbeats 2000000 in
theorem from1_G (n : Nat) (hn : 5 ≤ n) (gb : Nat) (p : Option Addr) (T : List (Int × Int)) (hT : T.length ≤ 100000) (kb N at_ : Nat) (k : Int) (th : Bool) (Fx : Nat → Prop) (tb : World → Option Nat) (B0 : Nat) (hloc : Loc B0 tb) (w : World) (hB0 : B0 ≤ w.heap.size)
    (hbox : w.heap[gb]? = some (.cells #[.pointer p] 23 (0, 0))) (hboxk : w.heap[kb]? = some (.cells #[.int .i64 k] 3 (0, 0))) (hlen : ∀ x, Below w.heap.size w x → Calls Try.prog 7 #[.pointer p] x fun e w' => e = .returned (.int .i64 (N : Nat)) ∧ w' = x)
    (hplc : ∀ x, Below w.heap.size w x → Calls Try.prog 16 #[.pointer p, .int .i64 k] x (Plc x at_ th))
    (hpart : ∀ x, Below w.heap.size w x → Calls Try.prog 29 #[.pointer p, .int .i64 (at_ : Nat), .int .i64 (N : Nat)] x (Cloned x T.length (fl eI eI T)))
    (hF : ∀ k, Fx k → k < w.heap.size) (htl : ∀ k, tb w = some k → k < w.heap.size) :
    SeqL n Try.prog 30 #[.pointer (some ⟨gb, 0, none⟩), .pointer (some ⟨kb, 0, none⟩)] encP (Kq Fx tb) (fun ys => ys = T) (fun pre => pre <+: T) T.length w := by
  intro l J Jx W hW hJ hJx hY h0
  have HS := Lib.hid (fun x (hx : Below W.heap.size W x) => show x.cell? ⟨gb, 0, none⟩ = some (.pointer p) from by rw [cell_of_row _ _ _ _ _ _ (((kF hx hW).block gb (Array.getElem?_eq_some_iff.1 hbox).1).trans hbox)]; rfl)
  have HPT := Lib.hid (fun x (hx : Below W.heap.size W x) => hpart x (kF hx hW))
  have HLN := Lib.hid (fun x (hx : Below W.heap.size W x) => hlen x (kF hx hW))
  have ck : W.cell? ⟨kb, 0, none⟩ = some (.int .i64 k) := by rw [cell_of_row _ _ _ _ _ _ ((hW.block kb (Array.getElem?_eq_some_iff.1 hboxk).1).trans hboxk)]; rfl
  have cg := HS.out W (Below.refl _ _)
  have HPC := Lib.hid (hplc W hW)
  have HTL := Lib.hid (fun w3 a3 c3 hb hrow => told_rows (n - 1) (by omega) l T Fx tb B0 hloc J Jx W (Nat.le_trans hB0 hW.size) hJ hJx (fun k hk => Nat.lt_of_lt_of_le (hF k hk) hW.size) (fun k hk => by rw [hloc w W fun k hk => hW.block k (by omega)] at hk; exact Nat.lt_of_lt_of_le (htl k hk) hW.size)
    (fun pre x W1 hj hl => by obtain ⟨fn, tmps, assign, body, hy, hR⟩ := hY pre x W1 hj hl; exact ⟨fn, tmps, assign, body, hy, hR.1, fun c cs _ => hR.2 c cs (wide_room _)⟩) h0 w3 a3 c3 hb W.heap.size (Nat.le_refl _) hrow)
  generalize T.length = M at *
  clear hY h0 hF htl hJ hJx hlen hpart hbox hboxk hplc
  refine callsIn_of_wp Try.func30 rfl trivial ?_ rfl
  simp only [Try.ntmps30, List.size_toArray, List.length_cons, List.length_nil, Nat.reduceAdd, Nat.reduceSub, Array.replicate_succ, Array.replicate_zero, List.push_toArray, List.append_toArray, List.nil_append, List.cons_append]
  gi_wp2_with fail
  refine ⟨trivial, fun h => (by cases h), ?_⟩
  refine (callsIn_wide.2 HPC.out).mono ?_
  rintro e w2 ⟨rfl, hb2⟩
  have hD2 : Below W.heap.size W w2.drew := kF (kD w2) hb2
  clear ck cg HPC
  gi_wp2_with fail
  refine wpIn_wide.2 ?_
  refine wp_region_last (fun w' => w'.cell? ⟨gb, 0, none⟩ = some (.pointer p)) 7 (by kernel_rfl) (HS.out _ hD2) (fun hHeld => ?_)
  refine wpAnyL_take (i := 0) (v := ?_) rfl (by kernel_rfl) (by kernel_rfl) (by kernel_rfl) (by kernel_rfl) (by kernel_rfl) (fun _ _ _ h => h) (Or.inl ⟨by rfl, ?_⟩) (by assumption) ?_
  rotate_left
  · intro wq hSw; (try dsimp only at hSw); first | (go_simp; done) | (go_simp; with_reducible rfl) | with_reducible rfl
  try simp only [Act.put, List.setIfInBounds_toArray, List.set_cons_zero, List.set_cons_succ]
  refine wpAnyL_take (i := 1) (v := ?_) rfl (by kernel_rfl) (by kernel_rfl) (by kernel_rfl) (by kernel_rfl) (by kernel_rfl) (fun _ _ _ h => h) (Or.inl ⟨by rfl, ?_⟩) (by assumption) ?_
  rotate_left
  · intro wq hSw; (try dsimp only at hSw); first | (go_simp; done) | (go_simp; with_reducible rfl) | with_reducible rfl
  try simp only [Act.put, List.setIfInBounds_toArray, List.set_cons_zero, List.set_cons_succ]
  refine wpAnyL_take (i := 2) (v := ?_) rfl (by kernel_rfl) (by kernel_rfl) (by kernel_rfl) (by kernel_rfl) (by kernel_rfl) (fun _ _ _ h => h) (Or.inl ⟨by rfl, ?_⟩) (by assumption) ?_
  rotate_left
  · intro wq hSw; (try dsimp only at hSw); first | (go_simp; done) | (go_simp; with_reducible rfl) | with_reducible rfl
  try simp only [Act.put, List.setIfInBounds_toArray, List.set_cons_zero, List.set_cons_succ]
  refine wpAnyL_take (i := 6) (v := ?_) rfl (by kernel_rfl) (by kernel_rfl) (by kernel_rfl) (by kernel_rfl) (by kernel_rfl) (fun _ _ _ h => h) (Or.inl ⟨by rfl, ?_⟩) (by assumption) ?_
  rotate_left
  · intro wq hSw; (try dsimp only at hSw); first | (go_simp; done) | (go_simp; with_reducible rfl) | with_reducible rfl
  try simp only [Act.put, List.setIfInBounds_toArray, List.set_cons_zero, List.set_cons_succ]
  refine wpAnyL_ready (rs := [3]) (by kernel_rfl) (by simp) ?_
  refine (AllReadyL.cons rfl (fun K hK => ?_) AllReadyL.nil)
  go_simp
  go_wp2_with (go_at_call 7; refine (HLN.out _ hD2).mono ?_; rintro e w1 ⟨rfl, rfl⟩)
  refine hK.out _ _ ?_ (fun hHeld => ?_)
  · (try dsimp only); exact HS.out _ hD2
  clear hK K
  refine wpAnyL_ready (rs := [4]) (by kernel_rfl) (by simp) ?_
  refine (AllReadyL.cons rfl (fun K hK => ?_) AllReadyL.nil)
  go_simp
  go_wp2_with (go_at_call 29; refine (HPT.out _ hD2).mono ?_; rintro e w3 ⟨v3, rfl, hrow3, hb3⟩; obtain ⟨a3, c3, rfl⟩ := own_slice hrow3; have hq3 := kF hb3 hD2)
  refine hK.out _ _ ?_ (fun hHeld => ?_)
  · (try dsimp only); exact HS.out _ hq3
  clear hK K
  refine wpAnyL_ready (rs := [5]) (by kernel_rfl) (by simp) ?_
  refine (AllReadyL.cons rfl (fun K hK => ?_) AllReadyL.nil)
  go_simp
  go_wp2_with (go_at_call 28; refine (sall_any _ _ _ _).mono ?_; rintro e w4 ⟨rfl, rfl⟩; have hT := HTL.out w3 a3 c3 hq3 (own_less hrow3 hb2.size))
  refine hK.out _ _ ?_ (fun hHeld => ?_)
  · (try dsimp only); exact HS.out _ (kA hq3 _)
  clear hK K
  refine wpAnyL_ready (rs := [7]) (by kernel_rfl) (by simp) ?_
  refine AllReadyL.last rfl (fun K hK => ?_)
  go_simp
  go_wp2_with (go_at_call 27; refine hT.mono ?_; rintro e w5 ⟨⟨_, rfl⟩, hP⟩)
  refine hK.out _ _ ?_
  clear hK K
  refine wpAnyL_done (by kernel_rfl) ?_ _
  clear hHeld
  gi_wp2
  go_end0
  exact ⟨⟨_, rfl⟩, hP⟩
set_option maxRecDepth 100000 in
set_option maxHeartbeats 2000000 in
theorem back1_G (n : Nat) (hn : 5 ≤ n) (gb : Nat) (p : Option Addr) (T : List (Int × Int)) (hT : T.length ≤ 100000) (kb at_ : Nat) (k : Int) (th : Bool) (Fx : Nat → Prop) (tb : World → Option Nat) (B0 : Nat) (hloc : Loc B0 tb) (w : World) (hB0 : B0 ≤ w.heap.size)
    (hbox : w.heap[gb]? = some (.cells #[.pointer p] 23 (0, 0))) (hboxk : w.heap[kb]? = some (.cells #[.int .i64 k] 3 (0, 0)))
    (hplc : ∀ x, Below w.heap.size w x → Calls Try.prog 16 #[.pointer p, .int .i64 k] x (Plc x at_ th))
    (hpart : ∀ x, Below w.heap.size w x → Calls Try.prog 29 #[.pointer p, .int .i64 0, .int .i64 ((if th then at_ + 1 else at_ : Nat))] x (Cloned x T.length (fl eI eI T))) (hat : at_ ≤ 100000)
    (hF : ∀ k, Fx k → k < w.heap.size) (htl : ∀ k, tb w = some k → k < w.heap.size) :
    SeqL n Try.prog 31 #[.pointer (some ⟨gb, 0, none⟩), .pointer (some ⟨kb, 0, none⟩)] encP (Kq Fx tb) (fun ys => ys = T.reverse) (fun pre => pre <+: T.reverse) T.length w := by
  intro l J Jx W hW hJ hJx hY h0
  have HS := Lib.hid (fun x (hx : Below W.heap.size W x) => show x.cell? ⟨gb, 0, none⟩ = some (.pointer p) from by rw [cell_of_row _ _ _ _ _ _ (((kF hx hW).block gb (Array.getElem?_eq_some_iff.1 hbox).1).trans hbox)]; rfl)
  have HPT := Lib.hid (fun x (hx : Below W.heap.size W x) => hpart x (kF hx hW))
  have ck : W.cell? ⟨kb, 0, none⟩ = some (.int .i64 k) := by rw [cell_of_row _ _ _ _ _ _ ((hW.block kb (Array.getElem?_eq_some_iff.1 hboxk).1).trans hboxk)]; rfl
  have cg := HS.out W (Below.refl _ _)
  have HPC := Lib.hid (hplc W hW)
  have HTL := Lib.hid (fun w3 a3 c3 hb hrow => told_back (n - 1) (by omega) l T (by omega) Fx tb B0 hloc J Jx W (Nat.le_trans hB0 hW.size) hJ hJx (fun k hk => Nat.lt_of_lt_of_le (hF k hk) hW.size) (fun k hk => by rw [hloc w W fun k hk => hW.block k (by omega)] at hk; exact Nat.lt_of_lt_of_le (htl k hk) hW.size)
    (fun pre x W1 hj hl => by obtain ⟨fn, tmps, assign, body, hy, hR⟩ := hY pre x W1 hj hl; exact ⟨fn, tmps, assign, body, hy, hR.1, fun c cs _ => hR.2 c cs (wide_room _)⟩) h0 w3 a3 c3 hb W.heap.size (Nat.le_refl _) hrow)
  rcases th with _ | _
  all_goals
    generalize T.length = M at *
    clear hY h0 hF htl hJ hJx hpart hbox hboxk hplc
    refine callsIn_of_wp Try.func31 rfl trivial ?_ rfl
    simp only [Try.ntmps31, List.size_toArray, List.length_cons, List.length_nil, Nat.reduceAdd, Nat.reduceSub, Array.replicate_succ, Array.replicate_zero, List.push_toArray, List.append_toArray, List.nil_append, List.cons_append]
    gi_wp2_with fail
    refine ⟨trivial, fun h => (by cases h), ?_⟩
    refine (callsIn_wide.2 HPC.out).mono ?_
    rintro e w2 ⟨rfl, hb2⟩
    have cg2 := HS.out w2 hb2
    clear ck cg HPC
    have HPW := Lib.hid (HPT.out w2 hb2)
    simp only [Bool.false_eq_true, if_false, if_true, Int.natCast_add, Int.natCast_one] at HPW
    gi_wp2_with fail
    refine ⟨trivial, fun h => (by cases h), ?_⟩
    refine (callsIn_wide.2 HPW.out).mono ?_
    rintro e w3 ⟨v3, rfl, hrow3, hb3⟩
    obtain ⟨a3, c3, rfl⟩ := own_slice hrow3
    have hq3 := kF hb3 hb2
    have HT := Lib.hid (HTL.out w3 a3 c3 hq3 (own_less hrow3 hb2.size))
    clear cg2 HPW
    gi_wp2_with fail
    refine ⟨trivial, fun h => (by cases h), ?_⟩
    refine (callsIn_wide.2 (sbk_any _ _ _ _)).mono ?_
    rintro e w4 ⟨rfl, rfl⟩
    gi_wp2_with fail
    refine ⟨trivial, fun h => (by cases h), ?_⟩
    refine (callsIn_wide.2 HT.out).mono ?_
    rintro e w5 ⟨⟨_, rfl⟩, hP⟩
    gi_wp2
    go_end0
    exact ⟨⟨_, rfl⟩, hP⟩
end Go.Proofs.Ytobigmcfbkgmbaa
