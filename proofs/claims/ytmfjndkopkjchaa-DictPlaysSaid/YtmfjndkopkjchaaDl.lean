/- What the function that Subs hands back does. -/
import Derived.Test.YtmfjndkopkjchaaDk
namespace Go.Proofs.Ytmfjndkopkjchaa
open Go.RowKit Go.Shelf
attribute [local go_sem] Oper.semAt_some
set_option linter.unusedSimpArgs false
set_option linter.unusedVariables false

theorem wp_nopanic {P : Program} {c : Code} {next : Act → World → Prop} {Q : Exit → Act → World → Prop} {a : Act} {w : World} (h : c.wp P (Exit.then next (fun _ _ _ => False)) a w) : c.wp P (Exit.then next Q) a w :=
  wp_mono h (fun e a w hh => by cases e with | normal => exact hh | _ => exact absurd hh id)
def subI (x : Int × Ent) : Int := bN x.1
/-- The rows of one Index, from a place on. -/
def inIx (idx : Int) (x : Int × Ent) : Bool := decide (aN x.1 = idx)
def rowsX (idx : Int) (T : List (Int × Ent)) : List (Int × Ent) := (T.drop (plcI (numI idx 0) T)).takeWhile (inIx idx)
def subsL (idx : Int) (T : List (Int × Ent)) : List Int := (rowsX idx T).map subI
theorem tw_all {p : Int × Ent → Bool} : ∀ {T : List (Int × Ent)}, (∀ x ∈ T, p x = true) → T.takeWhile p = T
  | [], _ => rfl
  | x :: T, h => by rw [List.takeWhile_cons, if_pos (h x (by simp)), tw_all fun y hy => h y (by simp [hy])]
theorem tw_stop {p : Int × Ent → Bool} : ∀ {q r : List (Int × Ent)} {x : Int × Ent}, (∀ y ∈ q, p y = true) → p x = false → (q ++ x :: r).takeWhile p = q
  | [], r, x, _, hx => by simp [hx]
  | y :: q, r, x, h, hx => by rw [List.cons_append, List.takeWhile_cons, if_pos (h y (by simp)), tw_stop (fun z hz => h z (by simp [hz])) hx]
theorem tw_pre {p : Int × Ent → Bool} : ∀ {q T : List (Int × Ent)}, q <+: T → (∀ y ∈ q, p y = true) → q <+: T.takeWhile p
  | [], _, _, _ => List.nil_prefix
  | y :: q, [], h, _ => by obtain ⟨r, hr⟩ := h; cases hr
  | y :: q, z :: T, h, hq => by
    obtain ⟨rfl, h2⟩ := List.cons_prefix_cons.1 h
    rw [List.takeWhile_cons, if_pos (hq y (by simp))]
    exact List.cons_prefix_cons.2 ⟨rfl, tw_pre h2 fun z hz => hq z (by simp [hz])⟩
def encS (y : Int) : Array Value := #[.int .i64 y]
def SubI (J : List Int → World → Prop) (l Y V kb : Nat) (idx : Int) (tb : World → Option Nat) (pre : List (Int × Ent)) (X : World) : Prop :=
  J (pre.map subI) X ∧ (∀ x ∈ pre, inIx idx x = true) ∧ X.heap[Y]? = some (.cells #[.func (.yield l) #[] #[]] 95 (0, 0)) ∧ X.heap[kb]? = some (.cells #[.int .i64 idx] 3 (0, 0)) ∧ tb X ≠ some Y ∧ tb X ≠ some kb ∧ V ≤ X.heap.size
def SubX (J Jx : List Int → World → Prop) (idx : Int) (c : Code) (pre : List (Int × Ent)) (X : World) : Prop :=
  c = .ret ∧ ((∃ q x, pre = q ++ [x] ∧ (∀ y ∈ q, inIx idx y = true) ∧ inIx idx x = false ∧ J (q.map subI) X) ∨ ((∀ y ∈ pre, inIx idx y = true) ∧ Jx (pre.map subI) X))
def SubA (l Y gb kb g s B1 : Nat) (idx NQ : Int) (x : Int × Ent) : Act := { tmps := #[.func (.yield l) #[] #[], .pointer (some ⟨gb, 0, none⟩), .pointer (some ⟨kb, 0, none⟩), .pointer (some ⟨Y, 0, none⟩), .int .i64 x.1, undef, .pointer (some ⟨g, 0, none⟩), .bool false, .pointer (some ⟨g, 0, none⟩), .pointer (some ⟨g, 0, none⟩), .pointer (some ⟨g, 0, none⟩), .pointer (some ⟨s, 0, none⟩), .int .i64 idx, .agg #[.int .i64 idx, .int .i64 0], .int .i64 NQ, .func (Fn.func 68) #[] #[.pointer (some ⟨B1, 0, none⟩), .pointer (some ⟨B1 + 1, 0, none⟩)], .int .i64 x.1, entV x.2, undef, undef, undef, undef, undef, undef, undef, undef, undef, undef, undef, undef, undef], defers := [] }
theorem part_drop {T : List (Int × Ent)} {at_ : Nat} (h : at_ ≤ T.length) : T.length - at_ = (T.drop at_).length ∧ ((fe T).drop (at_ * 6)).take ((T.length - at_) * 6) = fe (T.drop at_) := by
  refine ⟨by simp, ?_⟩
  rw [fe_drop, List.take_of_length_le (by rw [fe_len]; simp)]
set_option maxRecDepth 100000 in
set_option maxHeartbeats 4000000 in
theorem subs1_L (n : Nat) (hn : 6 ≤ n) (gb kb g s base : Nat) (T : List (Int × Ent)) (ch : Int) (v : Value) (idx : Int) (Fx : Nat → Prop) (tb : World → Option Nat) (B0 : Nat) (hloc : Loc B0 tb) (w : World) (hB0 : B0 ≤ w.heap.size)
    (hbox : w.heap[gb]? = some (.cells #[.pointer (some ⟨g, 0, none⟩)] 23 (0, 0))) (hboxk : w.heap[kb]? = some (.cells #[.int .i64 idx] 3 (0, 0))) (h : DiI w base g s T ch v) (hT : T.length ≤ 900) (hs : Rise T) (hok : ∀ x ∈ T, 0 ≤ x.1 ∧ x.1 ≤ 16777215)
    (hF : ∀ k, Fx k → k < w.heap.size) (htl : ∀ k, tb w = some k → k < w.heap.size) (hFk : ¬ Fx kb) (htk : tb w ≠ some kb) :
    SeqL n Try.prog 42 #[.pointer (some ⟨gb, 0, none⟩), .pointer (some ⟨kb, 0, none⟩)] encS (Kq Fx tb) (fun ys => ys = subsL idx T) (fun pre => pre <+: subsL idx T) (T.drop (plcI (numI idx 0) T)).length w := by
  intro l J Jx W hW hJ hJx hY h0
  have hba : Below W.heap.size W (W.alloc (.cells #[.func (.yield l) #[] #[]] 95)) := (Below.refl _ _).alloc (Nat.le_refl _) _
  have hJ1 : J [] (W.alloc (.cells #[.func (.yield l) #[] #[]] 95)) := hJ.alloc _ h0
  have hyx := heap_alloc_new W (.cells #[.func (.yield l) #[] #[]] 95)
  have hsz : (W.alloc (.cells #[.func (.yield l) #[] #[]] 95)).heap.size = W.heap.size + 1 := by simp
  have hgl := (Array.getElem?_eq_some_iff.1 hbox).1
  have hkl := (Array.getElem?_eq_some_iff.1 hboxk).1
  have hWs := hW.size
  have HS := Lib.hid (fun x (hx : Below (W.alloc (.cells #[.func (.yield l) #[] #[]] 95)).heap.size (W.alloc (.cells #[.func (.yield l) #[] #[]] 95)) x) => show x.cell? ⟨gb, 0, none⟩ = some (.pointer (some ⟨g, 0, none⟩)) ∧ x.cell? ⟨g, 0, none⟩ = some (.pointer (some ⟨s, 0, none⟩)) ∧ x.cell? ⟨kb, 0, none⟩ = some (.int .i64 idx) from
    ⟨by rw [cell_of_row _ _ _ _ _ _ (((kF (kF hx hba) hW).block gb hgl).trans hbox)]; rfl, (h.below (kF (kF hx hba) hW)).cells.1, by rw [cell_of_row _ _ _ _ _ _ (((kF (kF hx hba) hW).block kb hkl).trans hboxk)]; rfl⟩)
  have hple := plcI_le (numI idx 0) T
  have HNU := Lib.hid (fun x => number_any idx 0 x)
  have hokd : ∀ x ∈ T.drop (plcI (numI idx 0) T), 0 ≤ x.1 ∧ x.1 ≤ 16777215 := fun x hx => hok x (List.mem_of_mem_drop hx)
  have HSH := Lib.hid (fun x (hx : Below (W.alloc (.cells #[.func (.yield l) #[] #[]] 95)).heap.size (W.alloc (.cells #[.func (.yield l) #[] #[]] 95)) x) => (h.below (kF (kF hx hba) hW)).sh)
  obtain ⟨e1, e2⟩ := part_drop hple
  have hpl := h.lt
  have HSEQ := Lib.hid (fun (B1 : Nat) (x : World) (hx : Below (W.alloc (.cells #[.func (.yield l) #[] #[]] 95)).heap.size (W.alloc (.cells #[.func (.yield l) #[] #[]] 95)) x) (hb1 : x.heap[B1]? = some (.cells #[.pointer (some ⟨s, 0, none⟩)] 66 (0, 0))) (hb2 : x.heap[B1 + 1]? = some (.cells #[.int .i64 (numI idx 0)] 3 (0, 0))) =>
    from1_G (n - 1) (by omega) B1 (some ⟨s, 0, none⟩) (T.drop (plcI (numI idx 0) T)) (by rw [← e1]; omega) (B1 + 1) T.length (plcI (numI idx 0) T) (numI idx 0) (hasI (numI idx 0) T) Fx tb B0 hloc x (by have := hx.size; omega) hb1 hb2
      (fun y hy => lenE y base s T.length (fe T) v ((HSH.out x hx).below hy))
      (fun y hy => placeE y base s T v (numI idx 0) ((HSH.out x hx).below hy) (by omega) hs)
      (fun y hy => by have := partG y base s T.length (plcI (numI idx 0) T) T.length (fe T) v ((HSH.out x hx).below hy) (by omega) (fe_one T) hple (Nat.le_refl _); rw [e1, ← e1, e2] at this; rw [← e1]; exact this)
      (fun k hk => by have := hF k hk; have := hx.size; omega) (fun k hk => by rw [hloc w x fun k hk => (kF (kF hx hba) hW).block k (by omega)] at hk; have := htl k hk; have := hx.size; omega))
  have hrx : subsL idx T = ((T.drop (plcI (numI idx 0) T)).takeWhile (inIx idx)).map subI := rfl
  rw [hrx]
  clear hrx e1 e2
  generalize T.drop (plcI (numI idx 0) T) = R at *
  generalize numI idx 0 = NQ at *
  have HR := Lib.hid hokd
  have htV : ∀ X, Below W.heap.size W X → tb X = tb w := fun X hX => hloc _ _ fun k hk => (kF hX hW).block k (by omega)
  have HYB := Lib.hid (And.intro hyx (hba.block kb (by omega) |>.trans ((hW.block kb hkl).trans hboxk)))
  clear h hok hokd hboxk hbox hs hple hyx HSH
  refine callsIn_of_wp_marks Try.func42 rfl trivial ?_ rfl
  simp only [Try.ntmps42, List.size_toArray, List.length_cons, List.length_nil, Nat.reduceAdd, Nat.reduceSub, Array.replicate_succ, Array.replicate_zero, List.push_toArray, List.append_toArray, List.nil_append, List.cons_append]
  obtain ⟨c0, c1, c2⟩ := HS.out _ (Below.refl _ _)
  have HBA := Lib.hid hba
  have HJ1 := Lib.hid hJ1
  have HHY := Lib.hid hY
  clear hba hJ1 hY h0
  gi_wp2_with fail
  generalize W.alloc (.cells #[.func (.yield l) #[] #[]] 95) = V at HS HSEQ HYB HBA HJ1 hsz c0 c1 c2 ⊢
  refine wpIn_wide.2 (wp_nopanic ?_)
  refine wp_region_last (fun w' => w'.cell? ⟨gb, 0, none⟩ = some (.pointer (some ⟨g, 0, none⟩)) ∧ w'.cell? ⟨g, 0, none⟩ = some (.pointer (some ⟨s, 0, none⟩)) ∧ w'.cell? ⟨kb, 0, none⟩ = some (.int .i64 idx)) 7 (by kernel_rfl) (HS.out _ (kD _)) (fun hHeld => ?_)
  refine wpAnyL_take (i := 0) (v := ?_) rfl (by kernel_rfl) (by kernel_rfl) (by kernel_rfl) (by kernel_rfl) (by kernel_rfl) (fun _ _ _ h => h) (Or.inl ⟨by rfl, ?_⟩) (by assumption) ?_
  rotate_left
  · intro wq hSw; (try dsimp only at hSw); first | (go_simp; done) | (go_simp; with_reducible rfl) | with_reducible rfl
  try simp only [Act.put, List.setIfInBounds_toArray, List.set_cons_zero, List.set_cons_succ]
  refine wpAnyL_take (i := 1) (v := ?_) rfl (by kernel_rfl) (by kernel_rfl) (by kernel_rfl) (by kernel_rfl) (by kernel_rfl) (fun _ _ _ h => h) (Or.inl ⟨by rfl, ?_⟩) (by assumption) ?_
  rotate_left
  · intro wq hSw; (try dsimp only at hSw); first | (go_simp; done) | (go_simp; with_reducible rfl) | with_reducible rfl
  try simp only [Act.put, List.setIfInBounds_toArray, List.set_cons_zero, List.set_cons_succ]
  refine wpAnyL_take (i := 2) (v := ?_) rfl (by kernel_rfl) (by kernel_rfl) (by kernel_rfl) (by kernel_rfl) (by kernel_rfl) (fun _ _ _ h => h) (Or.inl ⟨by rfl, ?_⟩) (by assumption) ?_
  rotate_left
  · intro wq hSw; (try dsimp only at hSw); first | (go_simp; done) | (go_simp; with_reducible rfl) | with_reducible rfl
  try simp only [Act.put, List.setIfInBounds_toArray, List.set_cons_zero, List.set_cons_succ]
  refine wpAnyL_take (i := 3) (v := ?_) rfl (by kernel_rfl) (by kernel_rfl) (by kernel_rfl) (by kernel_rfl) (by kernel_rfl) (fun _ _ _ h => h) (Or.inl ⟨by rfl, ?_⟩) (by assumption) ?_
  rotate_left
  · intro wq hSw; (try dsimp only at hSw); first | (go_simp; done) | (go_simp; with_reducible rfl) | with_reducible rfl
  try simp only [Act.put, List.setIfInBounds_toArray, List.set_cons_zero, List.set_cons_succ]
  refine wpAnyL_take (i := 4) (v := ?_) rfl (by kernel_rfl) (by kernel_rfl) (by kernel_rfl) (by kernel_rfl) (by kernel_rfl) (fun _ _ _ h => h) (Or.inl ⟨by rfl, ?_⟩) (by assumption) ?_
  rotate_left
  · intro wq hSw; (try dsimp only at hSw); first | (go_simp; done) | (go_simp; with_reducible rfl) | with_reducible rfl
  try simp only [Act.put, List.setIfInBounds_toArray, List.set_cons_zero, List.set_cons_succ]
  refine wpAnyL_take (i := 5) (v := ?_) rfl (by kernel_rfl) (by kernel_rfl) (by kernel_rfl) (by kernel_rfl) (by kernel_rfl) (fun _ _ _ h => h) (Or.inl ⟨by rfl, ?_⟩) (by assumption) ?_
  rotate_left
  · intro wq hSw; (try dsimp only at hSw); first | (go_simp; done) | (go_simp; with_reducible rfl) | with_reducible rfl
  try simp only [Act.put, List.setIfInBounds_toArray, List.set_cons_zero, List.set_cons_succ]
  refine wpAnyL_ready (rs := [6]) (by kernel_rfl) (by simp) ?_
  refine (AllReadyL.cons rfl (fun K hK => ?_) AllReadyL.nil)
  go_simp
  go_wp2_with (go_at_call 44; refine (HNU.out _).mono ?_; rintro e w1 ⟨rfl, hb1⟩; have HB1 := Lib.hid (kF hb1 (kD V)); clear hb1)
  refine hK.out _ _ ?_ (fun hHeld => ?_)
  · (try dsimp only); exact HS.out _ HB1.out
  clear hK K
  refine wpAnyL_ready (rs := [7]) (by kernel_rfl) (by simp) ?_
  refine AllReadyL.last rfl (fun K hK => ?_)
  go_simp
  go_wp2_with (go_at_call 43; refine (from_any _ _ _).mono ?_; rintro e w2 ⟨rfl, rfl⟩)
  refine hK.out _ _ ?_
  clear hK K
  refine wpAnyL_done (by kernel_rfl) ?_ _
  clear hHeld c0 c1 c2
  have hb2 : Below V.heap.size V ((w1.alloc (.cells #[.pointer (some ⟨s, 0, none⟩)] 66)).alloc (.cells #[.int .i64 NQ] 3)) := kA (kA HB1.out _) _
  have HB2 := Lib.hid hb2
  have HX1 := Lib.hid (heap_alloc2_old w1 (.cells #[.pointer (some ⟨s, 0, none⟩)] 66) (.cells #[.int .i64 NQ] 3))
  have HX2 := Lib.hid (heap_alloc2_new w1 (.cells #[.pointer (some ⟨s, 0, none⟩)] 66) (.cells #[.int .i64 NQ] 3))
  have HSQ := Lib.hid (HSEQ.out w1.heap.size _ hb2 HX1.out HX2.out)
  clear hb2
  gi_wp2_with fail
  generalize (w1.alloc (.cells #[.pointer (some ⟨s, 0, none⟩)] 66)).alloc (.cells #[.int .i64 NQ] 3) = w2 at HB2 HX1 HX2 HSQ ⊢
  generalize w1.heap.size = B1 at HX1 HX2 HSQ ⊢
  have hs2 : W.heap.size + 1 ≤ w2.heap.size := by have := HB2.out.size; omega
  have hB2 : B0 ≤ w2.heap.size := by omega
  have HW2 := Lib.hid (kF HB2.out HBA.out)
  have htw := htV w2 HW2.out
  have h00 : SubI J l W.heap.size w2.heap.size kb idx tb [] w2 := ⟨hJ [] V w2 none HJ1.out (grown_below none HB2.out) (fun r e => by cases e), by simp, (HB2.out.block _ (by omega)).trans HYB.out.1, (HB2.out.block kb (by omega)).trans HYB.out.2,
    fun e => by rw [htw] at e; have := htl _ e; omega, fun e => by rw [htw] at e; exact htk e, Nat.le_refl _⟩
  refine range_L (by omega) (gf := 68) (lb := #[.pointer (some ⟨B1, 0, none⟩), .pointer (some ⟨B1 + 1, 0, none⟩)]) rfl (enters_of Try.func68 (by kernel_rfl) rfl) HSQ.out kq_t (fun X k o o' hk ho hc _ => kq_put hloc (by omega) ho hc) (Below.refl _ _) (fun _ => rfl)
    (SubI J l W.heap.size w2.heap.size kb idx tb) (SubX J Jx idx)
    (fun (s : List (Int × Ent)) X Y row ⟨h1, h2, h3, h4, h5, h6, h7⟩ hg hr => ⟨own_more hJ (by omega) _ X Y row h1 hg hr, h2, own_heap (β := Unit) W.heap.size w2.heap.size _ (by omega) () X Y row h3 hg hr, own_heap (β := Unit) kb w2.heap.size _ (by omega) () X Y row h4 hg hr,
      fun e => h5 (by rw [← e]; exact (hloc X Y fun k hk => hg.block k (by omega) (fun e => by have := (hr k e.symm).1; omega)).symm), fun e => h6 (by rw [← e]; exact (hloc X Y fun k hk => hg.block k (by omega) (fun e => by have := (hr k e.symm).1; omega)).symm), Nat.le_trans h7 hg.size⟩)
    (fun c s X Y row ⟨h1, h2⟩ hg hr => ⟨h1, h2.imp (fun ⟨q, x, e1, e2, e3, e4⟩ => ⟨q, x, e1, e2, e3, own_more hJ (by omega) _ X Y row e4 hg hr⟩) (fun ⟨e1, e2⟩ => ⟨e1, own_more hJx (by omega) _ X Y row e2 hg hr⟩)⟩)
    h00 (SubA l W.heap.size gb kb g s B1 idx NQ) ?assign ?body ?done ?stop
  case assign =>
    rintro lp ⟨xn, E⟩ X K hK
    dsimp only [encP, SubA] at hK ⊢
    gi_wp2
    exact hK
  case body =>
    rintro lp pre ⟨xn, E⟩ X ⟨hJX, hall, hY0, hkX, htY, htk2, hsz2⟩ hlen
    have hwl : W.heap.size < X.heap.size := (Array.getElem?_eq_some_iff.1 hY0).1
    have hkx : kb < X.heap.size := (Array.getElem?_eq_some_iff.1 hkX).1
    have HN := Lib.hid (name_any xn X)
    have HIX := Lib.hid (show inIx idx (xn, E) = decide (aN xn = idx) from rfl)
    have HSB := Lib.hid (show subI (xn, E) = bN xn from rfl)
    generalize aN xn = an at *
    generalize bN xn = bn at *
    dsimp only [SubA]
    gi_wp2_with fail
    refine ⟨trivial, fun h => (by cases h), ?_⟩
    refine (CallsIn.inRound lp (callsIn_wide.2 HN.out)).mono ?_
    rintro e X1 ⟨rfl, hb1⟩
    have hb2 : Below X.heap.size X (X1.alloc (.cells #[.int .i64 an, .int .i64 bn] 31)) := kA hb1 _
    have hq2 : Key2 (X1.alloc (.cells #[.int .i64 an, .int .i64 bn] 31)) X1.heap.size an bn := heap_alloc_new X1 _
    have hY2 := (hb2.block _ hwl).trans hY0
    have hk2 := (hb2.block _ hkx).trans hkX
    have hJ2 : J (pre.map subI) (X1.alloc (.cells #[.int .i64 an, .int .i64 bn] 31)) := hJ _ X _ none hJX (grown_below none hb2) (fun r e => by cases e)
    have hkf2 : KeepsFrom w2.heap.size X (X1.alloc (.cells #[.int .i64 an, .int .i64 bn] 31)) := ⟨hb2.size, fun k o _ hk _ => (hb2.block k (Array.getElem?_eq_some_iff.1 hk).1).trans hk⟩
    have hkq2 : Kq Fx tb X (X1.alloc (.cells #[.int .i64 an, .int .i64 bn] 31)) := kq_below hloc (by omega) hb2
    have htY2 : tb (X1.alloc (.cells #[.int .i64 an, .int .i64 bn] 31)) ≠ some W.heap.size := fun e => htY (by rw [← e]; exact (hloc X _ fun k hk => hb2.block k (by omega)).symm)
    have htk3 : tb (X1.alloc (.cells #[.int .i64 an, .int .i64 bn] 31)) ≠ some kb := fun e => htk2 (by rw [← e]; exact (hloc X _ fun k hk => hb2.block k (by omega)).symm)
    have hsx : w2.heap.size ≤ (X1.alloc (.cells #[.int .i64 an, .int .i64 bn] 31)).heap.size := Nat.le_trans hsz2 hb2.size
    generalize hX2 : X1.alloc (.cells #[.int .i64 an, .int .i64 bn] 31) = X2 at *
    obtain ⟨d0, d1⟩ := hq2.cells
    have c3 : X2.cell? ⟨W.heap.size, 0, none⟩ = some (.func (.yield l) #[] #[]) := by rw [cell_of_row _ _ _ _ _ _ hY2]; rfl
    have ck : X2.cell? ⟨kb, 0, none⟩ = some (.int .i64 idx) := by rw [cell_of_row _ _ _ _ _ _ hk2]; rfl
    have HY2 := Lib.hid hY2
    have HK2 := Lib.hid hk2
    have HJ2 := Lib.hid hJ2
    have HKF := Lib.hid hkf2
    have HKQ := Lib.hid hkq2
    have HTY := Lib.hid htY2
    have HTK := Lib.hid htk3
    have HAL := Lib.hid hall
    obtain ⟨fn, tmps, assign, body, hy, hRd⟩ := yield_any (m' := n - 1 - 1 - 1) (l2 := lp) (HHY.out (pre.map subI) bn X2 hJ2 (by rw [List.length_map]; exact hlen))
    have HRD := Lib.hid hRd
    dsimp only [encS] at hy
    clear hY2 hk2 hJ2 hkf2 hkq2 htY2 htk3 hall hRd hJX hY0 hkX htY htk2 hq2 hb2 hb1
    by_cases he : an = idx
    · have t1 : (an != idx) = false := by simp [he]
      have HE := Lib.hid he
      clear he
      gi_wp2_with fail
      refine ⟨fun h => (by cases h), HRD.out.mono ?_⟩
      rintro e X3 ⟨hkf, (⟨rfl, hJ3, hk3⟩ | ⟨rfl, hJx3⟩)⟩
      · have fin : KeepsFrom w2.heap.size X X3 ∧ Kq Fx tb X X3 ∧ SubI J l W.heap.size w2.heap.size kb idx tb (pre ++ [(xn, E)]) X3 :=
          ⟨⟨Nat.le_trans HKF.out.size hkf.size, fun k o h1 h2 h3 => hkf.same k o (by omega) (HKF.out.same k o h1 h2 h3) h3⟩, kq_t HKQ.out hk3, by rw [List.map_append, List.map_singleton, HSB.out]; exact hJ3,
            fun y hy => by rcases List.mem_append.1 hy with hy | hy; exact HAL.out y hy; (simp only [List.mem_singleton] at hy; subst hy; rw [HIX.out]; exact decide_eq_true HE.out),
            hk3.heap HY2.out (fun e => by have := hF _ e; omega) HTY.out, hk3.heap HK2.out hFk HTK.out, hk3.not (Array.getElem?_eq_some_iff.1 HY2.out).1 HTY.out, hk3.not (Array.getElem?_eq_some_iff.1 HK2.out).1 HTK.out, Nat.le_trans hsx hk3.size⟩
        have HFI := Lib.hid fin
        clear fin hkf hk3 hJ3
        gi_wp2
        exact HFI.out
      · have fin : KeepsFrom w2.heap.size X X3 ∧ SubX J Jx idx .ret (pre ++ [(xn, E)]) X3 :=
          ⟨⟨Nat.le_trans HKF.out.size hkf.size, fun k o h1 h2 h3 => hkf.same k o (by omega) (HKF.out.same k o h1 h2 h3) h3⟩, rfl, .inr ⟨fun y hy => by rcases List.mem_append.1 hy with hy | hy; exact HAL.out y hy; (simp only [List.mem_singleton] at hy; subst hy; rw [HIX.out]; exact decide_eq_true HE.out), by rw [List.map_append, List.map_singleton, HSB.out]; exact hJx3⟩⟩
        have HFI := Lib.hid fin
        clear fin hkf hJx3
        gi_wp2
        exact HFI.out
    · have t1 : (an != idx) = true := by simp [he]
      have fin : KeepsFrom w2.heap.size X X2 ∧ SubX J Jx idx .ret (pre ++ [(xn, E)]) X2 := ⟨HKF.out, rfl, .inl ⟨pre, _, rfl, HAL.out, by rw [HIX.out]; exact decide_eq_false he, HJ2.out⟩⟩
      have HFI := Lib.hid fin
      clear fin he
      gi_wp2_with fail
      refine ⟨fun f hf => (by cases hf), ?_⟩
      gi_wp2
      exact HFI.out
  case stop =>
    rintro D cc pre X hD hSp ⟨rfl, hX⟩ hK
    rcases hX with ⟨q, x, rfl, hq, hx, hJq⟩ | ⟨hall, hJq⟩
    · obtain ⟨r, hr⟩ := hSp
      have e : R.takeWhile (inIx idx) = q := by rw [← hr, List.append_assoc]; exact tw_stop hq hx
      have hXe := (own_more hJ (by omega : W.heap.size ≤ w2.heap.size)).putObj (.deferred none) hJq hD hK rfl
      gi_wp2
      exact ⟨by simp, .inl ⟨_, _, rfl, run_takeDeferred hK, _, results_none rfl _ _ _, ⟨_, rfl⟩, .inl ⟨_, by rw [e], hXe⟩⟩⟩
    · have hp : pre.map subI <+: (R.takeWhile (inIx idx)).map subI := by
        obtain ⟨r, hr⟩ := tw_pre hSp hall
        exact ⟨r.map subI, by rw [← hr, List.map_append]⟩
      have hXe := (own_more hJx (by omega : W.heap.size ≤ w2.heap.size)).putObj (.deferred none) hJq hD hK rfl
      gi_wp2
      exact ⟨by simp, .inl ⟨_, _, rfl, run_takeDeferred hK, _, results_none rfl _ _ _, ⟨_, rfl⟩, .inr ⟨_, hp, hXe⟩⟩⟩
  case done =>
    rintro D ys X hD rfl ⟨hJX, hall, -⟩ hK
    have e := tw_all hall
    have hXe := (own_more hJ (by omega : W.heap.size ≤ w2.heap.size)).putObj (.deferred none) hJX hD hK rfl
    gi_wp2
    exact ⟨by simp, .inl ⟨_, _, rfl, run_takeDeferred hK, _, results_none rfl _ _ _, ⟨_, rfl⟩, .inl ⟨_, by rw [e], hXe⟩⟩⟩
end Go.Proofs.Ytmfjndkopkjchaa
