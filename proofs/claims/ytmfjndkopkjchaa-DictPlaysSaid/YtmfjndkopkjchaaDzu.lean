/- What the function that Keys hands back does. -/
import Derived.Test.YtmfjndkopkjchaaDl
import Derived.Test.YtmfjndkopkjchaaDo
namespace Go.Proofs.Ytmfjndkopkjchaa
open Go.RowKit Go.Shelf
attribute [local go_sem] Oper.semAt_some
set_option linter.unusedSimpArgs false
set_option linter.unusedVariables false

def keyI (x : Int × Ent) : Int × Int := (aN x.1, bN x.1)
def KeyI (J : List (Int × Int) → World → Prop) (l Y V : Nat) (tb : World → Option Nat) (pre : List (Int × Ent)) (X : World) : Prop :=
  J (pre.map keyI) X ∧ X.heap[Y]? = some (.cells #[.func (.yield l) #[] #[]] 110 (0, 0)) ∧ tb X ≠ some Y ∧ V ≤ X.heap.size
def KeyX (Jx : List (Int × Int) → World → Prop) (c : Code) (pre : List (Int × Ent)) (X : World) : Prop := c = .ret ∧ Jx (pre.map keyI) X
def KeyA (l Y gb g s B1 : Nat) (x : Int × Ent) : Act := { tmps := #[.func (.yield l) #[] #[], .pointer (some ⟨gb, 0, none⟩), .pointer (some ⟨Y, 0, none⟩), .int .i64 x.1, .pointer (some ⟨g, 0, none⟩), .bool false, .pointer (some ⟨g, 0, none⟩), .pointer (some ⟨g, 0, none⟩), .pointer (some ⟨g, 0, none⟩), .pointer (some ⟨s, 0, none⟩), .func (Fn.func 79) #[] #[.pointer (some ⟨B1, 0, none⟩)], .int .i64 x.1, entV x.2, undef, undef, undef, undef, undef], defers := [] }
set_option maxRecDepth 100000 in
set_option maxHeartbeats 4000000 in
theorem keys1_L (n : Nat) (hn : 6 ≤ n) (gb g s base : Nat) (T : List (Int × Ent)) (ch : Int) (v : Value) (Fx : Nat → Prop) (tb : World → Option Nat) (B0 : Nat) (hloc : Loc B0 tb) (w : World) (hB0 : B0 ≤ w.heap.size)
    (hbox : w.heap[gb]? = some (.cells #[.pointer (some ⟨g, 0, none⟩)] 23 (0, 0))) (h : DiI w base g s T ch v) (hT : T.length ≤ 900) (hs : Rise T) (hok : ∀ x ∈ T, 0 ≤ x.1 ∧ x.1 ≤ 16777215)
    (hF : ∀ k, Fx k → k < w.heap.size) (htl : ∀ k, tb w = some k → k < w.heap.size) :
    SeqL n Try.prog 63 #[.pointer (some ⟨gb, 0, none⟩)] encK (Kq Fx tb) (fun ys => ys = T.map keyI) (fun pre => pre <+: T.map keyI) T.length w := by
  intro l J Jx W hW hJ hJx hY h0
  have hba : Below W.heap.size W (W.alloc (.cells #[.func (.yield l) #[] #[]] 110)) := (Below.refl _ _).alloc (Nat.le_refl _) _
  have hJ1 : J [] (W.alloc (.cells #[.func (.yield l) #[] #[]] 110)) := hJ.alloc _ h0
  have hyx := heap_alloc_new W (.cells #[.func (.yield l) #[] #[]] 110)
  have hsz : (W.alloc (.cells #[.func (.yield l) #[] #[]] 110)).heap.size = W.heap.size + 1 := by simp
  have hgl := (Array.getElem?_eq_some_iff.1 hbox).1
  have hWs := hW.size
  have HS := Lib.hid (fun x (hx : Below (W.alloc (.cells #[.func (.yield l) #[] #[]] 110)).heap.size (W.alloc (.cells #[.func (.yield l) #[] #[]] 110)) x) => show x.cell? ⟨gb, 0, none⟩ = some (.pointer (some ⟨g, 0, none⟩)) ∧ x.cell? ⟨g, 0, none⟩ = some (.pointer (some ⟨s, 0, none⟩)) from
    ⟨by rw [cell_of_row _ _ _ _ _ _ (((kF (kF hx hba) hW).block gb hgl).trans hbox)]; rfl, (h.below (kF (kF hx hba) hW)).cells.1⟩)
  have HSH := Lib.hid (fun x (hx : Below (W.alloc (.cells #[.func (.yield l) #[] #[]] 110)).heap.size (W.alloc (.cells #[.func (.yield l) #[] #[]] 110)) x) => (h.below (kF (kF hx hba) hW)).sh)
  have hpl := h.lt
  have HSEQ := Lib.hid (fun (B1 : Nat) (x : World) (hx : Below (W.alloc (.cells #[.func (.yield l) #[] #[]] 110)).heap.size (W.alloc (.cells #[.func (.yield l) #[] #[]] 110)) x) (hb1 : x.heap[B1]? = some (.cells #[.pointer (some ⟨s, 0, none⟩)] 66 (0, 0))) =>
    all1_G (n - 1) (by omega) B1 (some ⟨s, 0, none⟩) T (by omega) Fx tb B0 hloc x (by have := hx.size; omega) hb1
      (fun y hy => lenE y base s T.length (fe T) v ((HSH.out x hx).below hy))
      (fun y hy => partE y base s T.length (fe T) v ((HSH.out x hx).below hy) (by omega) (fe_one T))
      (fun k hk => by have := hF k hk; have := hx.size; omega) (fun k hk => by rw [hloc w x fun k hk => (kF (kF hx hba) hW).block k (by omega)] at hk; have := htl k hk; have := hx.size; omega))
  have htV : ∀ X, Below W.heap.size W X → tb X = tb w := fun X hX => hloc _ _ fun k hk => (kF hX hW).block k (by omega)
  have HYB := Lib.hid hyx
  clear h hok hbox hs hyx HSH
  refine callsIn_of_wp_marks Try.func63 rfl trivial ?_ rfl
  simp only [Try.ntmps63, List.size_toArray, List.length_cons, List.length_nil, Nat.reduceAdd, Nat.reduceSub, Array.replicate_succ, Array.replicate_zero, List.push_toArray, List.append_toArray, List.nil_append, List.cons_append]
  obtain ⟨c0, c1⟩ := HS.out _ (Below.refl _ _)
  have HBA := Lib.hid hba
  have HJ1 := Lib.hid hJ1
  have HHY := Lib.hid hY
  clear hba hJ1 hY h0
  gi_wp2_with fail
  generalize W.alloc (.cells #[.func (.yield l) #[] #[]] 110) = V at HS HSEQ HYB HBA HJ1 hsz c0 c1 ⊢
  refine ⟨trivial, fun h => (by cases h), ?_⟩
  refine (callsIn_wide.2 (all_any _ _)).mono ?_
  rintro e w2 ⟨rfl, rfl⟩
  have hb2 : Below V.heap.size V (V.alloc (.cells #[.pointer (some ⟨s, 0, none⟩)] 66)) := kA (Below.refl _ _) _
  have HB2 := Lib.hid hb2
  have HX1 := Lib.hid (heap_alloc_new V (.cells #[.pointer (some ⟨s, 0, none⟩)] 66))
  have HSQ := Lib.hid (HSEQ.out V.heap.size _ hb2 HX1.out)
  clear hb2 c0 c1
  gi_wp2_with fail
  generalize V.alloc (.cells #[.pointer (some ⟨s, 0, none⟩)] 66) = w2 at HB2 HX1 HSQ ⊢
  rw [hsz] at HX1 HSQ
  have hs2 : W.heap.size + 1 ≤ w2.heap.size := by have := HB2.out.size; omega
  have hB2 : B0 ≤ w2.heap.size := by omega
  have HW2 : Hid (Below W.heap.size W w2) := Lib.hid (HBA.out.trans (HB2.out.mono (by omega)))
  have htw := htV w2 HW2.out
  have h00 : KeyI J l W.heap.size w2.heap.size tb [] w2 := ⟨hJ [] V w2 none HJ1.out (grown_below none HB2.out) (fun r e => by cases e), (HB2.out.block _ (by omega)).trans HYB.out, fun e => by rw [htw] at e; have := htl _ e; omega, Nat.le_refl _⟩
  refine range_L (by omega) (gf := 79) (lb := #[.pointer (some ⟨W.heap.size + 1, 0, none⟩)]) rfl (enters_of Try.func79 (by kernel_rfl) rfl) HSQ.out kq_t (fun X k o o' hk ho hc _ => kq_put hloc (by omega) ho hc) (Below.refl _ _) (fun _ => rfl)
    (KeyI J l W.heap.size w2.heap.size tb) (KeyX Jx)
    (fun (s : List (Int × Ent)) X Y row ⟨h1, h2, h3, h4⟩ hg hr => ⟨own_more hJ (by omega) _ X Y row h1 hg hr, own_heap (β := Unit) W.heap.size w2.heap.size _ (by omega) () X Y row h2 hg hr,
      fun e => h3 (by rw [← e]; exact (hloc X Y fun k hk => hg.block k (by omega) (fun e => by have := (hr k e.symm).1; omega)).symm), Nat.le_trans h4 hg.size⟩)
    (fun c s X Y row ⟨h1, h2⟩ hg hr => ⟨h1, own_more hJx (by omega) _ X Y row h2 hg hr⟩)
    h00 (KeyA l W.heap.size gb g s (W.heap.size + 1)) ?assign ?body ?done ?stop
  case assign =>
    rintro lp ⟨xn, E⟩ X K hK
    dsimp only [encP, KeyA] at hK ⊢
    gi_wp2
    exact hK
  case body =>
    rintro lp pre ⟨xn, E⟩ X ⟨hJX, hY0, htY, hsz2⟩ hlen
    have hwl : W.heap.size < X.heap.size := (Array.getElem?_eq_some_iff.1 hY0).1
    have HN := Lib.hid (name_any xn)
    have HSB := Lib.hid (show keyI (xn, E) = (aN xn, bN xn) from rfl)
    generalize aN xn = an at *
    generalize bN xn = bn at *
    have c3 : X.cell? ⟨W.heap.size, 0, none⟩ = some (.func (.yield l) #[] #[]) := by rw [cell_of_row _ _ _ _ _ _ hY0]; rfl
    dsimp only [KeyA]
    gi_wp2_with fail
    refine wpIn_region_any (by kernel_rfl) ?_
    change wpAnyIn _ _ _ _ _ _ _ _ _ (World.drew _)
    refine wpAnyIn_ready (rs := [0, 1]) (by kernel_rfl) (by simp) ?_
    refine AllReadyIn.cons rfl (fun K hK => ?_) (AllReadyIn.cons rfl (fun K hK => ?_) AllReadyIn.nil)
    · go_simp
      refine hK _ _ ?_
      clear hK K
      refine wpAnyIn_ready (rs := [1]) (by kernel_rfl) (by simp) ?_
      refine AllReadyIn.cons rfl (fun K hK => ?_) AllReadyIn.nil
      go_simp
      refine hK _ _ ?_
      clear hK K
      refine wpAnyIn_ready (rs := [2]) (by kernel_rfl) (by simp) ?_
      refine AllReadyIn.cons rfl (fun K hK => ?_) AllReadyIn.nil
      go_simp
      gi_wp2_with fail
      refine ⟨trivial, fun h => (by cases h), ?_⟩
      refine (CallsIn.inRound lp (callsIn_wide.2 (HN.out _))).mono ?_
      rintro e X2 ⟨rfl, hb1⟩
      have hb2 : Below X.heap.size X X2 := kF hb1 (kD X)
      refine hK _ _ ?_
      clear hK K hb1
      have hY2 := (hb2.block _ hwl).trans hY0
      have hJ2 : J (pre.map keyI) X2 := hJ _ X _ none hJX (grown_below none hb2) (fun r e => by cases e)
      have hkf2 : KeepsFrom w2.heap.size X X2 := ⟨hb2.size, fun k o _ hk _ => (hb2.block k (Array.getElem?_eq_some_iff.1 hk).1).trans hk⟩
      have hkq2 : Kq Fx tb X X2 := kq_below hloc (by omega) hb2
      have htY2 : tb X2 ≠ some W.heap.size := fun e => htY (by rw [← e]; exact (hloc X _ fun k hk => hb2.block k (by omega)).symm)
      have hsx : w2.heap.size ≤ X2.heap.size := Nat.le_trans hsz2 hb2.size
      have HY2 := Lib.hid hY2
      have HKF := Lib.hid hkf2
      have HKQ := Lib.hid hkq2
      have HTY := Lib.hid htY2
      obtain ⟨fn, tmps, assign, body, hy, hRd⟩ := yield_any (m' := n - 1 - 1 - 1) (l2 := lp) (HHY.out (pre.map keyI) (an, bn) X2 hJ2 (by rw [List.length_map]; exact hlen))
      have HRD := Lib.hid hRd
      dsimp only [encK] at hy
      clear hY2 hJ2 hkf2 hkq2 htY2 hRd hJX hY0 htY hb2
      refine wpAnyIn_ready (rs := [3]) (by kernel_rfl) (by simp) ?_
      refine AllReadyIn.cons rfl (fun K hK => ?_) AllReadyIn.nil
      go_simp
      gi_wp2_with fail
      refine ⟨fun h => (by cases h), HRD.out.mono ?_⟩
      rintro e X3 ⟨hkf, (⟨rfl, hJ3, hk3⟩ | ⟨rfl, hJx3⟩)⟩
      · have fin : KeepsFrom w2.heap.size X X3 ∧ Kq Fx tb X X3 ∧ KeyI J l W.heap.size w2.heap.size tb (pre ++ [(xn, E)]) X3 :=
          ⟨⟨Nat.le_trans HKF.out.size hkf.size, fun k o h1 h2 h3 => hkf.same k o (by omega) (HKF.out.same k o h1 h2 h3) h3⟩, kq_t HKQ.out hk3, by rw [List.map_append, List.map_singleton, HSB.out]; exact hJ3,
            hk3.heap HY2.out (fun e => by have := hF _ e; omega) HTY.out, hk3.not (Array.getElem?_eq_some_iff.1 HY2.out).1 HTY.out, Nat.le_trans hsx hk3.size⟩
        have HFI := Lib.hid fin
        clear fin hkf hk3 hJ3
        refine hK _ _ ?_
        clear hK K
        refine wpAnyIn_ready (rs := [4]) (by kernel_rfl) (by simp) ?_
        refine AllReadyIn.cons rfl (fun K hK => ?_) AllReadyIn.nil
        go_simp
        refine hK _ _ ?_
        clear hK K
        refine wpAnyIn_done (by kernel_rfl) ?_ _
        gi_wp2
        exact HFI.out
      · have fin : KeepsFrom w2.heap.size X X3 ∧ KeyX Jx .ret (pre ++ [(xn, E)]) X3 :=
          ⟨⟨Nat.le_trans HKF.out.size hkf.size, fun k o h1 h2 h3 => hkf.same k o (by omega) (HKF.out.same k o h1 h2 h3) h3⟩, rfl, by rw [List.map_append, List.map_singleton, HSB.out]; exact hJx3⟩
        have HFI := Lib.hid fin
        clear fin hkf hJx3
        refine hK _ _ ?_
        clear hK K
        refine wpAnyIn_ready (rs := [4]) (by kernel_rfl) (by simp) ?_
        refine AllReadyIn.cons rfl (fun K hK => ?_) AllReadyIn.nil
        go_simp
        refine hK _ _ ?_
        clear hK K
        refine wpAnyIn_done (by kernel_rfl) ?_ _
        gi_wp2
        exact HFI.out
    · go_simp
      refine hK _ _ ?_
      clear hK K
      refine wpAnyIn_ready (rs := [0, 2]) (by kernel_rfl) (by simp) ?_
      refine AllReadyIn.cons rfl (fun K hK => ?_) (AllReadyIn.cons rfl (fun K hK => ?_) AllReadyIn.nil)
      · go_simp
        refine hK _ _ ?_
        clear hK K
        refine wpAnyIn_ready (rs := [2]) (by kernel_rfl) (by simp) ?_
        refine AllReadyIn.cons rfl (fun K hK => ?_) AllReadyIn.nil
        go_simp
        gi_wp2_with fail
        refine ⟨trivial, fun h => (by cases h), ?_⟩
        refine (CallsIn.inRound lp (callsIn_wide.2 (HN.out _))).mono ?_
        rintro e X2 ⟨rfl, hb1⟩
        have hb2 : Below X.heap.size X X2 := kF hb1 (kD X)
        refine hK _ _ ?_
        clear hK K hb1
        have hY2 := (hb2.block _ hwl).trans hY0
        have hJ2 : J (pre.map keyI) X2 := hJ _ X _ none hJX (grown_below none hb2) (fun r e => by cases e)
        have hkf2 : KeepsFrom w2.heap.size X X2 := ⟨hb2.size, fun k o _ hk _ => (hb2.block k (Array.getElem?_eq_some_iff.1 hk).1).trans hk⟩
        have hkq2 : Kq Fx tb X X2 := kq_below hloc (by omega) hb2
        have htY2 : tb X2 ≠ some W.heap.size := fun e => htY (by rw [← e]; exact (hloc X _ fun k hk => hb2.block k (by omega)).symm)
        have hsx : w2.heap.size ≤ X2.heap.size := Nat.le_trans hsz2 hb2.size
        have HY2 := Lib.hid hY2
        have HKF := Lib.hid hkf2
        have HKQ := Lib.hid hkq2
        have HTY := Lib.hid htY2
        obtain ⟨fn, tmps, assign, body, hy, hRd⟩ := yield_any (m' := n - 1 - 1 - 1) (l2 := lp) (HHY.out (pre.map keyI) (an, bn) X2 hJ2 (by rw [List.length_map]; exact hlen))
        have HRD := Lib.hid hRd
        dsimp only [encK] at hy
        clear hY2 hJ2 hkf2 hkq2 htY2 hRd hJX hY0 htY hb2
        refine wpAnyIn_ready (rs := [3]) (by kernel_rfl) (by simp) ?_
        refine AllReadyIn.cons rfl (fun K hK => ?_) AllReadyIn.nil
        go_simp
        gi_wp2_with fail
        refine ⟨fun h => (by cases h), HRD.out.mono ?_⟩
        rintro e X3 ⟨hkf, (⟨rfl, hJ3, hk3⟩ | ⟨rfl, hJx3⟩)⟩
        · have fin : KeepsFrom w2.heap.size X X3 ∧ Kq Fx tb X X3 ∧ KeyI J l W.heap.size w2.heap.size tb (pre ++ [(xn, E)]) X3 :=
            ⟨⟨Nat.le_trans HKF.out.size hkf.size, fun k o h1 h2 h3 => hkf.same k o (by omega) (HKF.out.same k o h1 h2 h3) h3⟩, kq_t HKQ.out hk3, by rw [List.map_append, List.map_singleton, HSB.out]; exact hJ3,
              hk3.heap HY2.out (fun e => by have := hF _ e; omega) HTY.out, hk3.not (Array.getElem?_eq_some_iff.1 HY2.out).1 HTY.out, Nat.le_trans hsx hk3.size⟩
          have HFI := Lib.hid fin
          clear fin hkf hk3 hJ3
          refine hK _ _ ?_
          clear hK K
          refine wpAnyIn_ready (rs := [4]) (by kernel_rfl) (by simp) ?_
          refine AllReadyIn.cons rfl (fun K hK => ?_) AllReadyIn.nil
          go_simp
          refine hK _ _ ?_
          clear hK K
          refine wpAnyIn_done (by kernel_rfl) ?_ _
          gi_wp2
          exact HFI.out
        · have fin : KeepsFrom w2.heap.size X X3 ∧ KeyX Jx .ret (pre ++ [(xn, E)]) X3 :=
            ⟨⟨Nat.le_trans HKF.out.size hkf.size, fun k o h1 h2 h3 => hkf.same k o (by omega) (HKF.out.same k o h1 h2 h3) h3⟩, rfl, by rw [List.map_append, List.map_singleton, HSB.out]; exact hJx3⟩
          have HFI := Lib.hid fin
          clear fin hkf hJx3
          refine hK _ _ ?_
          clear hK K
          refine wpAnyIn_ready (rs := [4]) (by kernel_rfl) (by simp) ?_
          refine AllReadyIn.cons rfl (fun K hK => ?_) AllReadyIn.nil
          go_simp
          refine hK _ _ ?_
          clear hK K
          refine wpAnyIn_done (by kernel_rfl) ?_ _
          gi_wp2
          exact HFI.out
      · go_simp
        gi_wp2_with fail
        refine ⟨trivial, fun h => (by cases h), ?_⟩
        refine (CallsIn.inRound lp (callsIn_wide.2 (HN.out _))).mono ?_
        rintro e X2 ⟨rfl, hb1⟩
        have hb2 : Below X.heap.size X X2 := kF hb1 (kD X)
        refine hK _ _ ?_
        clear hK K hb1
        have c4 : X2.cell? ⟨W.heap.size, 0, none⟩ = some (.func (.yield l) #[] #[]) := by rw [cell_of_row _ _ _ _ _ _ ((hb2.block _ hwl).trans hY0)]; rfl
        refine wpAnyIn_ready (rs := [0]) (by kernel_rfl) (by simp) ?_
        refine AllReadyIn.cons rfl (fun K hK => ?_) AllReadyIn.nil
        go_simp
        refine hK _ _ ?_
        clear hK K
        have hY2 := (hb2.block _ hwl).trans hY0
        have hJ2 : J (pre.map keyI) X2 := hJ _ X _ none hJX (grown_below none hb2) (fun r e => by cases e)
        have hkf2 : KeepsFrom w2.heap.size X X2 := ⟨hb2.size, fun k o _ hk _ => (hb2.block k (Array.getElem?_eq_some_iff.1 hk).1).trans hk⟩
        have hkq2 : Kq Fx tb X X2 := kq_below hloc (by omega) hb2
        have htY2 : tb X2 ≠ some W.heap.size := fun e => htY (by rw [← e]; exact (hloc X _ fun k hk => hb2.block k (by omega)).symm)
        have hsx : w2.heap.size ≤ X2.heap.size := Nat.le_trans hsz2 hb2.size
        have HY2 := Lib.hid hY2
        have HKF := Lib.hid hkf2
        have HKQ := Lib.hid hkq2
        have HTY := Lib.hid htY2
        obtain ⟨fn, tmps, assign, body, hy, hRd⟩ := yield_any (m' := n - 1 - 1 - 1) (l2 := lp) (HHY.out (pre.map keyI) (an, bn) X2 hJ2 (by rw [List.length_map]; exact hlen))
        have HRD := Lib.hid hRd
        dsimp only [encK] at hy
        clear hY2 hJ2 hkf2 hkq2 htY2 hRd hJX hY0 htY hb2
        refine wpAnyIn_ready (rs := [3]) (by kernel_rfl) (by simp) ?_
        refine AllReadyIn.cons rfl (fun K hK => ?_) AllReadyIn.nil
        go_simp
        gi_wp2_with fail
        refine ⟨fun h => (by cases h), HRD.out.mono ?_⟩
        rintro e X3 ⟨hkf, (⟨rfl, hJ3, hk3⟩ | ⟨rfl, hJx3⟩)⟩
        · have fin : KeepsFrom w2.heap.size X X3 ∧ Kq Fx tb X X3 ∧ KeyI J l W.heap.size w2.heap.size tb (pre ++ [(xn, E)]) X3 :=
            ⟨⟨Nat.le_trans HKF.out.size hkf.size, fun k o h1 h2 h3 => hkf.same k o (by omega) (HKF.out.same k o h1 h2 h3) h3⟩, kq_t HKQ.out hk3, by rw [List.map_append, List.map_singleton, HSB.out]; exact hJ3,
              hk3.heap HY2.out (fun e => by have := hF _ e; omega) HTY.out, hk3.not (Array.getElem?_eq_some_iff.1 HY2.out).1 HTY.out, Nat.le_trans hsx hk3.size⟩
          have HFI := Lib.hid fin
          clear fin hkf hk3 hJ3
          refine hK _ _ ?_
          clear hK K
          refine wpAnyIn_ready (rs := [4]) (by kernel_rfl) (by simp) ?_
          refine AllReadyIn.cons rfl (fun K hK => ?_) AllReadyIn.nil
          go_simp
          refine hK _ _ ?_
          clear hK K
          refine wpAnyIn_done (by kernel_rfl) ?_ _
          gi_wp2
          exact HFI.out
        · have fin : KeepsFrom w2.heap.size X X3 ∧ KeyX Jx .ret (pre ++ [(xn, E)]) X3 :=
            ⟨⟨Nat.le_trans HKF.out.size hkf.size, fun k o h1 h2 h3 => hkf.same k o (by omega) (HKF.out.same k o h1 h2 h3) h3⟩, rfl, by rw [List.map_append, List.map_singleton, HSB.out]; exact hJx3⟩
          have HFI := Lib.hid fin
          clear fin hkf hJx3
          refine hK _ _ ?_
          clear hK K
          refine wpAnyIn_ready (rs := [4]) (by kernel_rfl) (by simp) ?_
          refine AllReadyIn.cons rfl (fun K hK => ?_) AllReadyIn.nil
          go_simp
          refine hK _ _ ?_
          clear hK K
          refine wpAnyIn_done (by kernel_rfl) ?_ _
          gi_wp2
          exact HFI.out
  case stop =>
    rintro D cc pre X hD hSp ⟨rfl, hJq⟩ hK
    have hp : pre.map keyI <+: T.map keyI := by
      obtain ⟨r, hr⟩ := hSp
      exact ⟨r.map keyI, by rw [← hr, List.map_append]⟩
    have hXe := (own_more hJx (by omega : W.heap.size ≤ w2.heap.size)).putObj (.deferred none) hJq hD hK rfl
    gi_wp2
    exact ⟨by simp, .inl ⟨_, _, rfl, run_takeDeferred hK, _, results_none rfl _ _ _, ⟨_, rfl⟩, .inr ⟨_, hp, hXe⟩⟩⟩
  case done =>
    rintro D ys X hD rfl ⟨hJX, -⟩ hK
    have hXe := (own_more hJ (by omega : W.heap.size ≤ w2.heap.size)).putObj (.deferred none) hJX hD hK rfl
    gi_wp2
    exact ⟨by simp, .inl ⟨_, _, rfl, run_takeDeferred hK, _, results_none rfl _ _ _, ⟨_, rfl⟩, .inl ⟨_, rfl, hXe⟩⟩⟩
end Go.Proofs.Ytmfjndkopkjchaa
