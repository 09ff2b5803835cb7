/- The walk of MailboxOrder. -/
import Derived.Test.YtgnfohncgfgecaaMm
import Derived.Test.YtgnfohncgfgecaaMj
namespace Go.Proofs.Ytgnfohncgfgecaa
open Go.RowKit

theorem putS_cases (x : Ltr) (ls : List Ltr) (lost : Int) : ((putS x ls lost).2.2 = 0 ∧ (putS x ls lost).1 = insL x ls) ∨ ((putS x ls lost).2.2 ≠ 0 ∧ (putS x ls lost).1 = ls) := by
  unfold putS
  by_cases hc : chk x.id x.r x.n x.d = 0
  · rw [if_neg (fun hn => hn hc)]
    by_cases hf : cntL x.s ls = 8
    · rw [if_pos hf]; exact .inr ⟨by show (6 : Int) ≠ 0; decide, rfl⟩
    · rw [if_neg hf]; exact .inl ⟨rfl, rfl⟩
  · rw [if_pos hc]; exact .inr ⟨hc, rfl⟩
theorem box_best0 (w0 w : World) (g : Nat) (lost : Int) (h : BoxAt w0 g [] lost w) :
    Calls Try.prog 20 #[.pointer (some ⟨g, 0, none⟩)] w fun e w' => e = .returned (.tuple #[.agg #[.int .i64 0, .bool false, .int .i64 0, .int .u8 0, .int .u8 0, .int .u8 0, .int .u8 0, .int .u8 0, .int .u8 0, .int .u8 0, .int .u8 0], .bool false]) ∧ BoxAt w0 g [] lost w' := by
  obtain ⟨v, hv⟩ := h.box
  refine (best_none w w0.heap.size g lost v hv).mono ?_
  rintro e w' ⟨rfl, hb⟩
  exact ⟨rfl, h.step hb⟩
theorem eqD_same (d : Nat → Int) : eqD d d = true := by simp [eqD]
theorem ltr_f_one (x : Ltr) : ∀ u ∈ x.f, u.oneCell' = true := by simp [Ltr.f, Value.oneCell']
set_option maxRecDepth 100000 in
set_option maxHeartbeats 16000000 in
theorem order_walk (A : Option Addr) (n c : Nat) (fs : Nat → Ltr) (w : World) (h : Frs w w.heap.size A n c fs) :
    Calls Try.prog 4 #[.slice A n c] w fun e w' => e = .returned (.bool true) ∧ Below w.heap.size w w' := by
  have hcap := h.cap
  have hmax := h.max
  simp only [maxLen] at hmax
  have HA := Lib.hid h
  clear h
  by_cases hn : n ≤ 20
  · have hmn : min (n : Int) 20 = (n : Int) := by omega
    go_enter Try.func4, Try.ntmps4
    go_wp2_with fail
    refine (box_new w w (Below.refl _ _)).mono ?_
    rintro e w1 ⟨rfl, hx, hb1⟩
    have hgl := hx.lt
    have hx1 := hx.step ((Below.refl w1.heap.size w1).alloc (Nat.le_refl _) (.cells #[] 30))
    have ho1 : (w1.alloc (.cells #[] 30)).ownsRow w.heap.size 30 11 (.slice (some ⟨w1.heap.size, 0, none⟩) 0 0) 0 (flatF []) := ⟨rfl, .inr ⟨_, 0, #[], rfl, hb1.size, heap_alloc_new w1 _, Nat.le_refl _, by simp [maxLen], by simp, rfl⟩⟩
    have HX1 := Lib.hid hx1
    have HO1 := Lib.hid ho1
    have HN1 := Lib.hid (show (Value.slice (some ⟨w1.heap.size, 0, none⟩) 0 0).ownBlock ≠ some w.heap.size from fun e => by simp [Value.ownBlock] at e; omega)
    clear hx hx1 ho1 hb1
    generalize hg : w.heap.size = g at HX1 HN1 hgl ⊢
    have HG := Lib.hid hg
    clear hg
    go_wp2_with fail
    go_loopw [4, 5] (fun tv i wr => ∃ (j : Nat) (ls : List Ltr) (lost : Int) (T : List Ltr), j ≤ n ∧ i = .int .i64 j ∧ T.length ≤ j ∧ lost ≤ j ∧ wr.ownsRow w.heap.size 30 11 tv T.length (flatF T) ∧ Hid (tv.ownBlock ≠ some g) ∧ Hid (BoxAt w g ls lost wr) ∧ Hid (srt ls ∧ (∀ q, fil q ls = fil q T) ∧ ls.length = T.length)) (fun _ i _ => n - (intOf i).toNat)
    case atStart => exact ⟨0, [], 0, [], Nat.zero_le _, rfl, Nat.le_refl _, by omega, HO1.out, HN1, HX1, Lib.hid ⟨List.Pairwise.nil, fun _ => rfl, rfl⟩⟩
    case round =>
      obtain ⟨j, ls, lost, T, hj, rfl, hTj, hlj, hown, hne, hx, hm⟩ := hrel
      by_cases hlt : j < n
      · obtain ⟨b, off, rfl, hbb, hcc⟩ := HA.out.cells (by omega)
        have hcc0 := hcc j (by omega)
        generalize fs j = y at hcc0
        obtain ⟨yi, yr, yn, yd, ys⟩ := y
        have HC0 := Lib.hid hcc0
        obtain ⟨c0, c1, c2, c3, c4, c5, c6, c7, c8, c9, c10⟩ := hcc0.below hx.out.below hbb
        clear hcc0
        dsimp only at c0 c1 c2 c3 c4 c5 c6 c7 c8 c9 c10
        have hp := box_put w wr g ⟨yi, yr, yn, yd, ((j : Int) % 2 == 1)⟩ ls lost hx.out (by omega)
        obtain ⟨-, -, q3, q4⟩ := putS_cnt ⟨yi, yr, yn, yd, ((j : Int) % 2 == 1)⟩ ls lost
        have hcs := putS_cases ⟨yi, yr, yn, yd, ((j : Int) % 2 == 1)⟩ ls lost
        dsimp only at hp q3 q4
        generalize putS ⟨yi, yr, yn, yd, ((j : Int) % 2 == 1)⟩ ls lost = P at *
        obtain ⟨ls', lost', q⟩ := P
        dsimp only at hp q3 q4 hcs
        have HP := Lib.hid hp
        have hjI : (j : Int) < (n : Int) := by omega
        have HOW := Lib.hid hown
        clear hp hcc hown
        by_cases hq : q = 0
        · have hls : ls' = insL ⟨yi, yr, yn, yd, ((j : Int) % 2 == 1)⟩ ls := by
            rcases hcs with ⟨_, h⟩ | ⟨h, _⟩
            · exact h
            · exact absurd hq h
          have hm2 : srt ls' ∧ (∀ q, fil q ls' = fil q (T ++ [⟨yi, yr, yn, yd, ((j : Int) % 2 == 1)⟩])) ∧ ls'.length = (T ++ [⟨yi, yr, yn, yd, ((j : Int) % 2 == 1)⟩] : List Ltr).length := by
            obtain ⟨m1, m2, m3⟩ := hm.out
            refine ⟨hls ▸ insL_srt _ _ m1, fun q => ?_, by rw [hls, insL_len, List.length_append, m3]; rfl⟩
            rw [hls, insL_fil _ _ _ m1, fil_app, m2, fil_one]
          have HM2 := Lib.hid hm2
          clear hm2 hls hcs hm
          subst hq
          go_wp2_with fail
          refine HP.out.mono ?_
          rintro e w2 ⟨rfl, hx2, hk2⟩
          have hown2 := own_kept HOW.out hk2 hne.out
          obtain ⟨e0, e1, e2, e3, e4, e5, e6, e7, e8, e9, e10⟩ : FrCells w2 b off j ⟨yi, yr, yn, yd, ys⟩ := HC0.out.below hx2.below hbb
          have HX2 := Lib.hid hx2
          have hsz2 := hx2.below.size
          clear hx2 hk2 c0 c1 c2 c3 c4 c5 c6 c7 c8 c9 c10
          dsimp only at e0 e1 e2 e3 e4 e5 e6 e7 e8 e9 e10
          go_wp2_with (at_builtin; refine wpList_elem rfl (.tmp 38) (.tmp 43) rfl Try.underlying48 info_fr rfl (by omega) (by omega) rfl hown2 rfl rfl rfl (ltr_f_one ⟨yi, yr, yn, yd, ((j : Int) % 2 == 1)⟩) (by omega) hsz2 ?_; intro v' w3 hown3 hgr3 hob3)
          have HX3 := Lib.hid (HX2.out.grown hown2 (Nat.le_refl _) hgr3)
          have HNE3 : Hid (v'.ownBlock ≠ some g) := Lib.hid fun e => by
            rcases hob3 with h | h
            · exact hne.out (h ▸ e)
            · rw [h] at e; cases e; have := HX2.out.lt; omega
          exact ⟨⟨j + 1, ls', lost', T ++ [⟨yi, yr, yn, yd, ((j : Int) % 2 == 1)⟩], by omega, by go_num, by simp; omega, by omega, by rw [flatF_snoc, List.length_append]; exact hown3, HNE3, HX3, HM2⟩, by simp [intOf]; omega⟩
        · have hls : ls' = ls := by
            rcases hcs with ⟨h, _⟩ | ⟨_, h⟩
            · exact absurd h hq
            · exact h
          subst hls
          have t1 : (q == 0) = false := by simpa using hq
          clear hcs hq
          go_wp2_with fail
          refine HP.out.mono ?_
          rintro e w2 ⟨rfl, hx2, hk2⟩
          have hown2 := own_kept HOW.out hk2 hne.out
          have HX2 := Lib.hid hx2
          clear hx2 hk2 c0 c1 c2 c3 c4 c5 c6 c7 c8 c9 c10
          go_wp2_with fail
          exact ⟨⟨j + 1, ls', lost', T, by omega, by go_num, by omega, by omega, hown2, hne, HX2, hm⟩, by simp [intOf]; omega⟩
      · obtain rfl : j = n := by omega
        try simp only [show ((20 : Nat) : Int) = 20 from rfl]
        obtain ⟨m1, m2, m3⟩ := hm.out
        obtain ⟨at_, ct, rfl⟩ := own_slice hown
        have hTk : T.length ≤ 20 := by omega
        have M1 := Lib.hid m1
        have M2 := Lib.hid m2
        have M3 := Lib.hid m3
        have HT := Lib.hid hown
        have HX := Lib.hid hx.out
        have HTB := Lib.hid (fun b hb => (hown.lt b hb).2 : ∀ b, (Value.slice at_ T.length ct).ownBlock = some b → b < wr.heap.size)
        have HTC : Hid (∀ b, (Value.slice at_ T.length ct).ownBlock = some b → ∃ cs, wr.heap[b]? = some (.cells cs 30 (0, 0))) := Lib.hid fun b hb => by
          rcases hown.2 with ⟨e, _⟩ | ⟨b', cap, cur, e, _, hgg, _⟩
          · rw [e] at hb; cases hb
          · rw [e] at hb; cases hb; exact ⟨_, hgg⟩
        have HTN : Hid (∀ b, (Value.slice at_ T.length ct).ownBlock = some b → b ≠ g) := Lib.hid fun b hb e => hne.out (e ▸ hb)
        have hoG : (wr.alloc (.cells #[] 30)).ownsRow wr.heap.size 30 11 (.slice (some ⟨wr.heap.size, 0, none⟩) 0 0) 0 (flatF (ls.take 0)) := ⟨rfl, .inr ⟨_, 0, #[], rfl, Nat.le_refl _, heap_alloc_new wr _, Nat.le_refl _, by simp [maxLen], by simp, rfl⟩⟩
        have HOG := Lib.hid hoG
        have HXG := Lib.hid (hx.out.step ((Below.refl wr.heap.size wr).alloc (Nat.le_refl _) (.cells #[] 30)))
        have HTG : Hid (∀ b, (Value.slice at_ T.length ct).ownBlock = some b → (wr.alloc (.cells #[] 30)).heap[b]? = wr.heap[b]?) := Lib.hid fun b hb => heap_alloc_old wr _ b (hown.lt b hb).2
        have HNG : Hid ((Value.slice (some ⟨wr.heap.size, 0, none⟩) 0 0).ownBlock ≠ some g) := Lib.hid fun e => by simp [Value.ownBlock] at e; have := hx.out.lt; omega
        have hwz := hx.out.below.size
        clear m1 m2 m3 hown hx hm hoG
        generalize hN : T.length = N at *
        have HN := Lib.hid hN
        clear hN
        obtain ⟨wm, hwm⟩ : ∃ wm, wm = wr := ⟨_, rfl⟩
        subst hwm
        go_wp2_with fail
        go_loopw [6, 48] (fun gv i wr => ∃ j : Nat, j ≤ N ∧ i = .int .i64 j ∧ wr.ownsRow wm.heap.size 30 11 gv j (flatF (ls.take j)) ∧ Hid (gv.ownBlock ≠ some g) ∧ Hid (BoxAt w g (ls.drop j) lost wr) ∧ Hid (∀ b, (Value.slice at_ N ct).ownBlock = some b → wr.heap[b]? = wm.heap[b]?) ∧ wm.heap.size ≤ wr.heap.size) (fun _ i _ => N - (intOf i).toNat)
        case atStart => exact ⟨0, Nat.zero_le _, rfl, HOG.out, HNG, HXG, HTG, by simp⟩
        case round =>
          obtain ⟨j, hj, rfl, hown, hne2, hx, htg, hsz⟩ := hrel
          by_cases hlt : j < N
          · obtain ⟨x, hxj⟩ : ∃ x, ls[j]? = some x := ⟨_, List.getElem?_eq_getElem (by rw [M3.out]; exact hlt)⟩
            have hdr : ls.drop j = x :: ls.drop (j + 1) := by
              obtain ⟨hl, e⟩ := List.getElem?_eq_some_iff.1 hxj
              rw [List.drop_eq_getElem_cons hl, e]
            have htk := take_snoc' hxj
            have hx' := hx.out
            rw [hdr] at hx'
            have htake := box_take w wr g x (ls.drop (j + 1)) lost hx'
            have HTK := Lib.hid htk
            have HTA := Lib.hid htake
            have HOW := Lib.hid hown
            have hgx := hx'.lt
            have hjI : (j : Int) < (N : Int) := by omega
            clear hxj hdr htk hx' htake hown
            go_wp2_with fail
            refine HTA.out.mono ?_
            rintro e w2 ⟨rfl, hx2, hk2⟩
            have hba : Below w2.heap.size w2 (w2.alloc (.cells #[.int .i64 x.id, .bool x.r, .int .i64 x.n, .int .u8 (x.d 0), .int .u8 (x.d 1), .int .u8 (x.d 2), .int .u8 (x.d 3), .int .u8 (x.d 4), .int .u8 (x.d 5), .int .u8 (x.d 6), .int .u8 (x.d 7)] 30)) := (Below.refl _ _).alloc (Nat.le_refl _) _
            have hown2 := own_kept HOW.out hk2 hne2.out
            have hown3 := hown2.alloc (.cells #[.int .i64 x.id, .bool x.r, .int .i64 x.n, .int .u8 (x.d 0), .int .u8 (x.d 1), .int .u8 (x.d 2), .int .u8 (x.d 3), .int .u8 (x.d 4), .int .u8 (x.d 5), .int .u8 (x.d 6), .int .u8 (x.d 7)] 30)
            have hx3 := hx2.step hba
            have hfx := frame_new w2 x.id x.n x.r x.d
            obtain ⟨c0, c1, c2, c3, c4, c5, c6, c7, c8, c9, c10⟩ := hfx.cells
            have hsz2 : wm.heap.size ≤ w2.heap.size := Nat.le_trans hsz hk2.1
            have htg2 : Hid (∀ b, (Value.slice at_ N ct).ownBlock = some b → (w2.alloc (.cells #[.int .i64 x.id, .bool x.r, .int .i64 x.n, .int .u8 (x.d 0), .int .u8 (x.d 1), .int .u8 (x.d 2), .int .u8 (x.d 3), .int .u8 (x.d 4), .int .u8 (x.d 5), .int .u8 (x.d 6), .int .u8 (x.d 7)] 30)).heap[b]? = wm.heap[b]?) := Lib.hid fun b hb => by
              rw [heap_alloc_old w2 _ b (by have := HTB.out b hb; omega), ← htg.out b hb]
              obtain ⟨cs, hc⟩ := HTC.out b hb
              exact hk2.2 b cs _ _ ((htg.out b hb).trans hc) (by decide) (HTN.out b hb)
            have hsz3 : wm.heap.size ≤ (w2.alloc (.cells #[.int .i64 x.id, .bool x.r, .int .i64 x.n, .int .u8 (x.d 0), .int .u8 (x.d 1), .int .u8 (x.d 2), .int .u8 (x.d 3), .int .u8 (x.d 4), .int .u8 (x.d 5), .int .u8 (x.d 6), .int .u8 (x.d 7)] 30)).heap.size := Nat.le_trans hsz2 hba.size
            have HX3 := Lib.hid hx3
            clear hx2 hk2 hba hown2 hx3 hfx HTA HOW hsz2
            go_wp2_with (at_builtin; refine wpList_elem rfl (.tmp 57) (.tmp 59) rfl Try.underlying48 info_fr rfl (by omega) (by omega) rfl hown3 rfl (by simp) rfl (ltr_f_one x) (by omega) hsz3 ?_; intro v' w4 hown4 hgr4 hob4)
            generalize w2.alloc (.cells #[.int .i64 x.id, .bool x.r, .int .i64 x.n, .int .u8 (x.d 0), .int .u8 (x.d 1), .int .u8 (x.d 2), .int .u8 (x.d 3), .int .u8 (x.d 4), .int .u8 (x.d 5), .int .u8 (x.d 6), .int .u8 (x.d 7)] 30) = w3 at *
            have HX4 := Lib.hid (HX3.out.grown hown3 hwz hgr4)
            have HNE4 : Hid (v'.ownBlock ≠ some g) := Lib.hid fun e => by
              rcases hob4 with h | h
              · exact hne2.out (h ▸ e)
              · rw [h] at e; cases e; have := HX3.out.lt; omega
            have HTG4 : Hid (∀ b, (Value.slice at_ N ct).ownBlock = some b → w4.heap[b]? = wm.heap[b]?) := Lib.hid fun b hb => by
              have h1 := HTB.out b hb
              rw [← htg2.out b hb]
              exact hgr4.block b (by omega) (fun e => by have := (hown3.lt b e.symm).1; omega)
            exact ⟨⟨j + 1, by omega, by go_num, by rw [← HTK.out, flatF_snoc]; exact hown4, HNE4, HX4, HTG4, Nat.le_trans hsz3 hgr4.size⟩, by simp [intOf]; omega⟩
          · obtain rfl : j = N := by omega
            obtain ⟨ag, cg, rfl, hgl2, hfg⟩ := Frs.of_own hown
            rw [List.take_of_length_le (by rw [M3.out]; exact Nat.le_refl _)] at hfg
            obtain ⟨at2, ct2, e2, -, hft⟩ := Frs.of_own HT.out
            cases e2
            have hft2 : Frs wr wr.heap.size at_ j ct (fun i => T.getD i Ltr.none_) := ⟨hft.cap, hft.max, fun hn => by
              obtain ⟨b, off, e, hlt, hc⟩ := hft.cells hn
              subst e
              have hblk := htg.out b rfl
              have hcell : ∀ o, wr.cell? ⟨b, o, none⟩ = wm.cell? ⟨b, o, none⟩ := fun o => World.cell?_of_block (a := ⟨b, o, none⟩) hblk
              refine ⟨b, off, rfl, by omega, fun i hi => ?_⟩
              obtain ⟨k0, k1, k2, k3, k4, k5, k6, k7, k8, k9, k10⟩ := hc i hi
              exact ⟨(hcell _).trans k0, (hcell _).trans k1, (hcell _).trans k2, (hcell _).trans k3, (hcell _).trans k4, (hcell _).trans k5, (hcell _).trans k6, (hcell _).trans k7, (hcell _).trans k8, (hcell _).trans k9, (hcell _).trans k10⟩⟩
            have hxe := hx.out
            rw [List.drop_of_length_le (by rw [M3.out]; exact Nat.le_refl _)] at hxe
            have hcg := hfg.cap
            have hmg := hfg.max
            have hct := hft2.cap
            have hmt := hft2.max
            simp only [maxLen] at hmg hmt
            have HFG := Lib.hid hfg
            have HFT := Lib.hid hft2
            have HXE := Lib.hid hxe
            clear hgl2 hown hft hft2 hfg hx htg hxe HT HOG HXG HTG HNG HTB HTC HTN hne2 HX hsz hwz
            obtain ⟨W0, hW0⟩ : ∃ W0, W0 = wr := ⟨_, rfl⟩
            subst hW0
            go_wp2_with fail
            go_loopw [9] (fun i wr => ∃ p : Nat, p ≤ j ∧ i = .int .i64 ((p : Int) + 1) ∧ Hid (Below W0.heap.size W0 wr)) (fun i _ => j + 1 - (intOf i).toNat)
            case atStart => exact ⟨0, Nat.zero_le _, rfl, Lib.hid (Below.refl _ _)⟩
            case round =>
              obtain ⟨p, hp, rfl, hb⟩ := hrel
              by_cases hlt3 : p + 1 < j
              · obtain ⟨b, off, rfl, hbb, hcc⟩ := (HFG.out.below hb.out).cells (by omega)
                have hc1 := hcc p (by omega)
                have hc2 := hcc (p + 1) (by omega)
                have hle : (ls.getD p Ltr.none_).rank ≤ (ls.getD (p + 1) Ltr.none_).rank := by
                  have h := List.pairwise_iff_getElem.1 M1.out p (p + 1) (by rw [M3.out]; omega) (by rw [M3.out]; omega) (by omega)
                  rw [List.getD_eq_getElem?_getD, List.getD_eq_getElem?_getD, List.getElem?_eq_getElem (by rw [M3.out]; omega), List.getElem?_eq_getElem (by rw [M3.out]; omega)]
                  exact h
                generalize ls.getD p Ltr.none_ = x at *
                generalize ls.getD (p + 1) Ltr.none_ = y at *
                have hra : ∀ w, Calls Try.prog 19 #[.agg #[.int .i64 x.id, .bool x.r, .int .i64 x.n, .int .u8 (x.d 0), .int .u8 (x.d 1), .int .u8 (x.d 2), .int .u8 (x.d 3), .int .u8 (x.d 4), .int .u8 (x.d 5), .int .u8 (x.d 6), .int .u8 (x.d 7)]] w fun e w' => e = .returned (.int .i64 x.rank) ∧ Below w.heap.size w w' := fun w => drank_any x.id x.n x.r x.d w
                have hrb : ∀ w, Calls Try.prog 19 #[.agg #[.int .i64 y.id, .bool y.r, .int .i64 y.n, .int .u8 (y.d 0), .int .u8 (y.d 1), .int .u8 (y.d 2), .int .u8 (y.d 3), .int .u8 (y.d 4), .int .u8 (y.d 5), .int .u8 (y.d 6), .int .u8 (y.d 7)]] w fun e w' => e = .returned (.int .i64 y.rank) ∧ Below w.heap.size w w' := fun w => drank_any y.id y.n y.r y.d w
                generalize x.rank = rx at *
                generalize y.rank = ry at *
                have t1 : decide (ry < rx) = false := by simp; omega
                have hS : ∀ z, Below wr.heap.size wr z → z.cell? ⟨b, off + p * 11, none⟩ = some (.int .i64 x.id) ∧ z.cell? ⟨b, off + p * 11 + 1, none⟩ = some (.bool x.r) ∧ z.cell? ⟨b, off + p * 11 + 2, none⟩ = some (.int .i64 x.n) ∧ z.cell? ⟨b, off + p * 11 + 3, none⟩ = some (.int .u8 (x.d 0)) ∧ z.cell? ⟨b, off + p * 11 + 4, none⟩ = some (.int .u8 (x.d 1)) ∧ z.cell? ⟨b, off + p * 11 + 5, none⟩ = some (.int .u8 (x.d 2)) ∧ z.cell? ⟨b, off + p * 11 + 6, none⟩ = some (.int .u8 (x.d 3)) ∧ z.cell? ⟨b, off + p * 11 + 7, none⟩ = some (.int .u8 (x.d 4)) ∧ z.cell? ⟨b, off + p * 11 + 8, none⟩ = some (.int .u8 (x.d 5)) ∧ z.cell? ⟨b, off + p * 11 + 9, none⟩ = some (.int .u8 (x.d 6)) ∧ z.cell? ⟨b, off + p * 11 + 10, none⟩ = some (.int .u8 (x.d 7)) ∧ z.cell? ⟨b, off + (p + 1) * 11, none⟩ = some (.int .i64 y.id) ∧ z.cell? ⟨b, off + (p + 1) * 11 + 1, none⟩ = some (.bool y.r) ∧ z.cell? ⟨b, off + (p + 1) * 11 + 2, none⟩ = some (.int .i64 y.n) ∧ z.cell? ⟨b, off + (p + 1) * 11 + 3, none⟩ = some (.int .u8 (y.d 0)) ∧ z.cell? ⟨b, off + (p + 1) * 11 + 4, none⟩ = some (.int .u8 (y.d 1)) ∧ z.cell? ⟨b, off + (p + 1) * 11 + 5, none⟩ = some (.int .u8 (y.d 2)) ∧ z.cell? ⟨b, off + (p + 1) * 11 + 6, none⟩ = some (.int .u8 (y.d 3)) ∧ z.cell? ⟨b, off + (p + 1) * 11 + 7, none⟩ = some (.int .u8 (y.d 4)) ∧ z.cell? ⟨b, off + (p + 1) * 11 + 8, none⟩ = some (.int .u8 (y.d 5)) ∧ z.cell? ⟨b, off + (p + 1) * 11 + 9, none⟩ = some (.int .u8 (y.d 6)) ∧ z.cell? ⟨b, off + (p + 1) * 11 + 10, none⟩ = some (.int .u8 (y.d 7)) := fun z hz => by
                  have hb' : Below W0.heap.size W0 wr := hb.out
                  have hlt := Nat.lt_of_lt_of_le hbb hb'.size
                  obtain ⟨k0, k1, k2, k3, k4, k5, k6, k7, k8, k9, k10⟩ := hc1.below hz hlt
                  obtain ⟨m0, m1, m2, m3, m4, m5, m6, m7, m8, m9, m10⟩ := hc2.below hz hlt
                  exact ⟨k0, k1, k2, k3, k4, k5, k6, k7, k8, k9, k10, m0, m1, m2, m3, m4, m5, m6, m7, m8, m9, m10⟩
                have hw1 : IntKind.i64.wrap ((p : Int) + 1 - 1) = (p : Int) := IntWalk.i64_in _ (by omega) |>.trans (by omega)
                have hpI : (p : Int) + 1 < (j : Int) := by omega
                have hpI2 : (p : Int) < (j : Int) := by omega
                have hpI3 : (0 : Int) ≤ (p : Int) := by omega
                have hw2 : IntKind.i64.wrap (p : Int) = (p : Int) := IntWalk.i64_in _ (by omega)
                have hp1 : (0 : Int) ≤ (p : Int) + 1 := by omega
                have htn : ((p : Int) + 1).toNat = p + 1 := by omega
                have hS0 := hS wr (Below.refl _ _)
                have HS := Lib.hid hS
                have HRA := Lib.hid hra
                have HRB := Lib.hid hrb
                clear hcc hc1 hc2 hle hS hra hrb
                go_wp2_with fail
                go_region_held3 (fun w' => w'.cell? ⟨b, off + p * 11, none⟩ = some (.int .i64 x.id) ∧ w'.cell? ⟨b, off + p * 11 + 1, none⟩ = some (.bool x.r) ∧ w'.cell? ⟨b, off + p * 11 + 2, none⟩ = some (.int .i64 x.n) ∧ w'.cell? ⟨b, off + p * 11 + 3, none⟩ = some (.int .u8 (x.d 0)) ∧ w'.cell? ⟨b, off + p * 11 + 4, none⟩ = some (.int .u8 (x.d 1)) ∧ w'.cell? ⟨b, off + p * 11 + 5, none⟩ = some (.int .u8 (x.d 2)) ∧ w'.cell? ⟨b, off + p * 11 + 6, none⟩ = some (.int .u8 (x.d 3)) ∧ w'.cell? ⟨b, off + p * 11 + 7, none⟩ = some (.int .u8 (x.d 4)) ∧ w'.cell? ⟨b, off + p * 11 + 8, none⟩ = some (.int .u8 (x.d 5)) ∧ w'.cell? ⟨b, off + p * 11 + 9, none⟩ = some (.int .u8 (x.d 6)) ∧ w'.cell? ⟨b, off + p * 11 + 10, none⟩ = some (.int .u8 (x.d 7)) ∧ w'.cell? ⟨b, off + (p + 1) * 11, none⟩ = some (.int .i64 y.id) ∧ w'.cell? ⟨b, off + (p + 1) * 11 + 1, none⟩ = some (.bool y.r) ∧ w'.cell? ⟨b, off + (p + 1) * 11 + 2, none⟩ = some (.int .i64 y.n) ∧ w'.cell? ⟨b, off + (p + 1) * 11 + 3, none⟩ = some (.int .u8 (y.d 0)) ∧ w'.cell? ⟨b, off + (p + 1) * 11 + 4, none⟩ = some (.int .u8 (y.d 1)) ∧ w'.cell? ⟨b, off + (p + 1) * 11 + 5, none⟩ = some (.int .u8 (y.d 2)) ∧ w'.cell? ⟨b, off + (p + 1) * 11 + 6, none⟩ = some (.int .u8 (y.d 3)) ∧ w'.cell? ⟨b, off + (p + 1) * 11 + 7, none⟩ = some (.int .u8 (y.d 4)) ∧ w'.cell? ⟨b, off + (p + 1) * 11 + 8, none⟩ = some (.int .u8 (y.d 5)) ∧ w'.cell? ⟨b, off + (p + 1) * 11 + 9, none⟩ = some (.int .u8 (y.d 6)) ∧ w'.cell? ⟨b, off + (p + 1) * 11 + 10, none⟩ = some (.int .u8 (y.d 7)))
                  (first | exact HS.out _ (kD _) | exact HS.out _ k1 | exact HS.out _ k2)
                  (first
                    | (go_at_call 19; (with_reducible refine (HRA.out _).mono ?_); rintro e z1 ⟨rfl, hbz⟩; have k1 := kF hbz (kD wr); clear hbz)
                    | (go_at_call 19; (with_reducible refine (HRB.out _).mono ?_); rintro e z2 ⟨rfl, hbz⟩; have k2 := kF hbz k1; clear hbz))
                have HBZ := Lib.hid (hb.out.trans (k2.mono hb.out.size))
                go_wp2_with fail
                exact ⟨⟨p + 1, by omega, by go_num, HBZ⟩, by simp [intOf]; omega⟩
              · have hnl : ¬ (p : Int) + 1 < (j : Int) := by omega
                go_wp2_with fail
                go_loopw [10] (fun i wr => ∃ q : Nat, q ≤ 4096 ∧ i = .int .i64 q ∧ Hid (Below W0.heap.size W0 wr)) (fun i _ => 4096 - (intOf i).toNat)
                case atStart => exact ⟨0, Nat.zero_le _, rfl, hb⟩
                case round =>
                  clear hb
                  obtain ⟨q, hq, rfl, hb⟩ := hrel
                  by_cases hlq : q < 4096
                  · have tq : decide ((q : Int) < 4096) = true := decide_eq_true (by omega)
                    go_wp2_with fail
                    go_loopw [11, 12] (fun ai ii wr => ∃ i a : Nat, i ≤ j ∧ a ≤ j ∧ ii = .int .i64 i ∧ ai = .int .i64 a ∧ Hid (fil (q : Int) (ls.take a) = fil (q : Int) (T.take i)) ∧ Hid (Below W0.heap.size W0 wr)) (fun _ ii _ => j - (intOf ii).toNat)
                    case atStart => exact ⟨0, 0, Nat.zero_le _, Nat.zero_le _, rfl, rfl, Lib.hid rfl, hb⟩
                    case round =>
                      clear hb
                      obtain ⟨i, a, hi, ha, rfl, rfl, hF, hb⟩ := hrel
                      by_cases hli : i < j
                      · obtain ⟨b, off, rfl, hbb, hcc⟩ := (HFT.out.below hb.out).cells (by omega)
                        have hc1 := hcc i hli
                        have hy : T[i]? = some (T.getD i Ltr.none_) := by rw [List.getD_eq_getElem?_getD, List.getElem?_eq_getElem (by rw [HN.out]; exact hli)]; rfl
                        generalize hyD : T.getD i Ltr.none_ = y at hc1 hy
                        have HYD := Lib.hid hyD
                        clear hyD
                        have hra : ∀ w, Calls Try.prog 19 #[.agg #[.int .i64 y.id, .bool y.r, .int .i64 y.n, .int .u8 (y.d 0), .int .u8 (y.d 1), .int .u8 (y.d 2), .int .u8 (y.d 3), .int .u8 (y.d 4), .int .u8 (y.d 5), .int .u8 (y.d 6), .int .u8 (y.d 7)]] w fun e w' => e = .returned (.int .i64 y.rank) ∧ Below w.heap.size w w' := fun w => drank_any y.id y.n y.r y.d w
                        have HY := Lib.hid hy
                        have HC1 := Lib.hid hc1
                        have HRA := Lib.hid hra
                        obtain ⟨c0, c1, c2, c3, c4, c5, c6, c7, c8, c9, c10⟩ := hc1
                        have hiI : (i : Int) < (j : Int) := by omega
                        clear hcc hy hra
                        by_cases hrq : y.rank = (q : Int)
                        · have t1 : (y.rank != (q : Int)) = false := by simp [hrq]
                          have HRQ := Lib.hid hrq
                          have HNX : Hid (∀ a, fil (q : Int) (ls.take a) = fil (q : Int) (T.take i) → ∃ x, ls[a]? = some x ∧ (x.rank ≠ (q : Int) → fil (q : Int) (ls.take (a + 1)) = fil (q : Int) (T.take i)) ∧ (x.rank = (q : Int) → x = y ∧ fil (q : Int) (ls.take (a + 1)) = fil (q : Int) (T.take (i + 1)))) := Lib.hid fun a h => fil_next (M2.out q) h HY.out HRQ.out
                          clear hrq
                          go_wp2_with fail
                          refine (HRA.out _).mono ?_
                          rintro e w2 ⟨rfl, hb2⟩
                          have HB2 := Lib.hid (hb.out.trans (hb2.mono hb.out.size))
                          clear hb2 c0 c1 c2 c3 c4 c5 c6 c7 c8 c9 c10 hb
                          go_wp2_with fail
                          go_loopw [11] (fun ai wr => ∃ a' : Nat, a' ≤ j ∧ ai = .int .i64 a' ∧ Hid (fil (q : Int) (ls.take a') = fil (q : Int) (T.take i)) ∧ Hid (Below W0.heap.size W0 wr)) (fun ai _ => j - (intOf ai).toNat)
                          case atStart => exact ⟨a, ha, rfl, hF, HB2⟩
                          case round =>
                            clear hF
                            obtain ⟨a', ha', rfl, hF, hb3⟩ := hrel
                            obtain ⟨x, hx1, hx2, hx3⟩ := HNX.out a' hF.out
                            have hla : a' < j := by have := (List.getElem?_eq_some_iff.1 hx1).1; rw [M3.out] at this; exact this
                            obtain ⟨b', off', rfl, hbb', hcc'⟩ := (HFG.out.below hb3.out).cells (by omega)
                            have hd1 := hcc' a' hla
                            have hgx : ls.getD a' Ltr.none_ = x := by rw [List.getD_eq_getElem?_getD, hx1]; rfl
                            simp only [hgx] at hd1
                            have HD1 := Lib.hid hd1
                            obtain ⟨e0, e1, e2, e3, e4, e5, e6, e7, e8, e9, e10⟩ := hd1
                            have hrx : ∀ w, Calls Try.prog 19 #[.agg #[.int .i64 x.id, .bool x.r, .int .i64 x.n, .int .u8 (x.d 0), .int .u8 (x.d 1), .int .u8 (x.d 2), .int .u8 (x.d 3), .int .u8 (x.d 4), .int .u8 (x.d 5), .int .u8 (x.d 6), .int .u8 (x.d 7)]] w fun e w' => e = .returned (.int .i64 x.rank) ∧ Below w.heap.size w w' := fun w => drank_any x.id x.n x.r x.d w
                            have HRX := Lib.hid hrx
                            have HX2 := Lib.hid hx2
                            have HX3 := Lib.hid hx3
                            have haI : (a' : Int) < (j : Int) := by omega
                            have haN : ((a' : Int) == (j : Int)) = false := by simp; omega
                            clear hx1 hx2 hx3 hcc' hgx hrx
                            by_cases hxq : x.rank = (q : Int)
                            · obtain ⟨hxy, hfx⟩ := HX3.out hxq
                              have t2 : (x.rank != (q : Int)) = false := by simp [hxq]
                              have HFX := Lib.hid hfx
                              have HXY := Lib.hid hxy
                              clear hxq hfx hxy
                              go_wp2_with fail
                              refine (HRX.out _).mono ?_
                              rintro e w4 ⟨rfl, hb4⟩
                              have HB4 := Lib.hid (hb3.out.trans (hb4.mono hb3.out.size))
                              obtain ⟨k0, k1, k2, k3, k4, k5, k6, k7, k8, k9, k10⟩ := HD1.out.below hb4 (Nat.lt_of_lt_of_le hbb' hb3.out.size)
                              obtain ⟨b2, off2, e2, _, hcc2⟩ := (HFT.out.below HB4.out).cells (by omega)
                              cases e2
                              have hm2 := hcc2 i hli
                              simp only [HYD.out] at hm2
                              rw [← HXY.out] at hm2
                              obtain ⟨m0, m1, m2, m3, m4, m5, m6, m7, m8, m9, m10⟩ := hm2
                              have hcm := fun w => run_eq_alike w x.id x.n x.r x.d x.d
                              simp only [eqD_same] at hcm
                              clear hb4 hcc2 e0 e1 e2 e3 e4 e5 e6 e7 e8 e9 e10
                              go_wp2_with fail
                              go_quiet (fail)
                              have HB5 := Lib.hid (below_drewN HB4.out nq)
                              generalize w4.drewN nq = w5 at *
                              clear k0 k1 k2 k3 k4 k5 k6 k7 k8 k9 k10 m0 m1 m2 m3 m4 m5 m6 m7 m8 m9 m10 hcm
                              go_wp2_with fail
                              go_roundw
                              case rel => exact ⟨i + 1, a' + 1, by omega, by omega, by go_num, by go_num, HFX, HB5⟩
                              case measure => simp [intOf]; omega
                            · have t2 : (x.rank != (q : Int)) = true := by simpa using hxq
                              have HFX := Lib.hid (HX2.out hxq)
                              clear hxq
                              go_wp2_with fail
                              refine (HRX.out _).mono ?_
                              rintro e w4 ⟨rfl, hb4⟩
                              have HB4 := Lib.hid (hb3.out.trans (hb4.mono hb3.out.size))
                              clear hb4 e0 e1 e2 e3 e4 e5 e6 e7 e8 e9 e10
                              go_wp2_with fail
                              exact ⟨⟨a' + 1, by omega, by go_num, HFX, HB4⟩, by simp [intOf]; omega⟩
                        · have t1 : (y.rank != (q : Int)) = true := by simpa using hrq
                          have HFS := Lib.hid (hF.out.trans (fil_skip HY.out hrq).symm)
                          clear hrq
                          go_wp2_with fail
                          refine (HRA.out _).mono ?_
                          rintro e w2 ⟨rfl, hb2⟩
                          have HB2 := Lib.hid (hb.out.trans (hb2.mono hb.out.size))
                          clear hb2 c0 c1 c2 c3 c4 c5 c6 c7 c8 c9 c10
                          go_wp2_with fail
                          go_roundw
                          case rel => exact ⟨i + 1, a, by omega, ha, by go_num, rfl, HFS, HB2⟩
                          case measure => simp [intOf]; omega
                      · go_wp2_with fail
                        exact ⟨⟨q + 1, by omega, by go_num, hb⟩, by simp [intOf]; omega⟩
                  · have hxb := HXE.out.step hb.out
                    have hbe := box_best0 w wr g lost hxb
                    have HBE := Lib.hid hbe
                    clear hxb hbe
                    go_wp2_with fail
                    refine HBE.out.mono ?_
                    rintro e w2 ⟨rfl, hx2⟩
                    have HX2 := Lib.hid (hx2.step ((Below.refl w2.heap.size w2).alloc (Nat.le_refl _) (.cells #[.int .i64 0, .bool false, .int .i64 0, .int .u8 0, .int .u8 0, .int .u8 0, .int .u8 0, .int .u8 0, .int .u8 0, .int .u8 0, .int .u8 0] 30)))
                    clear hx2
                    go_wp2_with fail
                    generalize w2.alloc (.cells #[.int .i64 0, .bool false, .int .i64 0, .int .u8 0, .int .u8 0, .int .u8 0, .int .u8 0, .int .u8 0, .int .u8 0, .int .u8 0, .int .u8 0] 30) = w3 at *
                    refine (live_any _).mono ?_
                    rintro e w4 ⟨rfl, hb4⟩
                    have HB4 := Lib.hid (HX2.out.step hb4).below
                    clear hb4
                    go_wp2_with fail
                    go_ret
                    exact ⟨rfl, HB4.out⟩
  · have hmn : min (n : Int) 20 = 20 := by omega
    go_enter Try.func4, Try.ntmps4
    go_wp2_with fail
    refine (box_new w w (Below.refl _ _)).mono ?_
    rintro e w1 ⟨rfl, hx, hb1⟩
    have hgl := hx.lt
    have hx1 := hx.step ((Below.refl w1.heap.size w1).alloc (Nat.le_refl _) (.cells #[] 30))
    have ho1 : (w1.alloc (.cells #[] 30)).ownsRow w.heap.size 30 11 (.slice (some ⟨w1.heap.size, 0, none⟩) 0 0) 0 (flatF []) := ⟨rfl, .inr ⟨_, 0, #[], rfl, hb1.size, heap_alloc_new w1 _, Nat.le_refl _, by simp [maxLen], by simp, rfl⟩⟩
    have HX1 := Lib.hid hx1
    have HO1 := Lib.hid ho1
    have HN1 := Lib.hid (show (Value.slice (some ⟨w1.heap.size, 0, none⟩) 0 0).ownBlock ≠ some w.heap.size from fun e => by simp [Value.ownBlock] at e; omega)
    clear hx hx1 ho1 hb1
    generalize hg : w.heap.size = g at HX1 HN1 hgl ⊢
    have HG := Lib.hid hg
    clear hg
    go_wp2_with fail
    go_loopw [4, 5] (fun tv i wr => ∃ (j : Nat) (ls : List Ltr) (lost : Int) (T : List Ltr), j ≤ 20 ∧ i = .int .i64 j ∧ T.length ≤ j ∧ lost ≤ j ∧ wr.ownsRow w.heap.size 30 11 tv T.length (flatF T) ∧ Hid (tv.ownBlock ≠ some g) ∧ Hid (BoxAt w g ls lost wr) ∧ Hid (srt ls ∧ (∀ q, fil q ls = fil q T) ∧ ls.length = T.length)) (fun _ i _ => 20 - (intOf i).toNat)
    case atStart => exact ⟨0, [], 0, [], Nat.zero_le _, rfl, Nat.le_refl _, by omega, HO1.out, HN1, HX1, Lib.hid ⟨List.Pairwise.nil, fun _ => rfl, rfl⟩⟩
    case round =>
      obtain ⟨j, ls, lost, T, hj, rfl, hTj, hlj, hown, hne, hx, hm⟩ := hrel
      by_cases hlt : j < 20
      · obtain ⟨b, off, rfl, hbb, hcc⟩ := HA.out.cells (by omega)
        have hcc0 := hcc j (by omega)
        generalize fs j = y at hcc0
        obtain ⟨yi, yr, yn, yd, ys⟩ := y
        have HC0 := Lib.hid hcc0
        obtain ⟨c0, c1, c2, c3, c4, c5, c6, c7, c8, c9, c10⟩ := hcc0.below hx.out.below hbb
        clear hcc0
        dsimp only at c0 c1 c2 c3 c4 c5 c6 c7 c8 c9 c10
        have hp := box_put w wr g ⟨yi, yr, yn, yd, ((j : Int) % 2 == 1)⟩ ls lost hx.out (by omega)
        obtain ⟨-, -, q3, q4⟩ := putS_cnt ⟨yi, yr, yn, yd, ((j : Int) % 2 == 1)⟩ ls lost
        have hcs := putS_cases ⟨yi, yr, yn, yd, ((j : Int) % 2 == 1)⟩ ls lost
        dsimp only at hp q3 q4
        generalize putS ⟨yi, yr, yn, yd, ((j : Int) % 2 == 1)⟩ ls lost = P at *
        obtain ⟨ls', lost', q⟩ := P
        dsimp only at hp q3 q4 hcs
        have HP := Lib.hid hp
        have hjI : (j : Int) < (20 : Int) := by omega
        have HOW := Lib.hid hown
        clear hp hcc hown
        by_cases hq : q = 0
        · have hls : ls' = insL ⟨yi, yr, yn, yd, ((j : Int) % 2 == 1)⟩ ls := by
            rcases hcs with ⟨_, h⟩ | ⟨h, _⟩
            · exact h
            · exact absurd hq h
          have hm2 : srt ls' ∧ (∀ q, fil q ls' = fil q (T ++ [⟨yi, yr, yn, yd, ((j : Int) % 2 == 1)⟩])) ∧ ls'.length = (T ++ [⟨yi, yr, yn, yd, ((j : Int) % 2 == 1)⟩] : List Ltr).length := by
            obtain ⟨m1, m2, m3⟩ := hm.out
            refine ⟨hls ▸ insL_srt _ _ m1, fun q => ?_, by rw [hls, insL_len, List.length_append, m3]; rfl⟩
            rw [hls, insL_fil _ _ _ m1, fil_app, m2, fil_one]
          have HM2 := Lib.hid hm2
          clear hm2 hls hcs hm
          subst hq
          go_wp2_with fail
          refine HP.out.mono ?_
          rintro e w2 ⟨rfl, hx2, hk2⟩
          have hown2 := own_kept HOW.out hk2 hne.out
          obtain ⟨e0, e1, e2, e3, e4, e5, e6, e7, e8, e9, e10⟩ : FrCells w2 b off j ⟨yi, yr, yn, yd, ys⟩ := HC0.out.below hx2.below hbb
          have HX2 := Lib.hid hx2
          have hsz2 := hx2.below.size
          clear hx2 hk2 c0 c1 c2 c3 c4 c5 c6 c7 c8 c9 c10
          dsimp only at e0 e1 e2 e3 e4 e5 e6 e7 e8 e9 e10
          go_wp2_with (at_builtin; refine wpList_elem rfl (.tmp 38) (.tmp 43) rfl Try.underlying48 info_fr rfl (by omega) (by omega) rfl hown2 rfl rfl rfl (ltr_f_one ⟨yi, yr, yn, yd, ((j : Int) % 2 == 1)⟩) (by omega) hsz2 ?_; intro v' w3 hown3 hgr3 hob3)
          have HX3 := Lib.hid (HX2.out.grown hown2 (Nat.le_refl _) hgr3)
          have HNE3 : Hid (v'.ownBlock ≠ some g) := Lib.hid fun e => by
            rcases hob3 with h | h
            · exact hne.out (h ▸ e)
            · rw [h] at e; cases e; have := HX2.out.lt; omega
          exact ⟨⟨j + 1, ls', lost', T ++ [⟨yi, yr, yn, yd, ((j : Int) % 2 == 1)⟩], by omega, by go_num, by simp; omega, by omega, by rw [flatF_snoc, List.length_append]; exact hown3, HNE3, HX3, HM2⟩, by simp [intOf]; omega⟩
        · have hls : ls' = ls := by
            rcases hcs with ⟨h, _⟩ | ⟨_, h⟩
            · exact absurd h hq
            · exact h
          subst hls
          have t1 : (q == 0) = false := by simpa using hq
          clear hcs hq
          go_wp2_with fail
          refine HP.out.mono ?_
          rintro e w2 ⟨rfl, hx2, hk2⟩
          have hown2 := own_kept HOW.out hk2 hne.out
          have HX2 := Lib.hid hx2
          clear hx2 hk2 c0 c1 c2 c3 c4 c5 c6 c7 c8 c9 c10
          go_wp2_with fail
          exact ⟨⟨j + 1, ls', lost', T, by omega, by go_num, by omega, by omega, hown2, hne, HX2, hm⟩, by simp [intOf]; omega⟩
      · obtain rfl : j = 20 := by omega
        try simp only [show ((20 : Nat) : Int) = 20 from rfl]
        obtain ⟨m1, m2, m3⟩ := hm.out
        obtain ⟨at_, ct, rfl⟩ := own_slice hown
        have hTk : T.length ≤ 20 := by omega
        have M1 := Lib.hid m1
        have M2 := Lib.hid m2
        have M3 := Lib.hid m3
        have HT := Lib.hid hown
        have HX := Lib.hid hx.out
        have HTB := Lib.hid (fun b hb => (hown.lt b hb).2 : ∀ b, (Value.slice at_ T.length ct).ownBlock = some b → b < wr.heap.size)
        have HTC : Hid (∀ b, (Value.slice at_ T.length ct).ownBlock = some b → ∃ cs, wr.heap[b]? = some (.cells cs 30 (0, 0))) := Lib.hid fun b hb => by
          rcases hown.2 with ⟨e, _⟩ | ⟨b', cap, cur, e, _, hgg, _⟩
          · rw [e] at hb; cases hb
          · rw [e] at hb; cases hb; exact ⟨_, hgg⟩
        have HTN : Hid (∀ b, (Value.slice at_ T.length ct).ownBlock = some b → b ≠ g) := Lib.hid fun b hb e => hne.out (e ▸ hb)
        have hoG : (wr.alloc (.cells #[] 30)).ownsRow wr.heap.size 30 11 (.slice (some ⟨wr.heap.size, 0, none⟩) 0 0) 0 (flatF (ls.take 0)) := ⟨rfl, .inr ⟨_, 0, #[], rfl, Nat.le_refl _, heap_alloc_new wr _, Nat.le_refl _, by simp [maxLen], by simp, rfl⟩⟩
        have HOG := Lib.hid hoG
        have HXG := Lib.hid (hx.out.step ((Below.refl wr.heap.size wr).alloc (Nat.le_refl _) (.cells #[] 30)))
        have HTG : Hid (∀ b, (Value.slice at_ T.length ct).ownBlock = some b → (wr.alloc (.cells #[] 30)).heap[b]? = wr.heap[b]?) := Lib.hid fun b hb => heap_alloc_old wr _ b (hown.lt b hb).2
        have HNG : Hid ((Value.slice (some ⟨wr.heap.size, 0, none⟩) 0 0).ownBlock ≠ some g) := Lib.hid fun e => by simp [Value.ownBlock] at e; have := hx.out.lt; omega
        have hwz := hx.out.below.size
        clear m1 m2 m3 hown hx hm hoG
        generalize hN : T.length = N at *
        have HN := Lib.hid hN
        clear hN
        obtain ⟨wm, hwm⟩ : ∃ wm, wm = wr := ⟨_, rfl⟩
        subst hwm
        go_wp2_with fail
        go_loopw [6, 48] (fun gv i wr => ∃ j : Nat, j ≤ N ∧ i = .int .i64 j ∧ wr.ownsRow wm.heap.size 30 11 gv j (flatF (ls.take j)) ∧ Hid (gv.ownBlock ≠ some g) ∧ Hid (BoxAt w g (ls.drop j) lost wr) ∧ Hid (∀ b, (Value.slice at_ N ct).ownBlock = some b → wr.heap[b]? = wm.heap[b]?) ∧ wm.heap.size ≤ wr.heap.size) (fun _ i _ => N - (intOf i).toNat)
        case atStart => exact ⟨0, Nat.zero_le _, rfl, HOG.out, HNG, HXG, HTG, by simp⟩
        case round =>
          obtain ⟨j, hj, rfl, hown, hne2, hx, htg, hsz⟩ := hrel
          by_cases hlt : j < N
          · obtain ⟨x, hxj⟩ : ∃ x, ls[j]? = some x := ⟨_, List.getElem?_eq_getElem (by rw [M3.out]; exact hlt)⟩
            have hdr : ls.drop j = x :: ls.drop (j + 1) := by
              obtain ⟨hl, e⟩ := List.getElem?_eq_some_iff.1 hxj
              rw [List.drop_eq_getElem_cons hl, e]
            have htk := take_snoc' hxj
            have hx' := hx.out
            rw [hdr] at hx'
            have htake := box_take w wr g x (ls.drop (j + 1)) lost hx'
            have HTK := Lib.hid htk
            have HTA := Lib.hid htake
            have HOW := Lib.hid hown
            have hgx := hx'.lt
            have hjI : (j : Int) < (N : Int) := by omega
            clear hxj hdr htk hx' htake hown
            go_wp2_with fail
            refine HTA.out.mono ?_
            rintro e w2 ⟨rfl, hx2, hk2⟩
            have hba : Below w2.heap.size w2 (w2.alloc (.cells #[.int .i64 x.id, .bool x.r, .int .i64 x.n, .int .u8 (x.d 0), .int .u8 (x.d 1), .int .u8 (x.d 2), .int .u8 (x.d 3), .int .u8 (x.d 4), .int .u8 (x.d 5), .int .u8 (x.d 6), .int .u8 (x.d 7)] 30)) := (Below.refl _ _).alloc (Nat.le_refl _) _
            have hown2 := own_kept HOW.out hk2 hne2.out
            have hown3 := hown2.alloc (.cells #[.int .i64 x.id, .bool x.r, .int .i64 x.n, .int .u8 (x.d 0), .int .u8 (x.d 1), .int .u8 (x.d 2), .int .u8 (x.d 3), .int .u8 (x.d 4), .int .u8 (x.d 5), .int .u8 (x.d 6), .int .u8 (x.d 7)] 30)
            have hx3 := hx2.step hba
            have hfx := frame_new w2 x.id x.n x.r x.d
            obtain ⟨c0, c1, c2, c3, c4, c5, c6, c7, c8, c9, c10⟩ := hfx.cells
            have hsz2 : wm.heap.size ≤ w2.heap.size := Nat.le_trans hsz hk2.1
            have htg2 : Hid (∀ b, (Value.slice at_ N ct).ownBlock = some b → (w2.alloc (.cells #[.int .i64 x.id, .bool x.r, .int .i64 x.n, .int .u8 (x.d 0), .int .u8 (x.d 1), .int .u8 (x.d 2), .int .u8 (x.d 3), .int .u8 (x.d 4), .int .u8 (x.d 5), .int .u8 (x.d 6), .int .u8 (x.d 7)] 30)).heap[b]? = wm.heap[b]?) := Lib.hid fun b hb => by
              rw [heap_alloc_old w2 _ b (by have := HTB.out b hb; omega), ← htg.out b hb]
              obtain ⟨cs, hc⟩ := HTC.out b hb
              exact hk2.2 b cs _ _ ((htg.out b hb).trans hc) (by decide) (HTN.out b hb)
            have hsz3 : wm.heap.size ≤ (w2.alloc (.cells #[.int .i64 x.id, .bool x.r, .int .i64 x.n, .int .u8 (x.d 0), .int .u8 (x.d 1), .int .u8 (x.d 2), .int .u8 (x.d 3), .int .u8 (x.d 4), .int .u8 (x.d 5), .int .u8 (x.d 6), .int .u8 (x.d 7)] 30)).heap.size := Nat.le_trans hsz2 hba.size
            have HX3 := Lib.hid hx3
            clear hx2 hk2 hba hown2 hx3 hfx HTA HOW hsz2
            go_wp2_with (at_builtin; refine wpList_elem rfl (.tmp 57) (.tmp 59) rfl Try.underlying48 info_fr rfl (by omega) (by omega) rfl hown3 rfl (by simp) rfl (ltr_f_one x) (by omega) hsz3 ?_; intro v' w4 hown4 hgr4 hob4)
            generalize w2.alloc (.cells #[.int .i64 x.id, .bool x.r, .int .i64 x.n, .int .u8 (x.d 0), .int .u8 (x.d 1), .int .u8 (x.d 2), .int .u8 (x.d 3), .int .u8 (x.d 4), .int .u8 (x.d 5), .int .u8 (x.d 6), .int .u8 (x.d 7)] 30) = w3 at *
            have HX4 := Lib.hid (HX3.out.grown hown3 hwz hgr4)
            have HNE4 : Hid (v'.ownBlock ≠ some g) := Lib.hid fun e => by
              rcases hob4 with h | h
              · exact hne2.out (h ▸ e)
              · rw [h] at e; cases e; have := HX3.out.lt; omega
            have HTG4 : Hid (∀ b, (Value.slice at_ N ct).ownBlock = some b → w4.heap[b]? = wm.heap[b]?) := Lib.hid fun b hb => by
              have h1 := HTB.out b hb
              rw [← htg2.out b hb]
              exact hgr4.block b (by omega) (fun e => by have := (hown3.lt b e.symm).1; omega)
            exact ⟨⟨j + 1, by omega, by go_num, by rw [← HTK.out, flatF_snoc]; exact hown4, HNE4, HX4, HTG4, Nat.le_trans hsz3 hgr4.size⟩, by simp [intOf]; omega⟩
          · obtain rfl : j = N := by omega
            obtain ⟨ag, cg, rfl, hgl2, hfg⟩ := Frs.of_own hown
            rw [List.take_of_length_le (by rw [M3.out]; exact Nat.le_refl _)] at hfg
            obtain ⟨at2, ct2, e2, -, hft⟩ := Frs.of_own HT.out
            cases e2
            have hft2 : Frs wr wr.heap.size at_ j ct (fun i => T.getD i Ltr.none_) := ⟨hft.cap, hft.max, fun hn => by
              obtain ⟨b, off, e, hlt, hc⟩ := hft.cells hn
              subst e
              have hblk := htg.out b rfl
              have hcell : ∀ o, wr.cell? ⟨b, o, none⟩ = wm.cell? ⟨b, o, none⟩ := fun o => World.cell?_of_block (a := ⟨b, o, none⟩) hblk
              refine ⟨b, off, rfl, by omega, fun i hi => ?_⟩
              obtain ⟨k0, k1, k2, k3, k4, k5, k6, k7, k8, k9, k10⟩ := hc i hi
              exact ⟨(hcell _).trans k0, (hcell _).trans k1, (hcell _).trans k2, (hcell _).trans k3, (hcell _).trans k4, (hcell _).trans k5, (hcell _).trans k6, (hcell _).trans k7, (hcell _).trans k8, (hcell _).trans k9, (hcell _).trans k10⟩⟩
            have hxe := hx.out
            rw [List.drop_of_length_le (by rw [M3.out]; exact Nat.le_refl _)] at hxe
            have hcg := hfg.cap
            have hmg := hfg.max
            have hct := hft2.cap
            have hmt := hft2.max
            simp only [maxLen] at hmg hmt
            have HFG := Lib.hid hfg
            have HFT := Lib.hid hft2
            have HXE := Lib.hid hxe
            clear hgl2 hown hft hft2 hfg hx htg hxe HT HOG HXG HTG HNG HTB HTC HTN hne2 HX hsz hwz
            obtain ⟨W0, hW0⟩ : ∃ W0, W0 = wr := ⟨_, rfl⟩
            subst hW0
            go_wp2_with fail
            go_loopw [9] (fun i wr => ∃ p : Nat, p ≤ j ∧ i = .int .i64 ((p : Int) + 1) ∧ Hid (Below W0.heap.size W0 wr)) (fun i _ => j + 1 - (intOf i).toNat)
            case atStart => exact ⟨0, Nat.zero_le _, rfl, Lib.hid (Below.refl _ _)⟩
            case round =>
              obtain ⟨p, hp, rfl, hb⟩ := hrel
              by_cases hlt3 : p + 1 < j
              · obtain ⟨b, off, rfl, hbb, hcc⟩ := (HFG.out.below hb.out).cells (by omega)
                have hc1 := hcc p (by omega)
                have hc2 := hcc (p + 1) (by omega)
                have hle : (ls.getD p Ltr.none_).rank ≤ (ls.getD (p + 1) Ltr.none_).rank := by
                  have h := List.pairwise_iff_getElem.1 M1.out p (p + 1) (by rw [M3.out]; omega) (by rw [M3.out]; omega) (by omega)
                  rw [List.getD_eq_getElem?_getD, List.getD_eq_getElem?_getD, List.getElem?_eq_getElem (by rw [M3.out]; omega), List.getElem?_eq_getElem (by rw [M3.out]; omega)]
                  exact h
                generalize ls.getD p Ltr.none_ = x at *
                generalize ls.getD (p + 1) Ltr.none_ = y at *
                have hra : ∀ w, Calls Try.prog 19 #[.agg #[.int .i64 x.id, .bool x.r, .int .i64 x.n, .int .u8 (x.d 0), .int .u8 (x.d 1), .int .u8 (x.d 2), .int .u8 (x.d 3), .int .u8 (x.d 4), .int .u8 (x.d 5), .int .u8 (x.d 6), .int .u8 (x.d 7)]] w fun e w' => e = .returned (.int .i64 x.rank) ∧ Below w.heap.size w w' := fun w => drank_any x.id x.n x.r x.d w
                have hrb : ∀ w, Calls Try.prog 19 #[.agg #[.int .i64 y.id, .bool y.r, .int .i64 y.n, .int .u8 (y.d 0), .int .u8 (y.d 1), .int .u8 (y.d 2), .int .u8 (y.d 3), .int .u8 (y.d 4), .int .u8 (y.d 5), .int .u8 (y.d 6), .int .u8 (y.d 7)]] w fun e w' => e = .returned (.int .i64 y.rank) ∧ Below w.heap.size w w' := fun w => drank_any y.id y.n y.r y.d w
                generalize x.rank = rx at *
                generalize y.rank = ry at *
                have t1 : decide (ry < rx) = false := by simp; omega
                have hS : ∀ z, Below wr.heap.size wr z → z.cell? ⟨b, off + p * 11, none⟩ = some (.int .i64 x.id) ∧ z.cell? ⟨b, off + p * 11 + 1, none⟩ = some (.bool x.r) ∧ z.cell? ⟨b, off + p * 11 + 2, none⟩ = some (.int .i64 x.n) ∧ z.cell? ⟨b, off + p * 11 + 3, none⟩ = some (.int .u8 (x.d 0)) ∧ z.cell? ⟨b, off + p * 11 + 4, none⟩ = some (.int .u8 (x.d 1)) ∧ z.cell? ⟨b, off + p * 11 + 5, none⟩ = some (.int .u8 (x.d 2)) ∧ z.cell? ⟨b, off + p * 11 + 6, none⟩ = some (.int .u8 (x.d 3)) ∧ z.cell? ⟨b, off + p * 11 + 7, none⟩ = some (.int .u8 (x.d 4)) ∧ z.cell? ⟨b, off + p * 11 + 8, none⟩ = some (.int .u8 (x.d 5)) ∧ z.cell? ⟨b, off + p * 11 + 9, none⟩ = some (.int .u8 (x.d 6)) ∧ z.cell? ⟨b, off + p * 11 + 10, none⟩ = some (.int .u8 (x.d 7)) ∧ z.cell? ⟨b, off + (p + 1) * 11, none⟩ = some (.int .i64 y.id) ∧ z.cell? ⟨b, off + (p + 1) * 11 + 1, none⟩ = some (.bool y.r) ∧ z.cell? ⟨b, off + (p + 1) * 11 + 2, none⟩ = some (.int .i64 y.n) ∧ z.cell? ⟨b, off + (p + 1) * 11 + 3, none⟩ = some (.int .u8 (y.d 0)) ∧ z.cell? ⟨b, off + (p + 1) * 11 + 4, none⟩ = some (.int .u8 (y.d 1)) ∧ z.cell? ⟨b, off + (p + 1) * 11 + 5, none⟩ = some (.int .u8 (y.d 2)) ∧ z.cell? ⟨b, off + (p + 1) * 11 + 6, none⟩ = some (.int .u8 (y.d 3)) ∧ z.cell? ⟨b, off + (p + 1) * 11 + 7, none⟩ = some (.int .u8 (y.d 4)) ∧ z.cell? ⟨b, off + (p + 1) * 11 + 8, none⟩ = some (.int .u8 (y.d 5)) ∧ z.cell? ⟨b, off + (p + 1) * 11 + 9, none⟩ = some (.int .u8 (y.d 6)) ∧ z.cell? ⟨b, off + (p + 1) * 11 + 10, none⟩ = some (.int .u8 (y.d 7)) := fun z hz => by
                  have hb' : Below W0.heap.size W0 wr := hb.out
                  have hlt := Nat.lt_of_lt_of_le hbb hb'.size
                  obtain ⟨k0, k1, k2, k3, k4, k5, k6, k7, k8, k9, k10⟩ := hc1.below hz hlt
                  obtain ⟨m0, m1, m2, m3, m4, m5, m6, m7, m8, m9, m10⟩ := hc2.below hz hlt
                  exact ⟨k0, k1, k2, k3, k4, k5, k6, k7, k8, k9, k10, m0, m1, m2, m3, m4, m5, m6, m7, m8, m9, m10⟩
                have hw1 : IntKind.i64.wrap ((p : Int) + 1 - 1) = (p : Int) := IntWalk.i64_in _ (by omega) |>.trans (by omega)
                have hpI : (p : Int) + 1 < (j : Int) := by omega
                have hpI2 : (p : Int) < (j : Int) := by omega
                have hpI3 : (0 : Int) ≤ (p : Int) := by omega
                have hw2 : IntKind.i64.wrap (p : Int) = (p : Int) := IntWalk.i64_in _ (by omega)
                have hp1 : (0 : Int) ≤ (p : Int) + 1 := by omega
                have htn : ((p : Int) + 1).toNat = p + 1 := by omega
                have hS0 := hS wr (Below.refl _ _)
                have HS := Lib.hid hS
                have HRA := Lib.hid hra
                have HRB := Lib.hid hrb
                clear hcc hc1 hc2 hle hS hra hrb
                go_wp2_with fail
                go_region_held3 (fun w' => w'.cell? ⟨b, off + p * 11, none⟩ = some (.int .i64 x.id) ∧ w'.cell? ⟨b, off + p * 11 + 1, none⟩ = some (.bool x.r) ∧ w'.cell? ⟨b, off + p * 11 + 2, none⟩ = some (.int .i64 x.n) ∧ w'.cell? ⟨b, off + p * 11 + 3, none⟩ = some (.int .u8 (x.d 0)) ∧ w'.cell? ⟨b, off + p * 11 + 4, none⟩ = some (.int .u8 (x.d 1)) ∧ w'.cell? ⟨b, off + p * 11 + 5, none⟩ = some (.int .u8 (x.d 2)) ∧ w'.cell? ⟨b, off + p * 11 + 6, none⟩ = some (.int .u8 (x.d 3)) ∧ w'.cell? ⟨b, off + p * 11 + 7, none⟩ = some (.int .u8 (x.d 4)) ∧ w'.cell? ⟨b, off + p * 11 + 8, none⟩ = some (.int .u8 (x.d 5)) ∧ w'.cell? ⟨b, off + p * 11 + 9, none⟩ = some (.int .u8 (x.d 6)) ∧ w'.cell? ⟨b, off + p * 11 + 10, none⟩ = some (.int .u8 (x.d 7)) ∧ w'.cell? ⟨b, off + (p + 1) * 11, none⟩ = some (.int .i64 y.id) ∧ w'.cell? ⟨b, off + (p + 1) * 11 + 1, none⟩ = some (.bool y.r) ∧ w'.cell? ⟨b, off + (p + 1) * 11 + 2, none⟩ = some (.int .i64 y.n) ∧ w'.cell? ⟨b, off + (p + 1) * 11 + 3, none⟩ = some (.int .u8 (y.d 0)) ∧ w'.cell? ⟨b, off + (p + 1) * 11 + 4, none⟩ = some (.int .u8 (y.d 1)) ∧ w'.cell? ⟨b, off + (p + 1) * 11 + 5, none⟩ = some (.int .u8 (y.d 2)) ∧ w'.cell? ⟨b, off + (p + 1) * 11 + 6, none⟩ = some (.int .u8 (y.d 3)) ∧ w'.cell? ⟨b, off + (p + 1) * 11 + 7, none⟩ = some (.int .u8 (y.d 4)) ∧ w'.cell? ⟨b, off + (p + 1) * 11 + 8, none⟩ = some (.int .u8 (y.d 5)) ∧ w'.cell? ⟨b, off + (p + 1) * 11 + 9, none⟩ = some (.int .u8 (y.d 6)) ∧ w'.cell? ⟨b, off + (p + 1) * 11 + 10, none⟩ = some (.int .u8 (y.d 7)))
                  (first | exact HS.out _ (kD _) | exact HS.out _ k1 | exact HS.out _ k2)
                  (first
                    | (go_at_call 19; (with_reducible refine (HRA.out _).mono ?_); rintro e z1 ⟨rfl, hbz⟩; have k1 := kF hbz (kD wr); clear hbz)
                    | (go_at_call 19; (with_reducible refine (HRB.out _).mono ?_); rintro e z2 ⟨rfl, hbz⟩; have k2 := kF hbz k1; clear hbz))
                have HBZ := Lib.hid (hb.out.trans (k2.mono hb.out.size))
                go_wp2_with fail
                exact ⟨⟨p + 1, by omega, by go_num, HBZ⟩, by simp [intOf]; omega⟩
              · have hnl : ¬ (p : Int) + 1 < (j : Int) := by omega
                go_wp2_with fail
                go_loopw [10] (fun i wr => ∃ q : Nat, q ≤ 4096 ∧ i = .int .i64 q ∧ Hid (Below W0.heap.size W0 wr)) (fun i _ => 4096 - (intOf i).toNat)
                case atStart => exact ⟨0, Nat.zero_le _, rfl, hb⟩
                case round =>
                  clear hb
                  obtain ⟨q, hq, rfl, hb⟩ := hrel
                  by_cases hlq : q < 4096
                  · have tq : decide ((q : Int) < 4096) = true := decide_eq_true (by omega)
                    go_wp2_with fail
                    go_loopw [11, 12] (fun ai ii wr => ∃ i a : Nat, i ≤ j ∧ a ≤ j ∧ ii = .int .i64 i ∧ ai = .int .i64 a ∧ Hid (fil (q : Int) (ls.take a) = fil (q : Int) (T.take i)) ∧ Hid (Below W0.heap.size W0 wr)) (fun _ ii _ => j - (intOf ii).toNat)
                    case atStart => exact ⟨0, 0, Nat.zero_le _, Nat.zero_le _, rfl, rfl, Lib.hid rfl, hb⟩
                    case round =>
                      clear hb
                      obtain ⟨i, a, hi, ha, rfl, rfl, hF, hb⟩ := hrel
                      by_cases hli : i < j
                      · obtain ⟨b, off, rfl, hbb, hcc⟩ := (HFT.out.below hb.out).cells (by omega)
                        have hc1 := hcc i hli
                        have hy : T[i]? = some (T.getD i Ltr.none_) := by rw [List.getD_eq_getElem?_getD, List.getElem?_eq_getElem (by rw [HN.out]; exact hli)]; rfl
                        generalize hyD : T.getD i Ltr.none_ = y at hc1 hy
                        have HYD := Lib.hid hyD
                        clear hyD
                        have hra : ∀ w, Calls Try.prog 19 #[.agg #[.int .i64 y.id, .bool y.r, .int .i64 y.n, .int .u8 (y.d 0), .int .u8 (y.d 1), .int .u8 (y.d 2), .int .u8 (y.d 3), .int .u8 (y.d 4), .int .u8 (y.d 5), .int .u8 (y.d 6), .int .u8 (y.d 7)]] w fun e w' => e = .returned (.int .i64 y.rank) ∧ Below w.heap.size w w' := fun w => drank_any y.id y.n y.r y.d w
                        have HY := Lib.hid hy
                        have HC1 := Lib.hid hc1
                        have HRA := Lib.hid hra
                        obtain ⟨c0, c1, c2, c3, c4, c5, c6, c7, c8, c9, c10⟩ := hc1
                        have hiI : (i : Int) < (j : Int) := by omega
                        clear hcc hy hra
                        by_cases hrq : y.rank = (q : Int)
                        · have t1 : (y.rank != (q : Int)) = false := by simp [hrq]
                          have HRQ := Lib.hid hrq
                          have HNX : Hid (∀ a, fil (q : Int) (ls.take a) = fil (q : Int) (T.take i) → ∃ x, ls[a]? = some x ∧ (x.rank ≠ (q : Int) → fil (q : Int) (ls.take (a + 1)) = fil (q : Int) (T.take i)) ∧ (x.rank = (q : Int) → x = y ∧ fil (q : Int) (ls.take (a + 1)) = fil (q : Int) (T.take (i + 1)))) := Lib.hid fun a h => fil_next (M2.out q) h HY.out HRQ.out
                          clear hrq
                          go_wp2_with fail
                          refine (HRA.out _).mono ?_
                          rintro e w2 ⟨rfl, hb2⟩
                          have HB2 := Lib.hid (hb.out.trans (hb2.mono hb.out.size))
                          clear hb2 c0 c1 c2 c3 c4 c5 c6 c7 c8 c9 c10 hb
                          go_wp2_with fail
                          go_loopw [11] (fun ai wr => ∃ a' : Nat, a' ≤ j ∧ ai = .int .i64 a' ∧ Hid (fil (q : Int) (ls.take a') = fil (q : Int) (T.take i)) ∧ Hid (Below W0.heap.size W0 wr)) (fun ai _ => j - (intOf ai).toNat)
                          case atStart => exact ⟨a, ha, rfl, hF, HB2⟩
                          case round =>
                            clear hF
                            obtain ⟨a', ha', rfl, hF, hb3⟩ := hrel
                            obtain ⟨x, hx1, hx2, hx3⟩ := HNX.out a' hF.out
                            have hla : a' < j := by have := (List.getElem?_eq_some_iff.1 hx1).1; rw [M3.out] at this; exact this
                            obtain ⟨b', off', rfl, hbb', hcc'⟩ := (HFG.out.below hb3.out).cells (by omega)
                            have hd1 := hcc' a' hla
                            have hgx : ls.getD a' Ltr.none_ = x := by rw [List.getD_eq_getElem?_getD, hx1]; rfl
                            simp only [hgx] at hd1
                            have HD1 := Lib.hid hd1
                            obtain ⟨e0, e1, e2, e3, e4, e5, e6, e7, e8, e9, e10⟩ := hd1
                            have hrx : ∀ w, Calls Try.prog 19 #[.agg #[.int .i64 x.id, .bool x.r, .int .i64 x.n, .int .u8 (x.d 0), .int .u8 (x.d 1), .int .u8 (x.d 2), .int .u8 (x.d 3), .int .u8 (x.d 4), .int .u8 (x.d 5), .int .u8 (x.d 6), .int .u8 (x.d 7)]] w fun e w' => e = .returned (.int .i64 x.rank) ∧ Below w.heap.size w w' := fun w => drank_any x.id x.n x.r x.d w
                            have HRX := Lib.hid hrx
                            have HX2 := Lib.hid hx2
                            have HX3 := Lib.hid hx3
                            have haI : (a' : Int) < (j : Int) := by omega
                            have haN : ((a' : Int) == (j : Int)) = false := by simp; omega
                            clear hx1 hx2 hx3 hcc' hgx hrx
                            by_cases hxq : x.rank = (q : Int)
                            · obtain ⟨hxy, hfx⟩ := HX3.out hxq
                              have t2 : (x.rank != (q : Int)) = false := by simp [hxq]
                              have HFX := Lib.hid hfx
                              have HXY := Lib.hid hxy
                              clear hxq hfx hxy
                              go_wp2_with fail
                              refine (HRX.out _).mono ?_
                              rintro e w4 ⟨rfl, hb4⟩
                              have HB4 := Lib.hid (hb3.out.trans (hb4.mono hb3.out.size))
                              obtain ⟨k0, k1, k2, k3, k4, k5, k6, k7, k8, k9, k10⟩ := HD1.out.below hb4 (Nat.lt_of_lt_of_le hbb' hb3.out.size)
                              obtain ⟨b2, off2, e2, _, hcc2⟩ := (HFT.out.below HB4.out).cells (by omega)
                              cases e2
                              have hm2 := hcc2 i hli
                              simp only [HYD.out] at hm2
                              rw [← HXY.out] at hm2
                              obtain ⟨m0, m1, m2, m3, m4, m5, m6, m7, m8, m9, m10⟩ := hm2
                              have hcm := fun w => run_eq_alike w x.id x.n x.r x.d x.d
                              simp only [eqD_same] at hcm
                              clear hb4 hcc2 e0 e1 e2 e3 e4 e5 e6 e7 e8 e9 e10
                              go_wp2_with fail
                              go_quiet (fail)
                              have HB5 := Lib.hid (below_drewN HB4.out nq)
                              generalize w4.drewN nq = w5 at *
                              clear k0 k1 k2 k3 k4 k5 k6 k7 k8 k9 k10 m0 m1 m2 m3 m4 m5 m6 m7 m8 m9 m10 hcm
                              go_wp2_with fail
                              go_roundw
                              case rel => exact ⟨i + 1, a' + 1, by omega, by omega, by go_num, by go_num, HFX, HB5⟩
                              case measure => simp [intOf]; omega
                            · have t2 : (x.rank != (q : Int)) = true := by simpa using hxq
                              have HFX := Lib.hid (HX2.out hxq)
                              clear hxq
                              go_wp2_with fail
                              refine (HRX.out _).mono ?_
                              rintro e w4 ⟨rfl, hb4⟩
                              have HB4 := Lib.hid (hb3.out.trans (hb4.mono hb3.out.size))
                              clear hb4 e0 e1 e2 e3 e4 e5 e6 e7 e8 e9 e10
                              go_wp2_with fail
                              exact ⟨⟨a' + 1, by omega, by go_num, HFX, HB4⟩, by simp [intOf]; omega⟩
                        · have t1 : (y.rank != (q : Int)) = true := by simpa using hrq
                          have HFS := Lib.hid (hF.out.trans (fil_skip HY.out hrq).symm)
                          clear hrq
                          go_wp2_with fail
                          refine (HRA.out _).mono ?_
                          rintro e w2 ⟨rfl, hb2⟩
                          have HB2 := Lib.hid (hb.out.trans (hb2.mono hb.out.size))
                          clear hb2 c0 c1 c2 c3 c4 c5 c6 c7 c8 c9 c10
                          go_wp2_with fail
                          go_roundw
                          case rel => exact ⟨i + 1, a, by omega, ha, by go_num, rfl, HFS, HB2⟩
                          case measure => simp [intOf]; omega
                      · go_wp2_with fail
                        exact ⟨⟨q + 1, by omega, by go_num, hb⟩, by simp [intOf]; omega⟩
                  · have hxb := HXE.out.step hb.out
                    have hbe := box_best0 w wr g lost hxb
                    have HBE := Lib.hid hbe
                    clear hxb hbe
                    go_wp2_with fail
                    refine HBE.out.mono ?_
                    rintro e w2 ⟨rfl, hx2⟩
                    have HX2 := Lib.hid (hx2.step ((Below.refl w2.heap.size w2).alloc (Nat.le_refl _) (.cells #[.int .i64 0, .bool false, .int .i64 0, .int .u8 0, .int .u8 0, .int .u8 0, .int .u8 0, .int .u8 0, .int .u8 0, .int .u8 0, .int .u8 0] 30)))
                    clear hx2
                    go_wp2_with fail
                    generalize w2.alloc (.cells #[.int .i64 0, .bool false, .int .i64 0, .int .u8 0, .int .u8 0, .int .u8 0, .int .u8 0, .int .u8 0, .int .u8 0, .int .u8 0, .int .u8 0] 30) = w3 at *
                    refine (live_any _).mono ?_
                    rintro e w4 ⟨rfl, hb4⟩
                    have HB4 := Lib.hid (HX2.out.step hb4).below
                    clear hb4
                    go_wp2_with fail
                    go_ret
                    exact ⟨rfl, HB4.out⟩
end Go.Proofs.Ytgnfohncgfgecaa
