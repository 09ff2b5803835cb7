/- What putRest answers: bytes. -/
import Derived.Test.YtoamgdcjmkkmfaaKf
namespace Go.Proofs.Ytoamgdcjmkkmfaa
open Go.RowKit
set_option linter.unusedSimpArgs false
set_option linter.unusedVariables false
set_option maxHeartbeats 4000000
theorem rest_1_size {W w : World} {g : Nat} {A0 : Option Addr} {s : Int × List Int} (c ki ks : Int) (tg la fa su : Bool) (sz n d0 d1 d2 d3 d4 d5 d6 co sq bl sp cr : Int) (hk : canE c fa n sq bl sp = true) (hd : ∀ x ∈ dL d0 d1 d2 d3 d4 d5 d6, 0 ≤ x ∧ x ≤ 255) (hc : c = 1) (hf : fa = false) (h : WS W g A0 s.1 s.2 w) (hn : s.2.length ≤ 20) :
    Calls Try.prog 38 #[.pointer (some ⟨g, 0, none⟩), .agg #[.int .i64 c, .int .i64 ki, .int .i64 ks, .bool tg, .bool la, .bool fa, .bool su, .int .i64 sz, .int .i64 n, .int .u8 d0, .int .u8 d1, .int .u8 d2, .int .u8 d3, .int .u8 d4, .int .u8 d5, .int .u8 d6, .int .i64 co, .int .i64 sq, .int .i64 bl, .int .i64 sp, .int .i64 cr]] w fun e w' => (∃ v, e = .returned v) ∧ WS W g A0 (restE c ki ks fa sz n (dL d0 d1 d2 d3 d4 d5 d6) co sq bl cr s).1 (restE c ki ks fa sz n (dL d0 d1 d2 d3 d4 d5 d6) co sq bl cr s).2 w' := by
  subst hc
  subst hf
  have hm : MsAt (w.alloc (.cells #[.int .i64 1, .int .i64 ki, .int .i64 ks, .bool tg, .bool la, .bool false, .bool su, .int .i64 sz, .int .i64 n, .int .u8 d0, .int .u8 d1, .int .u8 d2, .int .u8 d3, .int .u8 d4, .int .u8 d5, .int .u8 d6, .int .i64 co, .int .i64 sq, .int .i64 bl, .int .i64 sp, .int .i64 cr] 30)) w.heap.size 1 ki ks tg la false su sz n d0 d1 d2 d3 d4 d5 d6 co sq bl sp cr := heap_alloc_new w _
  obtain ⟨A1, h1, hA, hg, hK⟩ := h.box (.cells #[.int .i64 1, .int .i64 ki, .int .i64 ks, .bool tg, .bool la, .bool false, .bool su, .int .i64 sz, .int .i64 n, .int .u8 d0, .int .u8 d1, .int .u8 d2, .int .u8 d3, .int .u8 d4, .int .u8 d5, .int .u8 d6, .int .i64 co, .int .i64 sq, .int .i64 bl, .int .i64 sp, .int .i64 cr] 30)
  have HM := Lib.hid hm
  have H1 := Lib.hid h1
  have HK := Lib.hid hK
  have HD := Lib.hid hd
  have HN := Lib.hid hn
  clear h1 hK hA hg h hm hd hn hk
  go_enter Try.func38, Try.ntmps38
  go_wp2_with fail
  refine (putkey_any (s := s) H1.out (by have := HN.out; have a1 := wN_len 3 ki s; have a2 := wN_len 2 ks (wN 3 ki s); have a3 := wN_len 2 sq s; first | omega | (unfold wK; omega)) _ _).mono ?_
  rintro e w1 ⟨⟨v1, rfl⟩, h2⟩
  have hm1 : MsAt w1 w.heap.size 1 ki ks tg la false su sz n d0 d1 d2 d3 d4 d5 d6 co sq bl sp cr := (HK.out _ _ _ h2).2
  have k1_7 := hm1.cell 7
  have k1_8 := hm1.cell 8
  have k1_9 := hm1.cell 9
  have k1_16 := hm1.cell 16
  have k1_17 := hm1.cell 17
  have k1_18 := hm1.cell 18
  have k1_20 := hm1.cell 20
  simp at k1_7 k1_8 k1_9 k1_16 k1_17 k1_18 k1_20
  have H2 := Lib.hid h2
  have HM1 := Lib.hid hm1
  clear h2 hm1
  go_wp2_with fail
  refine (putsize_any (s := wK ki ks s) H2.out (by have := HN.out; have a1 := wN_len 3 ki s; have a2 := wN_len 2 ks (wN 3 ki s); have a3 := wN_len 2 sq s; first | omega | (unfold wK; omega)) _).mono ?_
  rintro e w2 ⟨⟨v2, rfl⟩, h3⟩
  have hm2 : MsAt w2 w.heap.size 1 ki ks tg la false su sz n d0 d1 d2 d3 d4 d5 d6 co sq bl sp cr := (HK.out _ _ _ h3).2
  have H3 := Lib.hid h3
  have HM2 := Lib.hid hm2
  clear h3 hm2
  go_wp2_with fail
  go_returns
  exact ⟨⟨_, rfl⟩, (HK.out _ _ _ H3.out).1⟩
theorem rest_1_fast1 {W w : World} {g : Nat} {A0 : Option Addr} {s : Int × List Int} (c ki ks : Int) (tg la fa su : Bool) (sz n d0 d1 d2 d3 d4 d5 d6 co sq bl sp cr : Int) (hk : canE c fa n sq bl sp = true) (hd : ∀ x ∈ dL d0 d1 d2 d3 d4 d5 d6, 0 ≤ x ∧ x ≤ 255) (hc : c = 1) (hf : fa = true) (hnn : n = 1) (h : WS W g A0 s.1 s.2 w) (hn : s.2.length ≤ 20) :
    Calls Try.prog 38 #[.pointer (some ⟨g, 0, none⟩), .agg #[.int .i64 c, .int .i64 ki, .int .i64 ks, .bool tg, .bool la, .bool fa, .bool su, .int .i64 sz, .int .i64 n, .int .u8 d0, .int .u8 d1, .int .u8 d2, .int .u8 d3, .int .u8 d4, .int .u8 d5, .int .u8 d6, .int .i64 co, .int .i64 sq, .int .i64 bl, .int .i64 sp, .int .i64 cr]] w fun e w' => (∃ v, e = .returned v) ∧ WS W g A0 (restE c ki ks fa sz n (dL d0 d1 d2 d3 d4 d5 d6) co sq bl cr s).1 (restE c ki ks fa sz n (dL d0 d1 d2 d3 d4 d5 d6) co sq bl cr s).2 w' := by
  subst hc
  subst hf hnn
  have hm : MsAt (w.alloc (.cells #[.int .i64 1, .int .i64 ki, .int .i64 ks, .bool tg, .bool la, .bool true, .bool su, .int .i64 sz, .int .i64 1, .int .u8 d0, .int .u8 d1, .int .u8 d2, .int .u8 d3, .int .u8 d4, .int .u8 d5, .int .u8 d6, .int .i64 co, .int .i64 sq, .int .i64 bl, .int .i64 sp, .int .i64 cr] 30)) w.heap.size 1 ki ks tg la true su sz 1 d0 d1 d2 d3 d4 d5 d6 co sq bl sp cr := heap_alloc_new w _
  obtain ⟨A1, h1, hA, hg, hK⟩ := h.box (.cells #[.int .i64 1, .int .i64 ki, .int .i64 ks, .bool tg, .bool la, .bool true, .bool su, .int .i64 sz, .int .i64 1, .int .u8 d0, .int .u8 d1, .int .u8 d2, .int .u8 d3, .int .u8 d4, .int .u8 d5, .int .u8 d6, .int .i64 co, .int .i64 sq, .int .i64 bl, .int .i64 sp, .int .i64 cr] 30)
  have HM := Lib.hid hm
  have H1 := Lib.hid h1
  have HK := Lib.hid hK
  have HD := Lib.hid hd
  have HN := Lib.hid hn
  clear h1 hK hA hg h hm hd hn hk
  go_enter Try.func38, Try.ntmps38
  go_wp2_with fail
  refine (putkey_any (s := s) H1.out (by have := HN.out; have a1 := wN_len 3 ki s; have a2 := wN_len 2 ks (wN 3 ki s); have a3 := wN_len 2 sq s; first | omega | (unfold wK; omega)) _ _).mono ?_
  rintro e w1 ⟨⟨v1, rfl⟩, h2⟩
  have hm1 : MsAt w1 w.heap.size 1 ki ks tg la true su sz 1 d0 d1 d2 d3 d4 d5 d6 co sq bl sp cr := (HK.out _ _ _ h2).2
  have k1_7 := hm1.cell 7
  have k1_8 := hm1.cell 8
  have k1_9 := hm1.cell 9
  have k1_16 := hm1.cell 16
  have k1_17 := hm1.cell 17
  have k1_18 := hm1.cell 18
  have k1_20 := hm1.cell 20
  simp at k1_7 k1_8 k1_9 k1_16 k1_17 k1_18 k1_20
  have H2 := Lib.hid h2
  have HM1 := Lib.hid hm1
  clear h2 hm1
  go_wp2_with fail
  refine (WS.raw (s := wK ki ks s) H2.out (MsAt.byt HM1.out (Nat.lt_of_lt_of_le (show w.heap.size < (w.alloc _).heap.size by simp) (by obtain ⟨_, _, _, hc9, _⟩ := H2.out; exact hc9.size)) HD.out 1 (by omega)) (by have := HN.out; have a1 := wN_len 3 ki s; have a2 := wN_len 2 ks (wN 3 ki s); have a3 := wN_len 2 sq s; first | omega | (unfold wK; omega))).mono ?_
  rintro e w2 ⟨⟨v2, rfl⟩, h3⟩
  have hm2 : MsAt w2 w.heap.size 1 ki ks tg la true su sz 1 d0 d1 d2 d3 d4 d5 d6 co sq bl sp cr := (HK.out _ _ _ h3).2
  have H3 := Lib.hid h3
  have HM2 := Lib.hid hm2
  clear h3 hm2
  go_wp2_with fail
  go_returns
  exact ⟨⟨_, rfl⟩, (HK.out _ _ _ H3.out).1⟩
theorem rest_1_fast2 {W w : World} {g : Nat} {A0 : Option Addr} {s : Int × List Int} (c ki ks : Int) (tg la fa su : Bool) (sz n d0 d1 d2 d3 d4 d5 d6 co sq bl sp cr : Int) (hk : canE c fa n sq bl sp = true) (hd : ∀ x ∈ dL d0 d1 d2 d3 d4 d5 d6, 0 ≤ x ∧ x ≤ 255) (hc : c = 1) (hf : fa = true) (hnn : n = 2) (h : WS W g A0 s.1 s.2 w) (hn : s.2.length ≤ 20) :
    Calls Try.prog 38 #[.pointer (some ⟨g, 0, none⟩), .agg #[.int .i64 c, .int .i64 ki, .int .i64 ks, .bool tg, .bool la, .bool fa, .bool su, .int .i64 sz, .int .i64 n, .int .u8 d0, .int .u8 d1, .int .u8 d2, .int .u8 d3, .int .u8 d4, .int .u8 d5, .int .u8 d6, .int .i64 co, .int .i64 sq, .int .i64 bl, .int .i64 sp, .int .i64 cr]] w fun e w' => (∃ v, e = .returned v) ∧ WS W g A0 (restE c ki ks fa sz n (dL d0 d1 d2 d3 d4 d5 d6) co sq bl cr s).1 (restE c ki ks fa sz n (dL d0 d1 d2 d3 d4 d5 d6) co sq bl cr s).2 w' := by
  subst hc
  subst hf hnn
  have hm : MsAt (w.alloc (.cells #[.int .i64 1, .int .i64 ki, .int .i64 ks, .bool tg, .bool la, .bool true, .bool su, .int .i64 sz, .int .i64 2, .int .u8 d0, .int .u8 d1, .int .u8 d2, .int .u8 d3, .int .u8 d4, .int .u8 d5, .int .u8 d6, .int .i64 co, .int .i64 sq, .int .i64 bl, .int .i64 sp, .int .i64 cr] 30)) w.heap.size 1 ki ks tg la true su sz 2 d0 d1 d2 d3 d4 d5 d6 co sq bl sp cr := heap_alloc_new w _
  obtain ⟨A1, h1, hA, hg, hK⟩ := h.box (.cells #[.int .i64 1, .int .i64 ki, .int .i64 ks, .bool tg, .bool la, .bool true, .bool su, .int .i64 sz, .int .i64 2, .int .u8 d0, .int .u8 d1, .int .u8 d2, .int .u8 d3, .int .u8 d4, .int .u8 d5, .int .u8 d6, .int .i64 co, .int .i64 sq, .int .i64 bl, .int .i64 sp, .int .i64 cr] 30)
  have HM := Lib.hid hm
  have H1 := Lib.hid h1
  have HK := Lib.hid hK
  have HD := Lib.hid hd
  have HN := Lib.hid hn
  clear h1 hK hA hg h hm hd hn hk
  go_enter Try.func38, Try.ntmps38
  go_wp2_with fail
  refine (putkey_any (s := s) H1.out (by have := HN.out; have a1 := wN_len 3 ki s; have a2 := wN_len 2 ks (wN 3 ki s); have a3 := wN_len 2 sq s; first | omega | (unfold wK; omega)) _ _).mono ?_
  rintro e w1 ⟨⟨v1, rfl⟩, h2⟩
  have hm1 : MsAt w1 w.heap.size 1 ki ks tg la true su sz 2 d0 d1 d2 d3 d4 d5 d6 co sq bl sp cr := (HK.out _ _ _ h2).2
  have k1_7 := hm1.cell 7
  have k1_8 := hm1.cell 8
  have k1_9 := hm1.cell 9
  have k1_16 := hm1.cell 16
  have k1_17 := hm1.cell 17
  have k1_18 := hm1.cell 18
  have k1_20 := hm1.cell 20
  simp at k1_7 k1_8 k1_9 k1_16 k1_17 k1_18 k1_20
  have H2 := Lib.hid h2
  have HM1 := Lib.hid hm1
  clear h2 hm1
  go_wp2_with fail
  refine (WS.raw (s := wK ki ks s) H2.out (MsAt.byt HM1.out (Nat.lt_of_lt_of_le (show w.heap.size < (w.alloc _).heap.size by simp) (by obtain ⟨_, _, _, hc9, _⟩ := H2.out; exact hc9.size)) HD.out 2 (by omega)) (by have := HN.out; have a1 := wN_len 3 ki s; have a2 := wN_len 2 ks (wN 3 ki s); have a3 := wN_len 2 sq s; first | omega | (unfold wK; omega))).mono ?_
  rintro e w2 ⟨⟨v2, rfl⟩, h3⟩
  have hm2 : MsAt w2 w.heap.size 1 ki ks tg la true su sz 2 d0 d1 d2 d3 d4 d5 d6 co sq bl sp cr := (HK.out _ _ _ h3).2
  have H3 := Lib.hid h3
  have HM2 := Lib.hid hm2
  clear h3 hm2
  go_wp2_with fail
  go_returns
  exact ⟨⟨_, rfl⟩, (HK.out _ _ _ H3.out).1⟩
theorem rest_1_fast3 {W w : World} {g : Nat} {A0 : Option Addr} {s : Int × List Int} (c ki ks : Int) (tg la fa su : Bool) (sz n d0 d1 d2 d3 d4 d5 d6 co sq bl sp cr : Int) (hk : canE c fa n sq bl sp = true) (hd : ∀ x ∈ dL d0 d1 d2 d3 d4 d5 d6, 0 ≤ x ∧ x ≤ 255) (hc : c = 1) (hf : fa = true) (hnn : n = 3) (h : WS W g A0 s.1 s.2 w) (hn : s.2.length ≤ 20) :
    Calls Try.prog 38 #[.pointer (some ⟨g, 0, none⟩), .agg #[.int .i64 c, .int .i64 ki, .int .i64 ks, .bool tg, .bool la, .bool fa, .bool su, .int .i64 sz, .int .i64 n, .int .u8 d0, .int .u8 d1, .int .u8 d2, .int .u8 d3, .int .u8 d4, .int .u8 d5, .int .u8 d6, .int .i64 co, .int .i64 sq, .int .i64 bl, .int .i64 sp, .int .i64 cr]] w fun e w' => (∃ v, e = .returned v) ∧ WS W g A0 (restE c ki ks fa sz n (dL d0 d1 d2 d3 d4 d5 d6) co sq bl cr s).1 (restE c ki ks fa sz n (dL d0 d1 d2 d3 d4 d5 d6) co sq bl cr s).2 w' := by
  subst hc
  subst hf hnn
  have hm : MsAt (w.alloc (.cells #[.int .i64 1, .int .i64 ki, .int .i64 ks, .bool tg, .bool la, .bool true, .bool su, .int .i64 sz, .int .i64 3, .int .u8 d0, .int .u8 d1, .int .u8 d2, .int .u8 d3, .int .u8 d4, .int .u8 d5, .int .u8 d6, .int .i64 co, .int .i64 sq, .int .i64 bl, .int .i64 sp, .int .i64 cr] 30)) w.heap.size 1 ki ks tg la true su sz 3 d0 d1 d2 d3 d4 d5 d6 co sq bl sp cr := heap_alloc_new w _
  obtain ⟨A1, h1, hA, hg, hK⟩ := h.box (.cells #[.int .i64 1, .int .i64 ki, .int .i64 ks, .bool tg, .bool la, .bool true, .bool su, .int .i64 sz, .int .i64 3, .int .u8 d0, .int .u8 d1, .int .u8 d2, .int .u8 d3, .int .u8 d4, .int .u8 d5, .int .u8 d6, .int .i64 co, .int .i64 sq, .int .i64 bl, .int .i64 sp, .int .i64 cr] 30)
  have HM := Lib.hid hm
  have H1 := Lib.hid h1
  have HK := Lib.hid hK
  have HD := Lib.hid hd
  have HN := Lib.hid hn
  clear h1 hK hA hg h hm hd hn hk
  go_enter Try.func38, Try.ntmps38
  go_wp2_with fail
  refine (putkey_any (s := s) H1.out (by have := HN.out; have a1 := wN_len 3 ki s; have a2 := wN_len 2 ks (wN 3 ki s); have a3 := wN_len 2 sq s; first | omega | (unfold wK; omega)) _ _).mono ?_
  rintro e w1 ⟨⟨v1, rfl⟩, h2⟩
  have hm1 : MsAt w1 w.heap.size 1 ki ks tg la true su sz 3 d0 d1 d2 d3 d4 d5 d6 co sq bl sp cr := (HK.out _ _ _ h2).2
  have k1_7 := hm1.cell 7
  have k1_8 := hm1.cell 8
  have k1_9 := hm1.cell 9
  have k1_16 := hm1.cell 16
  have k1_17 := hm1.cell 17
  have k1_18 := hm1.cell 18
  have k1_20 := hm1.cell 20
  simp at k1_7 k1_8 k1_9 k1_16 k1_17 k1_18 k1_20
  have H2 := Lib.hid h2
  have HM1 := Lib.hid hm1
  clear h2 hm1
  go_wp2_with fail
  refine (WS.raw (s := wK ki ks s) H2.out (MsAt.byt HM1.out (Nat.lt_of_lt_of_le (show w.heap.size < (w.alloc _).heap.size by simp) (by obtain ⟨_, _, _, hc9, _⟩ := H2.out; exact hc9.size)) HD.out 3 (by omega)) (by have := HN.out; have a1 := wN_len 3 ki s; have a2 := wN_len 2 ks (wN 3 ki s); have a3 := wN_len 2 sq s; first | omega | (unfold wK; omega))).mono ?_
  rintro e w2 ⟨⟨v2, rfl⟩, h3⟩
  have hm2 : MsAt w2 w.heap.size 1 ki ks tg la true su sz 3 d0 d1 d2 d3 d4 d5 d6 co sq bl sp cr := (HK.out _ _ _ h3).2
  have H3 := Lib.hid h3
  have HM2 := Lib.hid hm2
  clear h3 hm2
  go_wp2_with fail
  go_returns
  exact ⟨⟨_, rfl⟩, (HK.out _ _ _ H3.out).1⟩
theorem rest_1_fast4 {W w : World} {g : Nat} {A0 : Option Addr} {s : Int × List Int} (c ki ks : Int) (tg la fa su : Bool) (sz n d0 d1 d2 d3 d4 d5 d6 co sq bl sp cr : Int) (hk : canE c fa n sq bl sp = true) (hd : ∀ x ∈ dL d0 d1 d2 d3 d4 d5 d6, 0 ≤ x ∧ x ≤ 255) (hc : c = 1) (hf : fa = true) (hnn : n = 4) (h : WS W g A0 s.1 s.2 w) (hn : s.2.length ≤ 20) :
    Calls Try.prog 38 #[.pointer (some ⟨g, 0, none⟩), .agg #[.int .i64 c, .int .i64 ki, .int .i64 ks, .bool tg, .bool la, .bool fa, .bool su, .int .i64 sz, .int .i64 n, .int .u8 d0, .int .u8 d1, .int .u8 d2, .int .u8 d3, .int .u8 d4, .int .u8 d5, .int .u8 d6, .int .i64 co, .int .i64 sq, .int .i64 bl, .int .i64 sp, .int .i64 cr]] w fun e w' => (∃ v, e = .returned v) ∧ WS W g A0 (restE c ki ks fa sz n (dL d0 d1 d2 d3 d4 d5 d6) co sq bl cr s).1 (restE c ki ks fa sz n (dL d0 d1 d2 d3 d4 d5 d6) co sq bl cr s).2 w' := by
  subst hc
  subst hf hnn
  have hm : MsAt (w.alloc (.cells #[.int .i64 1, .int .i64 ki, .int .i64 ks, .bool tg, .bool la, .bool true, .bool su, .int .i64 sz, .int .i64 4, .int .u8 d0, .int .u8 d1, .int .u8 d2, .int .u8 d3, .int .u8 d4, .int .u8 d5, .int .u8 d6, .int .i64 co, .int .i64 sq, .int .i64 bl, .int .i64 sp, .int .i64 cr] 30)) w.heap.size 1 ki ks tg la true su sz 4 d0 d1 d2 d3 d4 d5 d6 co sq bl sp cr := heap_alloc_new w _
  obtain ⟨A1, h1, hA, hg, hK⟩ := h.box (.cells #[.int .i64 1, .int .i64 ki, .int .i64 ks, .bool tg, .bool la, .bool true, .bool su, .int .i64 sz, .int .i64 4, .int .u8 d0, .int .u8 d1, .int .u8 d2, .int .u8 d3, .int .u8 d4, .int .u8 d5, .int .u8 d6, .int .i64 co, .int .i64 sq, .int .i64 bl, .int .i64 sp, .int .i64 cr] 30)
  have HM := Lib.hid hm
  have H1 := Lib.hid h1
  have HK := Lib.hid hK
  have HD := Lib.hid hd
  have HN := Lib.hid hn
  clear h1 hK hA hg h hm hd hn hk
  go_enter Try.func38, Try.ntmps38
  go_wp2_with fail
  refine (putkey_any (s := s) H1.out (by have := HN.out; have a1 := wN_len 3 ki s; have a2 := wN_len 2 ks (wN 3 ki s); have a3 := wN_len 2 sq s; first | omega | (unfold wK; omega)) _ _).mono ?_
  rintro e w1 ⟨⟨v1, rfl⟩, h2⟩
  have hm1 : MsAt w1 w.heap.size 1 ki ks tg la true su sz 4 d0 d1 d2 d3 d4 d5 d6 co sq bl sp cr := (HK.out _ _ _ h2).2
  have k1_7 := hm1.cell 7
  have k1_8 := hm1.cell 8
  have k1_9 := hm1.cell 9
  have k1_16 := hm1.cell 16
  have k1_17 := hm1.cell 17
  have k1_18 := hm1.cell 18
  have k1_20 := hm1.cell 20
  simp at k1_7 k1_8 k1_9 k1_16 k1_17 k1_18 k1_20
  have H2 := Lib.hid h2
  have HM1 := Lib.hid hm1
  clear h2 hm1
  go_wp2_with fail
  refine (WS.raw (s := wK ki ks s) H2.out (MsAt.byt HM1.out (Nat.lt_of_lt_of_le (show w.heap.size < (w.alloc _).heap.size by simp) (by obtain ⟨_, _, _, hc9, _⟩ := H2.out; exact hc9.size)) HD.out 4 (by omega)) (by have := HN.out; have a1 := wN_len 3 ki s; have a2 := wN_len 2 ks (wN 3 ki s); have a3 := wN_len 2 sq s; first | omega | (unfold wK; omega))).mono ?_
  rintro e w2 ⟨⟨v2, rfl⟩, h3⟩
  have hm2 : MsAt w2 w.heap.size 1 ki ks tg la true su sz 4 d0 d1 d2 d3 d4 d5 d6 co sq bl sp cr := (HK.out _ _ _ h3).2
  have H3 := Lib.hid h3
  have HM2 := Lib.hid hm2
  clear h3 hm2
  go_wp2_with fail
  go_returns
  exact ⟨⟨_, rfl⟩, (HK.out _ _ _ H3.out).1⟩
theorem rest_10_size {W w : World} {g : Nat} {A0 : Option Addr} {s : Int × List Int} (c ki ks : Int) (tg la fa su : Bool) (sz n d0 d1 d2 d3 d4 d5 d6 co sq bl sp cr : Int) (hk : canE c fa n sq bl sp = true) (hd : ∀ x ∈ dL d0 d1 d2 d3 d4 d5 d6, 0 ≤ x ∧ x ≤ 255) (hc : c = 10) (hf : fa = false) (h : WS W g A0 s.1 s.2 w) (hn : s.2.length ≤ 20) :
    Calls Try.prog 38 #[.pointer (some ⟨g, 0, none⟩), .agg #[.int .i64 c, .int .i64 ki, .int .i64 ks, .bool tg, .bool la, .bool fa, .bool su, .int .i64 sz, .int .i64 n, .int .u8 d0, .int .u8 d1, .int .u8 d2, .int .u8 d3, .int .u8 d4, .int .u8 d5, .int .u8 d6, .int .i64 co, .int .i64 sq, .int .i64 bl, .int .i64 sp, .int .i64 cr]] w fun e w' => (∃ v, e = .returned v) ∧ WS W g A0 (restE c ki ks fa sz n (dL d0 d1 d2 d3 d4 d5 d6) co sq bl cr s).1 (restE c ki ks fa sz n (dL d0 d1 d2 d3 d4 d5 d6) co sq bl cr s).2 w' := by
  subst hc
  subst hf
  have hm : MsAt (w.alloc (.cells #[.int .i64 10, .int .i64 ki, .int .i64 ks, .bool tg, .bool la, .bool false, .bool su, .int .i64 sz, .int .i64 n, .int .u8 d0, .int .u8 d1, .int .u8 d2, .int .u8 d3, .int .u8 d4, .int .u8 d5, .int .u8 d6, .int .i64 co, .int .i64 sq, .int .i64 bl, .int .i64 sp, .int .i64 cr] 30)) w.heap.size 10 ki ks tg la false su sz n d0 d1 d2 d3 d4 d5 d6 co sq bl sp cr := heap_alloc_new w _
  obtain ⟨A1, h1, hA, hg, hK⟩ := h.box (.cells #[.int .i64 10, .int .i64 ki, .int .i64 ks, .bool tg, .bool la, .bool false, .bool su, .int .i64 sz, .int .i64 n, .int .u8 d0, .int .u8 d1, .int .u8 d2, .int .u8 d3, .int .u8 d4, .int .u8 d5, .int .u8 d6, .int .i64 co, .int .i64 sq, .int .i64 bl, .int .i64 sp, .int .i64 cr] 30)
  have HM := Lib.hid hm
  have H1 := Lib.hid h1
  have HK := Lib.hid hK
  have HD := Lib.hid hd
  have HN := Lib.hid hn
  clear h1 hK hA hg h hm hd hn hk
  go_enter Try.func38, Try.ntmps38
  go_wp2_with fail
  refine (putkey_any (s := s) H1.out (by have := HN.out; have a1 := wN_len 3 ki s; have a2 := wN_len 2 ks (wN 3 ki s); have a3 := wN_len 2 sq s; first | omega | (unfold wK; omega)) _ _).mono ?_
  rintro e w1 ⟨⟨v1, rfl⟩, h2⟩
  have hm1 : MsAt w1 w.heap.size 10 ki ks tg la false su sz n d0 d1 d2 d3 d4 d5 d6 co sq bl sp cr := (HK.out _ _ _ h2).2
  have k1_7 := hm1.cell 7
  have k1_8 := hm1.cell 8
  have k1_9 := hm1.cell 9
  have k1_16 := hm1.cell 16
  have k1_17 := hm1.cell 17
  have k1_18 := hm1.cell 18
  have k1_20 := hm1.cell 20
  simp at k1_7 k1_8 k1_9 k1_16 k1_17 k1_18 k1_20
  have H2 := Lib.hid h2
  have HM1 := Lib.hid hm1
  clear h2 hm1
  go_wp2_with fail
  refine (putsize_any (s := wK ki ks s) H2.out (by have := HN.out; have a1 := wN_len 3 ki s; have a2 := wN_len 2 ks (wN 3 ki s); have a3 := wN_len 2 sq s; first | omega | (unfold wK; omega)) _).mono ?_
  rintro e w2 ⟨⟨v2, rfl⟩, h3⟩
  have hm2 : MsAt w2 w.heap.size 10 ki ks tg la false su sz n d0 d1 d2 d3 d4 d5 d6 co sq bl sp cr := (HK.out _ _ _ h3).2
  have H3 := Lib.hid h3
  have HM2 := Lib.hid hm2
  clear h3 hm2
  go_wp2_with fail
  go_returns
  exact ⟨⟨_, rfl⟩, (HK.out _ _ _ H3.out).1⟩
theorem rest_10_fast1 {W w : World} {g : Nat} {A0 : Option Addr} {s : Int × List Int} (c ki ks : Int) (tg la fa su : Bool) (sz n d0 d1 d2 d3 d4 d5 d6 co sq bl sp cr : Int) (hk : canE c fa n sq bl sp = true) (hd : ∀ x ∈ dL d0 d1 d2 d3 d4 d5 d6, 0 ≤ x ∧ x ≤ 255) (hc : c = 10) (hf : fa = true) (hnn : n = 1) (h : WS W g A0 s.1 s.2 w) (hn : s.2.length ≤ 20) :
    Calls Try.prog 38 #[.pointer (some ⟨g, 0, none⟩), .agg #[.int .i64 c, .int .i64 ki, .int .i64 ks, .bool tg, .bool la, .bool fa, .bool su, .int .i64 sz, .int .i64 n, .int .u8 d0, .int .u8 d1, .int .u8 d2, .int .u8 d3, .int .u8 d4, .int .u8 d5, .int .u8 d6, .int .i64 co, .int .i64 sq, .int .i64 bl, .int .i64 sp, .int .i64 cr]] w fun e w' => (∃ v, e = .returned v) ∧ WS W g A0 (restE c ki ks fa sz n (dL d0 d1 d2 d3 d4 d5 d6) co sq bl cr s).1 (restE c ki ks fa sz n (dL d0 d1 d2 d3 d4 d5 d6) co sq bl cr s).2 w' := by
  subst hc
  subst hf hnn
  have hm : MsAt (w.alloc (.cells #[.int .i64 10, .int .i64 ki, .int .i64 ks, .bool tg, .bool la, .bool true, .bool su, .int .i64 sz, .int .i64 1, .int .u8 d0, .int .u8 d1, .int .u8 d2, .int .u8 d3, .int .u8 d4, .int .u8 d5, .int .u8 d6, .int .i64 co, .int .i64 sq, .int .i64 bl, .int .i64 sp, .int .i64 cr] 30)) w.heap.size 10 ki ks tg la true su sz 1 d0 d1 d2 d3 d4 d5 d6 co sq bl sp cr := heap_alloc_new w _
  obtain ⟨A1, h1, hA, hg, hK⟩ := h.box (.cells #[.int .i64 10, .int .i64 ki, .int .i64 ks, .bool tg, .bool la, .bool true, .bool su, .int .i64 sz, .int .i64 1, .int .u8 d0, .int .u8 d1, .int .u8 d2, .int .u8 d3, .int .u8 d4, .int .u8 d5, .int .u8 d6, .int .i64 co, .int .i64 sq, .int .i64 bl, .int .i64 sp, .int .i64 cr] 30)
  have HM := Lib.hid hm
  have H1 := Lib.hid h1
  have HK := Lib.hid hK
  have HD := Lib.hid hd
  have HN := Lib.hid hn
  clear h1 hK hA hg h hm hd hn hk
  go_enter Try.func38, Try.ntmps38
  go_wp2_with fail
  refine (putkey_any (s := s) H1.out (by have := HN.out; have a1 := wN_len 3 ki s; have a2 := wN_len 2 ks (wN 3 ki s); have a3 := wN_len 2 sq s; first | omega | (unfold wK; omega)) _ _).mono ?_
  rintro e w1 ⟨⟨v1, rfl⟩, h2⟩
  have hm1 : MsAt w1 w.heap.size 10 ki ks tg la true su sz 1 d0 d1 d2 d3 d4 d5 d6 co sq bl sp cr := (HK.out _ _ _ h2).2
  have k1_7 := hm1.cell 7
  have k1_8 := hm1.cell 8
  have k1_9 := hm1.cell 9
  have k1_16 := hm1.cell 16
  have k1_17 := hm1.cell 17
  have k1_18 := hm1.cell 18
  have k1_20 := hm1.cell 20
  simp at k1_7 k1_8 k1_9 k1_16 k1_17 k1_18 k1_20
  have H2 := Lib.hid h2
  have HM1 := Lib.hid hm1
  clear h2 hm1
  go_wp2_with fail
  refine (WS.raw (s := wK ki ks s) H2.out (MsAt.byt HM1.out (Nat.lt_of_lt_of_le (show w.heap.size < (w.alloc _).heap.size by simp) (by obtain ⟨_, _, _, hc9, _⟩ := H2.out; exact hc9.size)) HD.out 1 (by omega)) (by have := HN.out; have a1 := wN_len 3 ki s; have a2 := wN_len 2 ks (wN 3 ki s); have a3 := wN_len 2 sq s; first | omega | (unfold wK; omega))).mono ?_
  rintro e w2 ⟨⟨v2, rfl⟩, h3⟩
  have hm2 : MsAt w2 w.heap.size 10 ki ks tg la true su sz 1 d0 d1 d2 d3 d4 d5 d6 co sq bl sp cr := (HK.out _ _ _ h3).2
  have H3 := Lib.hid h3
  have HM2 := Lib.hid hm2
  clear h3 hm2
  go_wp2_with fail
  go_returns
  exact ⟨⟨_, rfl⟩, (HK.out _ _ _ H3.out).1⟩
theorem rest_10_fast2 {W w : World} {g : Nat} {A0 : Option Addr} {s : Int × List Int} (c ki ks : Int) (tg la fa su : Bool) (sz n d0 d1 d2 d3 d4 d5 d6 co sq bl sp cr : Int) (hk : canE c fa n sq bl sp = true) (hd : ∀ x ∈ dL d0 d1 d2 d3 d4 d5 d6, 0 ≤ x ∧ x ≤ 255) (hc : c = 10) (hf : fa = true) (hnn : n = 2) (h : WS W g A0 s.1 s.2 w) (hn : s.2.length ≤ 20) :
    Calls Try.prog 38 #[.pointer (some ⟨g, 0, none⟩), .agg #[.int .i64 c, .int .i64 ki, .int .i64 ks, .bool tg, .bool la, .bool fa, .bool su, .int .i64 sz, .int .i64 n, .int .u8 d0, .int .u8 d1, .int .u8 d2, .int .u8 d3, .int .u8 d4, .int .u8 d5, .int .u8 d6, .int .i64 co, .int .i64 sq, .int .i64 bl, .int .i64 sp, .int .i64 cr]] w fun e w' => (∃ v, e = .returned v) ∧ WS W g A0 (restE c ki ks fa sz n (dL d0 d1 d2 d3 d4 d5 d6) co sq bl cr s).1 (restE c ki ks fa sz n (dL d0 d1 d2 d3 d4 d5 d6) co sq bl cr s).2 w' := by
  subst hc
  subst hf hnn
  have hm : MsAt (w.alloc (.cells #[.int .i64 10, .int .i64 ki, .int .i64 ks, .bool tg, .bool la, .bool true, .bool su, .int .i64 sz, .int .i64 2, .int .u8 d0, .int .u8 d1, .int .u8 d2, .int .u8 d3, .int .u8 d4, .int .u8 d5, .int .u8 d6, .int .i64 co, .int .i64 sq, .int .i64 bl, .int .i64 sp, .int .i64 cr] 30)) w.heap.size 10 ki ks tg la true su sz 2 d0 d1 d2 d3 d4 d5 d6 co sq bl sp cr := heap_alloc_new w _
  obtain ⟨A1, h1, hA, hg, hK⟩ := h.box (.cells #[.int .i64 10, .int .i64 ki, .int .i64 ks, .bool tg, .bool la, .bool true, .bool su, .int .i64 sz, .int .i64 2, .int .u8 d0, .int .u8 d1, .int .u8 d2, .int .u8 d3, .int .u8 d4, .int .u8 d5, .int .u8 d6, .int .i64 co, .int .i64 sq, .int .i64 bl, .int .i64 sp, .int .i64 cr] 30)
  have HM := Lib.hid hm
  have H1 := Lib.hid h1
  have HK := Lib.hid hK
  have HD := Lib.hid hd
  have HN := Lib.hid hn
  clear h1 hK hA hg h hm hd hn hk
  go_enter Try.func38, Try.ntmps38
  go_wp2_with fail
  refine (putkey_any (s := s) H1.out (by have := HN.out; have a1 := wN_len 3 ki s; have a2 := wN_len 2 ks (wN 3 ki s); have a3 := wN_len 2 sq s; first | omega | (unfold wK; omega)) _ _).mono ?_
  rintro e w1 ⟨⟨v1, rfl⟩, h2⟩
  have hm1 : MsAt w1 w.heap.size 10 ki ks tg la true su sz 2 d0 d1 d2 d3 d4 d5 d6 co sq bl sp cr := (HK.out _ _ _ h2).2
  have k1_7 := hm1.cell 7
  have k1_8 := hm1.cell 8
  have k1_9 := hm1.cell 9
  have k1_16 := hm1.cell 16
  have k1_17 := hm1.cell 17
  have k1_18 := hm1.cell 18
  have k1_20 := hm1.cell 20
  simp at k1_7 k1_8 k1_9 k1_16 k1_17 k1_18 k1_20
  have H2 := Lib.hid h2
  have HM1 := Lib.hid hm1
  clear h2 hm1
  go_wp2_with fail
  refine (WS.raw (s := wK ki ks s) H2.out (MsAt.byt HM1.out (Nat.lt_of_lt_of_le (show w.heap.size < (w.alloc _).heap.size by simp) (by obtain ⟨_, _, _, hc9, _⟩ := H2.out; exact hc9.size)) HD.out 2 (by omega)) (by have := HN.out; have a1 := wN_len 3 ki s; have a2 := wN_len 2 ks (wN 3 ki s); have a3 := wN_len 2 sq s; first | omega | (unfold wK; omega))).mono ?_
  rintro e w2 ⟨⟨v2, rfl⟩, h3⟩
  have hm2 : MsAt w2 w.heap.size 10 ki ks tg la true su sz 2 d0 d1 d2 d3 d4 d5 d6 co sq bl sp cr := (HK.out _ _ _ h3).2
  have H3 := Lib.hid h3
  have HM2 := Lib.hid hm2
  clear h3 hm2
  go_wp2_with fail
  go_returns
  exact ⟨⟨_, rfl⟩, (HK.out _ _ _ H3.out).1⟩
theorem rest_10_fast3 {W w : World} {g : Nat} {A0 : Option Addr} {s : Int × List Int} (c ki ks : Int) (tg la fa su : Bool) (sz n d0 d1 d2 d3 d4 d5 d6 co sq bl sp cr : Int) (hk : canE c fa n sq bl sp = true) (hd : ∀ x ∈ dL d0 d1 d2 d3 d4 d5 d6, 0 ≤ x ∧ x ≤ 255) (hc : c = 10) (hf : fa = true) (hnn : n = 3) (h : WS W g A0 s.1 s.2 w) (hn : s.2.length ≤ 20) :
    Calls Try.prog 38 #[.pointer (some ⟨g, 0, none⟩), .agg #[.int .i64 c, .int .i64 ki, .int .i64 ks, .bool tg, .bool la, .bool fa, .bool su, .int .i64 sz, .int .i64 n, .int .u8 d0, .int .u8 d1, .int .u8 d2, .int .u8 d3, .int .u8 d4, .int .u8 d5, .int .u8 d6, .int .i64 co, .int .i64 sq, .int .i64 bl, .int .i64 sp, .int .i64 cr]] w fun e w' => (∃ v, e = .returned v) ∧ WS W g A0 (restE c ki ks fa sz n (dL d0 d1 d2 d3 d4 d5 d6) co sq bl cr s).1 (restE c ki ks fa sz n (dL d0 d1 d2 d3 d4 d5 d6) co sq bl cr s).2 w' := by
  subst hc
  subst hf hnn
  have hm : MsAt (w.alloc (.cells #[.int .i64 10, .int .i64 ki, .int .i64 ks, .bool tg, .bool la, .bool true, .bool su, .int .i64 sz, .int .i64 3, .int .u8 d0, .int .u8 d1, .int .u8 d2, .int .u8 d3, .int .u8 d4, .int .u8 d5, .int .u8 d6, .int .i64 co, .int .i64 sq, .int .i64 bl, .int .i64 sp, .int .i64 cr] 30)) w.heap.size 10 ki ks tg la true su sz 3 d0 d1 d2 d3 d4 d5 d6 co sq bl sp cr := heap_alloc_new w _
  obtain ⟨A1, h1, hA, hg, hK⟩ := h.box (.cells #[.int .i64 10, .int .i64 ki, .int .i64 ks, .bool tg, .bool la, .bool true, .bool su, .int .i64 sz, .int .i64 3, .int .u8 d0, .int .u8 d1, .int .u8 d2, .int .u8 d3, .int .u8 d4, .int .u8 d5, .int .u8 d6, .int .i64 co, .int .i64 sq, .int .i64 bl, .int .i64 sp, .int .i64 cr] 30)
  have HM := Lib.hid hm
  have H1 := Lib.hid h1
  have HK := Lib.hid hK
  have HD := Lib.hid hd
  have HN := Lib.hid hn
  clear h1 hK hA hg h hm hd hn hk
  go_enter Try.func38, Try.ntmps38
  go_wp2_with fail
  refine (putkey_any (s := s) H1.out (by have := HN.out; have a1 := wN_len 3 ki s; have a2 := wN_len 2 ks (wN 3 ki s); have a3 := wN_len 2 sq s; first | omega | (unfold wK; omega)) _ _).mono ?_
  rintro e w1 ⟨⟨v1, rfl⟩, h2⟩
  have hm1 : MsAt w1 w.heap.size 10 ki ks tg la true su sz 3 d0 d1 d2 d3 d4 d5 d6 co sq bl sp cr := (HK.out _ _ _ h2).2
  have k1_7 := hm1.cell 7
  have k1_8 := hm1.cell 8
  have k1_9 := hm1.cell 9
  have k1_16 := hm1.cell 16
  have k1_17 := hm1.cell 17
  have k1_18 := hm1.cell 18
  have k1_20 := hm1.cell 20
  simp at k1_7 k1_8 k1_9 k1_16 k1_17 k1_18 k1_20
  have H2 := Lib.hid h2
  have HM1 := Lib.hid hm1
  clear h2 hm1
  go_wp2_with fail
  refine (WS.raw (s := wK ki ks s) H2.out (MsAt.byt HM1.out (Nat.lt_of_lt_of_le (show w.heap.size < (w.alloc _).heap.size by simp) (by obtain ⟨_, _, _, hc9, _⟩ := H2.out; exact hc9.size)) HD.out 3 (by omega)) (by have := HN.out; have a1 := wN_len 3 ki s; have a2 := wN_len 2 ks (wN 3 ki s); have a3 := wN_len 2 sq s; first | omega | (unfold wK; omega))).mono ?_
  rintro e w2 ⟨⟨v2, rfl⟩, h3⟩
  have hm2 : MsAt w2 w.heap.size 10 ki ks tg la true su sz 3 d0 d1 d2 d3 d4 d5 d6 co sq bl sp cr := (HK.out _ _ _ h3).2
  have H3 := Lib.hid h3
  have HM2 := Lib.hid hm2
  clear h3 hm2
  go_wp2_with fail
  go_returns
  exact ⟨⟨_, rfl⟩, (HK.out _ _ _ H3.out).1⟩
theorem rest_10_fast4 {W w : World} {g : Nat} {A0 : Option Addr} {s : Int × List Int} (c ki ks : Int) (tg la fa su : Bool) (sz n d0 d1 d2 d3 d4 d5 d6 co sq bl sp cr : Int) (hk : canE c fa n sq bl sp = true) (hd : ∀ x ∈ dL d0 d1 d2 d3 d4 d5 d6, 0 ≤ x ∧ x ≤ 255) (hc : c = 10) (hf : fa = true) (hnn : n = 4) (h : WS W g A0 s.1 s.2 w) (hn : s.2.length ≤ 20) :
    Calls Try.prog 38 #[.pointer (some ⟨g, 0, none⟩), .agg #[.int .i64 c, .int .i64 ki, .int .i64 ks, .bool tg, .bool la, .bool fa, .bool su, .int .i64 sz, .int .i64 n, .int .u8 d0, .int .u8 d1, .int .u8 d2, .int .u8 d3, .int .u8 d4, .int .u8 d5, .int .u8 d6, .int .i64 co, .int .i64 sq, .int .i64 bl, .int .i64 sp, .int .i64 cr]] w fun e w' => (∃ v, e = .returned v) ∧ WS W g A0 (restE c ki ks fa sz n (dL d0 d1 d2 d3 d4 d5 d6) co sq bl cr s).1 (restE c ki ks fa sz n (dL d0 d1 d2 d3 d4 d5 d6) co sq bl cr s).2 w' := by
  subst hc
  subst hf hnn
  have hm : MsAt (w.alloc (.cells #[.int .i64 10, .int .i64 ki, .int .i64 ks, .bool tg, .bool la, .bool true, .bool su, .int .i64 sz, .int .i64 4, .int .u8 d0, .int .u8 d1, .int .u8 d2, .int .u8 d3, .int .u8 d4, .int .u8 d5, .int .u8 d6, .int .i64 co, .int .i64 sq, .int .i64 bl, .int .i64 sp, .int .i64 cr] 30)) w.heap.size 10 ki ks tg la true su sz 4 d0 d1 d2 d3 d4 d5 d6 co sq bl sp cr := heap_alloc_new w _
  obtain ⟨A1, h1, hA, hg, hK⟩ := h.box (.cells #[.int .i64 10, .int .i64 ki, .int .i64 ks, .bool tg, .bool la, .bool true, .bool su, .int .i64 sz, .int .i64 4, .int .u8 d0, .int .u8 d1, .int .u8 d2, .int .u8 d3, .int .u8 d4, .int .u8 d5, .int .u8 d6, .int .i64 co, .int .i64 sq, .int .i64 bl, .int .i64 sp, .int .i64 cr] 30)
  have HM := Lib.hid hm
  have H1 := Lib.hid h1
  have HK := Lib.hid hK
  have HD := Lib.hid hd
  have HN := Lib.hid hn
  clear h1 hK hA hg h hm hd hn hk
  go_enter Try.func38, Try.ntmps38
  go_wp2_with fail
  refine (putkey_any (s := s) H1.out (by have := HN.out; have a1 := wN_len 3 ki s; have a2 := wN_len 2 ks (wN 3 ki s); have a3 := wN_len 2 sq s; first | omega | (unfold wK; omega)) _ _).mono ?_
  rintro e w1 ⟨⟨v1, rfl⟩, h2⟩
  have hm1 : MsAt w1 w.heap.size 10 ki ks tg la true su sz 4 d0 d1 d2 d3 d4 d5 d6 co sq bl sp cr := (HK.out _ _ _ h2).2
  have k1_7 := hm1.cell 7
  have k1_8 := hm1.cell 8
  have k1_9 := hm1.cell 9
  have k1_16 := hm1.cell 16
  have k1_17 := hm1.cell 17
  have k1_18 := hm1.cell 18
  have k1_20 := hm1.cell 20
  simp at k1_7 k1_8 k1_9 k1_16 k1_17 k1_18 k1_20
  have H2 := Lib.hid h2
  have HM1 := Lib.hid hm1
  clear h2 hm1
  go_wp2_with fail
  refine (WS.raw (s := wK ki ks s) H2.out (MsAt.byt HM1.out (Nat.lt_of_lt_of_le (show w.heap.size < (w.alloc _).heap.size by simp) (by obtain ⟨_, _, _, hc9, _⟩ := H2.out; exact hc9.size)) HD.out 4 (by omega)) (by have := HN.out; have a1 := wN_len 3 ki s; have a2 := wN_len 2 ks (wN 3 ki s); have a3 := wN_len 2 sq s; first | omega | (unfold wK; omega))).mono ?_
  rintro e w2 ⟨⟨v2, rfl⟩, h3⟩
  have hm2 : MsAt w2 w.heap.size 10 ki ks tg la true su sz 4 d0 d1 d2 d3 d4 d5 d6 co sq bl sp cr := (HK.out _ _ _ h3).2
  have H3 := Lib.hid h3
  have HM2 := Lib.hid hm2
  clear h3 hm2
  go_wp2_with fail
  go_returns
  exact ⟨⟨_, rfl⟩, (HK.out _ _ _ H3.out).1⟩
theorem rest_2_0 {W w : World} {g : Nat} {A0 : Option Addr} {s : Int × List Int} (c ki ks : Int) (tg la fa su : Bool) (sz n d0 d1 d2 d3 d4 d5 d6 co sq bl sp cr : Int) (hk : canE c fa n sq bl sp = true) (hd : ∀ x ∈ dL d0 d1 d2 d3 d4 d5 d6, 0 ≤ x ∧ x ≤ 255) (hc : c = 2) (hnn : n = 0) (h : WS W g A0 s.1 s.2 w) (hn : s.2.length ≤ 20) :
    Calls Try.prog 38 #[.pointer (some ⟨g, 0, none⟩), .agg #[.int .i64 c, .int .i64 ki, .int .i64 ks, .bool tg, .bool la, .bool fa, .bool su, .int .i64 sz, .int .i64 n, .int .u8 d0, .int .u8 d1, .int .u8 d2, .int .u8 d3, .int .u8 d4, .int .u8 d5, .int .u8 d6, .int .i64 co, .int .i64 sq, .int .i64 bl, .int .i64 sp, .int .i64 cr]] w fun e w' => (∃ v, e = .returned v) ∧ WS W g A0 (restE c ki ks fa sz n (dL d0 d1 d2 d3 d4 d5 d6) co sq bl cr s).1 (restE c ki ks fa sz n (dL d0 d1 d2 d3 d4 d5 d6) co sq bl cr s).2 w' := by
  subst hc
  subst hnn
  have hm : MsAt (w.alloc (.cells #[.int .i64 2, .int .i64 ki, .int .i64 ks, .bool tg, .bool la, .bool fa, .bool su, .int .i64 sz, .int .i64 0, .int .u8 d0, .int .u8 d1, .int .u8 d2, .int .u8 d3, .int .u8 d4, .int .u8 d5, .int .u8 d6, .int .i64 co, .int .i64 sq, .int .i64 bl, .int .i64 sp, .int .i64 cr] 30)) w.heap.size 2 ki ks tg la fa su sz 0 d0 d1 d2 d3 d4 d5 d6 co sq bl sp cr := heap_alloc_new w _
  obtain ⟨A1, h1, hA, hg, hK⟩ := h.box (.cells #[.int .i64 2, .int .i64 ki, .int .i64 ks, .bool tg, .bool la, .bool fa, .bool su, .int .i64 sz, .int .i64 0, .int .u8 d0, .int .u8 d1, .int .u8 d2, .int .u8 d3, .int .u8 d4, .int .u8 d5, .int .u8 d6, .int .i64 co, .int .i64 sq, .int .i64 bl, .int .i64 sp, .int .i64 cr] 30)
  have HM := Lib.hid hm
  have H1 := Lib.hid h1
  have HK := Lib.hid hK
  have HD := Lib.hid hd
  have HN := Lib.hid hn
  clear h1 hK hA hg h hm hd hn hk
  go_enter Try.func38, Try.ntmps38
  go_wp2_with fail
  refine (WS.raw (s := s) H1.out (MsAt.byt HM.out (by simp) HD.out 0 (by omega)) (by have := HN.out; have a1 := wN_len 3 ki s; have a2 := wN_len 2 ks (wN 3 ki s); have a3 := wN_len 2 sq s; first | omega | (unfold wK; omega))).mono ?_
  rintro e w1 ⟨⟨v1, rfl⟩, h2⟩
  have hm1 : MsAt w1 w.heap.size 2 ki ks tg la fa su sz 0 d0 d1 d2 d3 d4 d5 d6 co sq bl sp cr := (HK.out _ _ _ h2).2
  have H2 := Lib.hid h2
  have HM1 := Lib.hid hm1
  clear h2 hm1
  go_wp2_with fail
  go_returns
  exact ⟨⟨_, rfl⟩, (HK.out _ _ _ H2.out).1⟩
theorem rest_2_1 {W w : World} {g : Nat} {A0 : Option Addr} {s : Int × List Int} (c ki ks : Int) (tg la fa su : Bool) (sz n d0 d1 d2 d3 d4 d5 d6 co sq bl sp cr : Int) (hk : canE c fa n sq bl sp = true) (hd : ∀ x ∈ dL d0 d1 d2 d3 d4 d5 d6, 0 ≤ x ∧ x ≤ 255) (hc : c = 2) (hnn : n = 1) (h : WS W g A0 s.1 s.2 w) (hn : s.2.length ≤ 20) :
    Calls Try.prog 38 #[.pointer (some ⟨g, 0, none⟩), .agg #[.int .i64 c, .int .i64 ki, .int .i64 ks, .bool tg, .bool la, .bool fa, .bool su, .int .i64 sz, .int .i64 n, .int .u8 d0, .int .u8 d1, .int .u8 d2, .int .u8 d3, .int .u8 d4, .int .u8 d5, .int .u8 d6, .int .i64 co, .int .i64 sq, .int .i64 bl, .int .i64 sp, .int .i64 cr]] w fun e w' => (∃ v, e = .returned v) ∧ WS W g A0 (restE c ki ks fa sz n (dL d0 d1 d2 d3 d4 d5 d6) co sq bl cr s).1 (restE c ki ks fa sz n (dL d0 d1 d2 d3 d4 d5 d6) co sq bl cr s).2 w' := by
  subst hc
  subst hnn
  have hm : MsAt (w.alloc (.cells #[.int .i64 2, .int .i64 ki, .int .i64 ks, .bool tg, .bool la, .bool fa, .bool su, .int .i64 sz, .int .i64 1, .int .u8 d0, .int .u8 d1, .int .u8 d2, .int .u8 d3, .int .u8 d4, .int .u8 d5, .int .u8 d6, .int .i64 co, .int .i64 sq, .int .i64 bl, .int .i64 sp, .int .i64 cr] 30)) w.heap.size 2 ki ks tg la fa su sz 1 d0 d1 d2 d3 d4 d5 d6 co sq bl sp cr := heap_alloc_new w _
  obtain ⟨A1, h1, hA, hg, hK⟩ := h.box (.cells #[.int .i64 2, .int .i64 ki, .int .i64 ks, .bool tg, .bool la, .bool fa, .bool su, .int .i64 sz, .int .i64 1, .int .u8 d0, .int .u8 d1, .int .u8 d2, .int .u8 d3, .int .u8 d4, .int .u8 d5, .int .u8 d6, .int .i64 co, .int .i64 sq, .int .i64 bl, .int .i64 sp, .int .i64 cr] 30)
  have HM := Lib.hid hm
  have H1 := Lib.hid h1
  have HK := Lib.hid hK
  have HD := Lib.hid hd
  have HN := Lib.hid hn
  clear h1 hK hA hg h hm hd hn hk
  go_enter Try.func38, Try.ntmps38
  go_wp2_with fail
  refine (WS.raw (s := s) H1.out (MsAt.byt HM.out (by simp) HD.out 1 (by omega)) (by have := HN.out; have a1 := wN_len 3 ki s; have a2 := wN_len 2 ks (wN 3 ki s); have a3 := wN_len 2 sq s; first | omega | (unfold wK; omega))).mono ?_
  rintro e w1 ⟨⟨v1, rfl⟩, h2⟩
  have hm1 : MsAt w1 w.heap.size 2 ki ks tg la fa su sz 1 d0 d1 d2 d3 d4 d5 d6 co sq bl sp cr := (HK.out _ _ _ h2).2
  have H2 := Lib.hid h2
  have HM1 := Lib.hid hm1
  clear h2 hm1
  go_wp2_with fail
  go_returns
  exact ⟨⟨_, rfl⟩, (HK.out _ _ _ H2.out).1⟩
theorem rest_2_2 {W w : World} {g : Nat} {A0 : Option Addr} {s : Int × List Int} (c ki ks : Int) (tg la fa su : Bool) (sz n d0 d1 d2 d3 d4 d5 d6 co sq bl sp cr : Int) (hk : canE c fa n sq bl sp = true) (hd : ∀ x ∈ dL d0 d1 d2 d3 d4 d5 d6, 0 ≤ x ∧ x ≤ 255) (hc : c = 2) (hnn : n = 2) (h : WS W g A0 s.1 s.2 w) (hn : s.2.length ≤ 20) :
    Calls Try.prog 38 #[.pointer (some ⟨g, 0, none⟩), .agg #[.int .i64 c, .int .i64 ki, .int .i64 ks, .bool tg, .bool la, .bool fa, .bool su, .int .i64 sz, .int .i64 n, .int .u8 d0, .int .u8 d1, .int .u8 d2, .int .u8 d3, .int .u8 d4, .int .u8 d5, .int .u8 d6, .int .i64 co, .int .i64 sq, .int .i64 bl, .int .i64 sp, .int .i64 cr]] w fun e w' => (∃ v, e = .returned v) ∧ WS W g A0 (restE c ki ks fa sz n (dL d0 d1 d2 d3 d4 d5 d6) co sq bl cr s).1 (restE c ki ks fa sz n (dL d0 d1 d2 d3 d4 d5 d6) co sq bl cr s).2 w' := by
  subst hc
  subst hnn
  have hm : MsAt (w.alloc (.cells #[.int .i64 2, .int .i64 ki, .int .i64 ks, .bool tg, .bool la, .bool fa, .bool su, .int .i64 sz, .int .i64 2, .int .u8 d0, .int .u8 d1, .int .u8 d2, .int .u8 d3, .int .u8 d4, .int .u8 d5, .int .u8 d6, .int .i64 co, .int .i64 sq, .int .i64 bl, .int .i64 sp, .int .i64 cr] 30)) w.heap.size 2 ki ks tg la fa su sz 2 d0 d1 d2 d3 d4 d5 d6 co sq bl sp cr := heap_alloc_new w _
  obtain ⟨A1, h1, hA, hg, hK⟩ := h.box (.cells #[.int .i64 2, .int .i64 ki, .int .i64 ks, .bool tg, .bool la, .bool fa, .bool su, .int .i64 sz, .int .i64 2, .int .u8 d0, .int .u8 d1, .int .u8 d2, .int .u8 d3, .int .u8 d4, .int .u8 d5, .int .u8 d6, .int .i64 co, .int .i64 sq, .int .i64 bl, .int .i64 sp, .int .i64 cr] 30)
  have HM := Lib.hid hm
  have H1 := Lib.hid h1
  have HK := Lib.hid hK
  have HD := Lib.hid hd
  have HN := Lib.hid hn
  clear h1 hK hA hg h hm hd hn hk
  go_enter Try.func38, Try.ntmps38
  go_wp2_with fail
  refine (WS.raw (s := s) H1.out (MsAt.byt HM.out (by simp) HD.out 2 (by omega)) (by have := HN.out; have a1 := wN_len 3 ki s; have a2 := wN_len 2 ks (wN 3 ki s); have a3 := wN_len 2 sq s; first | omega | (unfold wK; omega))).mono ?_
  rintro e w1 ⟨⟨v1, rfl⟩, h2⟩
  have hm1 : MsAt w1 w.heap.size 2 ki ks tg la fa su sz 2 d0 d1 d2 d3 d4 d5 d6 co sq bl sp cr := (HK.out _ _ _ h2).2
  have H2 := Lib.hid h2
  have HM1 := Lib.hid hm1
  clear h2 hm1
  go_wp2_with fail
  go_returns
  exact ⟨⟨_, rfl⟩, (HK.out _ _ _ H2.out).1⟩
theorem rest_2_3 {W w : World} {g : Nat} {A0 : Option Addr} {s : Int × List Int} (c ki ks : Int) (tg la fa su : Bool) (sz n d0 d1 d2 d3 d4 d5 d6 co sq bl sp cr : Int) (hk : canE c fa n sq bl sp = true) (hd : ∀ x ∈ dL d0 d1 d2 d3 d4 d5 d6, 0 ≤ x ∧ x ≤ 255) (hc : c = 2) (hnn : n = 3) (h : WS W g A0 s.1 s.2 w) (hn : s.2.length ≤ 20) :
    Calls Try.prog 38 #[.pointer (some ⟨g, 0, none⟩), .agg #[.int .i64 c, .int .i64 ki, .int .i64 ks, .bool tg, .bool la, .bool fa, .bool su, .int .i64 sz, .int .i64 n, .int .u8 d0, .int .u8 d1, .int .u8 d2, .int .u8 d3, .int .u8 d4, .int .u8 d5, .int .u8 d6, .int .i64 co, .int .i64 sq, .int .i64 bl, .int .i64 sp, .int .i64 cr]] w fun e w' => (∃ v, e = .returned v) ∧ WS W g A0 (restE c ki ks fa sz n (dL d0 d1 d2 d3 d4 d5 d6) co sq bl cr s).1 (restE c ki ks fa sz n (dL d0 d1 d2 d3 d4 d5 d6) co sq bl cr s).2 w' := by
  subst hc
  subst hnn
  have hm : MsAt (w.alloc (.cells #[.int .i64 2, .int .i64 ki, .int .i64 ks, .bool tg, .bool la, .bool fa, .bool su, .int .i64 sz, .int .i64 3, .int .u8 d0, .int .u8 d1, .int .u8 d2, .int .u8 d3, .int .u8 d4, .int .u8 d5, .int .u8 d6, .int .i64 co, .int .i64 sq, .int .i64 bl, .int .i64 sp, .int .i64 cr] 30)) w.heap.size 2 ki ks tg la fa su sz 3 d0 d1 d2 d3 d4 d5 d6 co sq bl sp cr := heap_alloc_new w _
  obtain ⟨A1, h1, hA, hg, hK⟩ := h.box (.cells #[.int .i64 2, .int .i64 ki, .int .i64 ks, .bool tg, .bool la, .bool fa, .bool su, .int .i64 sz, .int .i64 3, .int .u8 d0, .int .u8 d1, .int .u8 d2, .int .u8 d3, .int .u8 d4, .int .u8 d5, .int .u8 d6, .int .i64 co, .int .i64 sq, .int .i64 bl, .int .i64 sp, .int .i64 cr] 30)
  have HM := Lib.hid hm
  have H1 := Lib.hid h1
  have HK := Lib.hid hK
  have HD := Lib.hid hd
  have HN := Lib.hid hn
  clear h1 hK hA hg h hm hd hn hk
  go_enter Try.func38, Try.ntmps38
  go_wp2_with fail
  refine (WS.raw (s := s) H1.out (MsAt.byt HM.out (by simp) HD.out 3 (by omega)) (by have := HN.out; have a1 := wN_len 3 ki s; have a2 := wN_len 2 ks (wN 3 ki s); have a3 := wN_len 2 sq s; first | omega | (unfold wK; omega))).mono ?_
  rintro e w1 ⟨⟨v1, rfl⟩, h2⟩
  have hm1 : MsAt w1 w.heap.size 2 ki ks tg la fa su sz 3 d0 d1 d2 d3 d4 d5 d6 co sq bl sp cr := (HK.out _ _ _ h2).2
  have H2 := Lib.hid h2
  have HM1 := Lib.hid hm1
  clear h2 hm1
  go_wp2_with fail
  go_returns
  exact ⟨⟨_, rfl⟩, (HK.out _ _ _ H2.out).1⟩
theorem rest_2_4 {W w : World} {g : Nat} {A0 : Option Addr} {s : Int × List Int} (c ki ks : Int) (tg la fa su : Bool) (sz n d0 d1 d2 d3 d4 d5 d6 co sq bl sp cr : Int) (hk : canE c fa n sq bl sp = true) (hd : ∀ x ∈ dL d0 d1 d2 d3 d4 d5 d6, 0 ≤ x ∧ x ≤ 255) (hc : c = 2) (hnn : n = 4) (h : WS W g A0 s.1 s.2 w) (hn : s.2.length ≤ 20) :
    Calls Try.prog 38 #[.pointer (some ⟨g, 0, none⟩), .agg #[.int .i64 c, .int .i64 ki, .int .i64 ks, .bool tg, .bool la, .bool fa, .bool su, .int .i64 sz, .int .i64 n, .int .u8 d0, .int .u8 d1, .int .u8 d2, .int .u8 d3, .int .u8 d4, .int .u8 d5, .int .u8 d6, .int .i64 co, .int .i64 sq, .int .i64 bl, .int .i64 sp, .int .i64 cr]] w fun e w' => (∃ v, e = .returned v) ∧ WS W g A0 (restE c ki ks fa sz n (dL d0 d1 d2 d3 d4 d5 d6) co sq bl cr s).1 (restE c ki ks fa sz n (dL d0 d1 d2 d3 d4 d5 d6) co sq bl cr s).2 w' := by
  subst hc
  subst hnn
  have hm : MsAt (w.alloc (.cells #[.int .i64 2, .int .i64 ki, .int .i64 ks, .bool tg, .bool la, .bool fa, .bool su, .int .i64 sz, .int .i64 4, .int .u8 d0, .int .u8 d1, .int .u8 d2, .int .u8 d3, .int .u8 d4, .int .u8 d5, .int .u8 d6, .int .i64 co, .int .i64 sq, .int .i64 bl, .int .i64 sp, .int .i64 cr] 30)) w.heap.size 2 ki ks tg la fa su sz 4 d0 d1 d2 d3 d4 d5 d6 co sq bl sp cr := heap_alloc_new w _
  obtain ⟨A1, h1, hA, hg, hK⟩ := h.box (.cells #[.int .i64 2, .int .i64 ki, .int .i64 ks, .bool tg, .bool la, .bool fa, .bool su, .int .i64 sz, .int .i64 4, .int .u8 d0, .int .u8 d1, .int .u8 d2, .int .u8 d3, .int .u8 d4, .int .u8 d5, .int .u8 d6, .int .i64 co, .int .i64 sq, .int .i64 bl, .int .i64 sp, .int .i64 cr] 30)
  have HM := Lib.hid hm
  have H1 := Lib.hid h1
  have HK := Lib.hid hK
  have HD := Lib.hid hd
  have HN := Lib.hid hn
  clear h1 hK hA hg h hm hd hn hk
  go_enter Try.func38, Try.ntmps38
  go_wp2_with fail
  refine (WS.raw (s := s) H1.out (MsAt.byt HM.out (by simp) HD.out 4 (by omega)) (by have := HN.out; have a1 := wN_len 3 ki s; have a2 := wN_len 2 ks (wN 3 ki s); have a3 := wN_len 2 sq s; first | omega | (unfold wK; omega))).mono ?_
  rintro e w1 ⟨⟨v1, rfl⟩, h2⟩
  have hm1 : MsAt w1 w.heap.size 2 ki ks tg la fa su sz 4 d0 d1 d2 d3 d4 d5 d6 co sq bl sp cr := (HK.out _ _ _ h2).2
  have H2 := Lib.hid h2
  have HM1 := Lib.hid hm1
  clear h2 hm1
  go_wp2_with fail
  go_returns
  exact ⟨⟨_, rfl⟩, (HK.out _ _ _ H2.out).1⟩
theorem rest_2_5 {W w : World} {g : Nat} {A0 : Option Addr} {s : Int × List Int} (c ki ks : Int) (tg la fa su : Bool) (sz n d0 d1 d2 d3 d4 d5 d6 co sq bl sp cr : Int) (hk : canE c fa n sq bl sp = true) (hd : ∀ x ∈ dL d0 d1 d2 d3 d4 d5 d6, 0 ≤ x ∧ x ≤ 255) (hc : c = 2) (hnn : n = 5) (h : WS W g A0 s.1 s.2 w) (hn : s.2.length ≤ 20) :
    Calls Try.prog 38 #[.pointer (some ⟨g, 0, none⟩), .agg #[.int .i64 c, .int .i64 ki, .int .i64 ks, .bool tg, .bool la, .bool fa, .bool su, .int .i64 sz, .int .i64 n, .int .u8 d0, .int .u8 d1, .int .u8 d2, .int .u8 d3, .int .u8 d4, .int .u8 d5, .int .u8 d6, .int .i64 co, .int .i64 sq, .int .i64 bl, .int .i64 sp, .int .i64 cr]] w fun e w' => (∃ v, e = .returned v) ∧ WS W g A0 (restE c ki ks fa sz n (dL d0 d1 d2 d3 d4 d5 d6) co sq bl cr s).1 (restE c ki ks fa sz n (dL d0 d1 d2 d3 d4 d5 d6) co sq bl cr s).2 w' := by
  subst hc
  subst hnn
  have hm : MsAt (w.alloc (.cells #[.int .i64 2, .int .i64 ki, .int .i64 ks, .bool tg, .bool la, .bool fa, .bool su, .int .i64 sz, .int .i64 5, .int .u8 d0, .int .u8 d1, .int .u8 d2, .int .u8 d3, .int .u8 d4, .int .u8 d5, .int .u8 d6, .int .i64 co, .int .i64 sq, .int .i64 bl, .int .i64 sp, .int .i64 cr] 30)) w.heap.size 2 ki ks tg la fa su sz 5 d0 d1 d2 d3 d4 d5 d6 co sq bl sp cr := heap_alloc_new w _
  obtain ⟨A1, h1, hA, hg, hK⟩ := h.box (.cells #[.int .i64 2, .int .i64 ki, .int .i64 ks, .bool tg, .bool la, .bool fa, .bool su, .int .i64 sz, .int .i64 5, .int .u8 d0, .int .u8 d1, .int .u8 d2, .int .u8 d3, .int .u8 d4, .int .u8 d5, .int .u8 d6, .int .i64 co, .int .i64 sq, .int .i64 bl, .int .i64 sp, .int .i64 cr] 30)
  have HM := Lib.hid hm
  have H1 := Lib.hid h1
  have HK := Lib.hid hK
  have HD := Lib.hid hd
  have HN := Lib.hid hn
  clear h1 hK hA hg h hm hd hn hk
  go_enter Try.func38, Try.ntmps38
  go_wp2_with fail
  refine (WS.raw (s := s) H1.out (MsAt.byt HM.out (by simp) HD.out 5 (by omega)) (by have := HN.out; have a1 := wN_len 3 ki s; have a2 := wN_len 2 ks (wN 3 ki s); have a3 := wN_len 2 sq s; first | omega | (unfold wK; omega))).mono ?_
  rintro e w1 ⟨⟨v1, rfl⟩, h2⟩
  have hm1 : MsAt w1 w.heap.size 2 ki ks tg la fa su sz 5 d0 d1 d2 d3 d4 d5 d6 co sq bl sp cr := (HK.out _ _ _ h2).2
  have H2 := Lib.hid h2
  have HM1 := Lib.hid hm1
  clear h2 hm1
  go_wp2_with fail
  go_returns
  exact ⟨⟨_, rfl⟩, (HK.out _ _ _ H2.out).1⟩
theorem rest_2_6 {W w : World} {g : Nat} {A0 : Option Addr} {s : Int × List Int} (c ki ks : Int) (tg la fa su : Bool) (sz n d0 d1 d2 d3 d4 d5 d6 co sq bl sp cr : Int) (hk : canE c fa n sq bl sp = true) (hd : ∀ x ∈ dL d0 d1 d2 d3 d4 d5 d6, 0 ≤ x ∧ x ≤ 255) (hc : c = 2) (hnn : n = 6) (h : WS W g A0 s.1 s.2 w) (hn : s.2.length ≤ 20) :
    Calls Try.prog 38 #[.pointer (some ⟨g, 0, none⟩), .agg #[.int .i64 c, .int .i64 ki, .int .i64 ks, .bool tg, .bool la, .bool fa, .bool su, .int .i64 sz, .int .i64 n, .int .u8 d0, .int .u8 d1, .int .u8 d2, .int .u8 d3, .int .u8 d4, .int .u8 d5, .int .u8 d6, .int .i64 co, .int .i64 sq, .int .i64 bl, .int .i64 sp, .int .i64 cr]] w fun e w' => (∃ v, e = .returned v) ∧ WS W g A0 (restE c ki ks fa sz n (dL d0 d1 d2 d3 d4 d5 d6) co sq bl cr s).1 (restE c ki ks fa sz n (dL d0 d1 d2 d3 d4 d5 d6) co sq bl cr s).2 w' := by
  subst hc
  subst hnn
  have hm : MsAt (w.alloc (.cells #[.int .i64 2, .int .i64 ki, .int .i64 ks, .bool tg, .bool la, .bool fa, .bool su, .int .i64 sz, .int .i64 6, .int .u8 d0, .int .u8 d1, .int .u8 d2, .int .u8 d3, .int .u8 d4, .int .u8 d5, .int .u8 d6, .int .i64 co, .int .i64 sq, .int .i64 bl, .int .i64 sp, .int .i64 cr] 30)) w.heap.size 2 ki ks tg la fa su sz 6 d0 d1 d2 d3 d4 d5 d6 co sq bl sp cr := heap_alloc_new w _
  obtain ⟨A1, h1, hA, hg, hK⟩ := h.box (.cells #[.int .i64 2, .int .i64 ki, .int .i64 ks, .bool tg, .bool la, .bool fa, .bool su, .int .i64 sz, .int .i64 6, .int .u8 d0, .int .u8 d1, .int .u8 d2, .int .u8 d3, .int .u8 d4, .int .u8 d5, .int .u8 d6, .int .i64 co, .int .i64 sq, .int .i64 bl, .int .i64 sp, .int .i64 cr] 30)
  have HM := Lib.hid hm
  have H1 := Lib.hid h1
  have HK := Lib.hid hK
  have HD := Lib.hid hd
  have HN := Lib.hid hn
  clear h1 hK hA hg h hm hd hn hk
  go_enter Try.func38, Try.ntmps38
  go_wp2_with fail
  refine (WS.raw (s := s) H1.out (MsAt.byt HM.out (by simp) HD.out 6 (by omega)) (by have := HN.out; have a1 := wN_len 3 ki s; have a2 := wN_len 2 ks (wN 3 ki s); have a3 := wN_len 2 sq s; first | omega | (unfold wK; omega))).mono ?_
  rintro e w1 ⟨⟨v1, rfl⟩, h2⟩
  have hm1 : MsAt w1 w.heap.size 2 ki ks tg la fa su sz 6 d0 d1 d2 d3 d4 d5 d6 co sq bl sp cr := (HK.out _ _ _ h2).2
  have H2 := Lib.hid h2
  have HM1 := Lib.hid hm1
  clear h2 hm1
  go_wp2_with fail
  go_returns
  exact ⟨⟨_, rfl⟩, (HK.out _ _ _ H2.out).1⟩
theorem rest_2_7 {W w : World} {g : Nat} {A0 : Option Addr} {s : Int × List Int} (c ki ks : Int) (tg la fa su : Bool) (sz n d0 d1 d2 d3 d4 d5 d6 co sq bl sp cr : Int) (hk : canE c fa n sq bl sp = true) (hd : ∀ x ∈ dL d0 d1 d2 d3 d4 d5 d6, 0 ≤ x ∧ x ≤ 255) (hc : c = 2) (hnn : n = 7) (h : WS W g A0 s.1 s.2 w) (hn : s.2.length ≤ 20) :
    Calls Try.prog 38 #[.pointer (some ⟨g, 0, none⟩), .agg #[.int .i64 c, .int .i64 ki, .int .i64 ks, .bool tg, .bool la, .bool fa, .bool su, .int .i64 sz, .int .i64 n, .int .u8 d0, .int .u8 d1, .int .u8 d2, .int .u8 d3, .int .u8 d4, .int .u8 d5, .int .u8 d6, .int .i64 co, .int .i64 sq, .int .i64 bl, .int .i64 sp, .int .i64 cr]] w fun e w' => (∃ v, e = .returned v) ∧ WS W g A0 (restE c ki ks fa sz n (dL d0 d1 d2 d3 d4 d5 d6) co sq bl cr s).1 (restE c ki ks fa sz n (dL d0 d1 d2 d3 d4 d5 d6) co sq bl cr s).2 w' := by
  subst hc
  subst hnn
  have hm : MsAt (w.alloc (.cells #[.int .i64 2, .int .i64 ki, .int .i64 ks, .bool tg, .bool la, .bool fa, .bool su, .int .i64 sz, .int .i64 7, .int .u8 d0, .int .u8 d1, .int .u8 d2, .int .u8 d3, .int .u8 d4, .int .u8 d5, .int .u8 d6, .int .i64 co, .int .i64 sq, .int .i64 bl, .int .i64 sp, .int .i64 cr] 30)) w.heap.size 2 ki ks tg la fa su sz 7 d0 d1 d2 d3 d4 d5 d6 co sq bl sp cr := heap_alloc_new w _
  obtain ⟨A1, h1, hA, hg, hK⟩ := h.box (.cells #[.int .i64 2, .int .i64 ki, .int .i64 ks, .bool tg, .bool la, .bool fa, .bool su, .int .i64 sz, .int .i64 7, .int .u8 d0, .int .u8 d1, .int .u8 d2, .int .u8 d3, .int .u8 d4, .int .u8 d5, .int .u8 d6, .int .i64 co, .int .i64 sq, .int .i64 bl, .int .i64 sp, .int .i64 cr] 30)
  have HM := Lib.hid hm
  have H1 := Lib.hid h1
  have HK := Lib.hid hK
  have HD := Lib.hid hd
  have HN := Lib.hid hn
  clear h1 hK hA hg h hm hd hn hk
  go_enter Try.func38, Try.ntmps38
  go_wp2_with fail
  refine (WS.raw (s := s) H1.out (MsAt.byt HM.out (by simp) HD.out 7 (by omega)) (by have := HN.out; have a1 := wN_len 3 ki s; have a2 := wN_len 2 ks (wN 3 ki s); have a3 := wN_len 2 sq s; first | omega | (unfold wK; omega))).mono ?_
  rintro e w1 ⟨⟨v1, rfl⟩, h2⟩
  have hm1 : MsAt w1 w.heap.size 2 ki ks tg la fa su sz 7 d0 d1 d2 d3 d4 d5 d6 co sq bl sp cr := (HK.out _ _ _ h2).2
  have H2 := Lib.hid h2
  have HM1 := Lib.hid hm1
  clear h2 hm1
  go_wp2_with fail
  go_returns
  exact ⟨⟨_, rfl⟩, (HK.out _ _ _ H2.out).1⟩
theorem rest_11_0 {W w : World} {g : Nat} {A0 : Option Addr} {s : Int × List Int} (c ki ks : Int) (tg la fa su : Bool) (sz n d0 d1 d2 d3 d4 d5 d6 co sq bl sp cr : Int) (hk : canE c fa n sq bl sp = true) (hd : ∀ x ∈ dL d0 d1 d2 d3 d4 d5 d6, 0 ≤ x ∧ x ≤ 255) (hc : c = 11) (hnn : n = 0) (h : WS W g A0 s.1 s.2 w) (hn : s.2.length ≤ 20) :
    Calls Try.prog 38 #[.pointer (some ⟨g, 0, none⟩), .agg #[.int .i64 c, .int .i64 ki, .int .i64 ks, .bool tg, .bool la, .bool fa, .bool su, .int .i64 sz, .int .i64 n, .int .u8 d0, .int .u8 d1, .int .u8 d2, .int .u8 d3, .int .u8 d4, .int .u8 d5, .int .u8 d6, .int .i64 co, .int .i64 sq, .int .i64 bl, .int .i64 sp, .int .i64 cr]] w fun e w' => (∃ v, e = .returned v) ∧ WS W g A0 (restE c ki ks fa sz n (dL d0 d1 d2 d3 d4 d5 d6) co sq bl cr s).1 (restE c ki ks fa sz n (dL d0 d1 d2 d3 d4 d5 d6) co sq bl cr s).2 w' := by
  subst hc
  subst hnn
  have hm : MsAt (w.alloc (.cells #[.int .i64 11, .int .i64 ki, .int .i64 ks, .bool tg, .bool la, .bool fa, .bool su, .int .i64 sz, .int .i64 0, .int .u8 d0, .int .u8 d1, .int .u8 d2, .int .u8 d3, .int .u8 d4, .int .u8 d5, .int .u8 d6, .int .i64 co, .int .i64 sq, .int .i64 bl, .int .i64 sp, .int .i64 cr] 30)) w.heap.size 11 ki ks tg la fa su sz 0 d0 d1 d2 d3 d4 d5 d6 co sq bl sp cr := heap_alloc_new w _
  obtain ⟨A1, h1, hA, hg, hK⟩ := h.box (.cells #[.int .i64 11, .int .i64 ki, .int .i64 ks, .bool tg, .bool la, .bool fa, .bool su, .int .i64 sz, .int .i64 0, .int .u8 d0, .int .u8 d1, .int .u8 d2, .int .u8 d3, .int .u8 d4, .int .u8 d5, .int .u8 d6, .int .i64 co, .int .i64 sq, .int .i64 bl, .int .i64 sp, .int .i64 cr] 30)
  have HM := Lib.hid hm
  have H1 := Lib.hid h1
  have HK := Lib.hid hK
  have HD := Lib.hid hd
  have HN := Lib.hid hn
  clear h1 hK hA hg h hm hd hn hk
  go_enter Try.func38, Try.ntmps38
  go_wp2_with fail
  refine (WS.raw (s := s) H1.out (MsAt.byt HM.out (by simp) HD.out 0 (by omega)) (by have := HN.out; have a1 := wN_len 3 ki s; have a2 := wN_len 2 ks (wN 3 ki s); have a3 := wN_len 2 sq s; first | omega | (unfold wK; omega))).mono ?_
  rintro e w1 ⟨⟨v1, rfl⟩, h2⟩
  have hm1 : MsAt w1 w.heap.size 11 ki ks tg la fa su sz 0 d0 d1 d2 d3 d4 d5 d6 co sq bl sp cr := (HK.out _ _ _ h2).2
  have H2 := Lib.hid h2
  have HM1 := Lib.hid hm1
  clear h2 hm1
  go_wp2_with fail
  go_returns
  exact ⟨⟨_, rfl⟩, (HK.out _ _ _ H2.out).1⟩
theorem rest_11_1 {W w : World} {g : Nat} {A0 : Option Addr} {s : Int × List Int} (c ki ks : Int) (tg la fa su : Bool) (sz n d0 d1 d2 d3 d4 d5 d6 co sq bl sp cr : Int) (hk : canE c fa n sq bl sp = true) (hd : ∀ x ∈ dL d0 d1 d2 d3 d4 d5 d6, 0 ≤ x ∧ x ≤ 255) (hc : c = 11) (hnn : n = 1) (h : WS W g A0 s.1 s.2 w) (hn : s.2.length ≤ 20) :
    Calls Try.prog 38 #[.pointer (some ⟨g, 0, none⟩), .agg #[.int .i64 c, .int .i64 ki, .int .i64 ks, .bool tg, .bool la, .bool fa, .bool su, .int .i64 sz, .int .i64 n, .int .u8 d0, .int .u8 d1, .int .u8 d2, .int .u8 d3, .int .u8 d4, .int .u8 d5, .int .u8 d6, .int .i64 co, .int .i64 sq, .int .i64 bl, .int .i64 sp, .int .i64 cr]] w fun e w' => (∃ v, e = .returned v) ∧ WS W g A0 (restE c ki ks fa sz n (dL d0 d1 d2 d3 d4 d5 d6) co sq bl cr s).1 (restE c ki ks fa sz n (dL d0 d1 d2 d3 d4 d5 d6) co sq bl cr s).2 w' := by
  subst hc
  subst hnn
  have hm : MsAt (w.alloc (.cells #[.int .i64 11, .int .i64 ki, .int .i64 ks, .bool tg, .bool la, .bool fa, .bool su, .int .i64 sz, .int .i64 1, .int .u8 d0, .int .u8 d1, .int .u8 d2, .int .u8 d3, .int .u8 d4, .int .u8 d5, .int .u8 d6, .int .i64 co, .int .i64 sq, .int .i64 bl, .int .i64 sp, .int .i64 cr] 30)) w.heap.size 11 ki ks tg la fa su sz 1 d0 d1 d2 d3 d4 d5 d6 co sq bl sp cr := heap_alloc_new w _
  obtain ⟨A1, h1, hA, hg, hK⟩ := h.box (.cells #[.int .i64 11, .int .i64 ki, .int .i64 ks, .bool tg, .bool la, .bool fa, .bool su, .int .i64 sz, .int .i64 1, .int .u8 d0, .int .u8 d1, .int .u8 d2, .int .u8 d3, .int .u8 d4, .int .u8 d5, .int .u8 d6, .int .i64 co, .int .i64 sq, .int .i64 bl, .int .i64 sp, .int .i64 cr] 30)
  have HM := Lib.hid hm
  have H1 := Lib.hid h1
  have HK := Lib.hid hK
  have HD := Lib.hid hd
  have HN := Lib.hid hn
  clear h1 hK hA hg h hm hd hn hk
  go_enter Try.func38, Try.ntmps38
  go_wp2_with fail
  refine (WS.raw (s := s) H1.out (MsAt.byt HM.out (by simp) HD.out 1 (by omega)) (by have := HN.out; have a1 := wN_len 3 ki s; have a2 := wN_len 2 ks (wN 3 ki s); have a3 := wN_len 2 sq s; first | omega | (unfold wK; omega))).mono ?_
  rintro e w1 ⟨⟨v1, rfl⟩, h2⟩
  have hm1 : MsAt w1 w.heap.size 11 ki ks tg la fa su sz 1 d0 d1 d2 d3 d4 d5 d6 co sq bl sp cr := (HK.out _ _ _ h2).2
  have H2 := Lib.hid h2
  have HM1 := Lib.hid hm1
  clear h2 hm1
  go_wp2_with fail
  go_returns
  exact ⟨⟨_, rfl⟩, (HK.out _ _ _ H2.out).1⟩
theorem rest_11_2 {W w : World} {g : Nat} {A0 : Option Addr} {s : Int × List Int} (c ki ks : Int) (tg la fa su : Bool) (sz n d0 d1 d2 d3 d4 d5 d6 co sq bl sp cr : Int) (hk : canE c fa n sq bl sp = true) (hd : ∀ x ∈ dL d0 d1 d2 d3 d4 d5 d6, 0 ≤ x ∧ x ≤ 255) (hc : c = 11) (hnn : n = 2) (h : WS W g A0 s.1 s.2 w) (hn : s.2.length ≤ 20) :
    Calls Try.prog 38 #[.pointer (some ⟨g, 0, none⟩), .agg #[.int .i64 c, .int .i64 ki, .int .i64 ks, .bool tg, .bool la, .bool fa, .bool su, .int .i64 sz, .int .i64 n, .int .u8 d0, .int .u8 d1, .int .u8 d2, .int .u8 d3, .int .u8 d4, .int .u8 d5, .int .u8 d6, .int .i64 co, .int .i64 sq, .int .i64 bl, .int .i64 sp, .int .i64 cr]] w fun e w' => (∃ v, e = .returned v) ∧ WS W g A0 (restE c ki ks fa sz n (dL d0 d1 d2 d3 d4 d5 d6) co sq bl cr s).1 (restE c ki ks fa sz n (dL d0 d1 d2 d3 d4 d5 d6) co sq bl cr s).2 w' := by
  subst hc
  subst hnn
  have hm : MsAt (w.alloc (.cells #[.int .i64 11, .int .i64 ki, .int .i64 ks, .bool tg, .bool la, .bool fa, .bool su, .int .i64 sz, .int .i64 2, .int .u8 d0, .int .u8 d1, .int .u8 d2, .int .u8 d3, .int .u8 d4, .int .u8 d5, .int .u8 d6, .int .i64 co, .int .i64 sq, .int .i64 bl, .int .i64 sp, .int .i64 cr] 30)) w.heap.size 11 ki ks tg la fa su sz 2 d0 d1 d2 d3 d4 d5 d6 co sq bl sp cr := heap_alloc_new w _
  obtain ⟨A1, h1, hA, hg, hK⟩ := h.box (.cells #[.int .i64 11, .int .i64 ki, .int .i64 ks, .bool tg, .bool la, .bool fa, .bool su, .int .i64 sz, .int .i64 2, .int .u8 d0, .int .u8 d1, .int .u8 d2, .int .u8 d3, .int .u8 d4, .int .u8 d5, .int .u8 d6, .int .i64 co, .int .i64 sq, .int .i64 bl, .int .i64 sp, .int .i64 cr] 30)
  have HM := Lib.hid hm
  have H1 := Lib.hid h1
  have HK := Lib.hid hK
  have HD := Lib.hid hd
  have HN := Lib.hid hn
  clear h1 hK hA hg h hm hd hn hk
  go_enter Try.func38, Try.ntmps38
  go_wp2_with fail
  refine (WS.raw (s := s) H1.out (MsAt.byt HM.out (by simp) HD.out 2 (by omega)) (by have := HN.out; have a1 := wN_len 3 ki s; have a2 := wN_len 2 ks (wN 3 ki s); have a3 := wN_len 2 sq s; first | omega | (unfold wK; omega))).mono ?_
  rintro e w1 ⟨⟨v1, rfl⟩, h2⟩
  have hm1 : MsAt w1 w.heap.size 11 ki ks tg la fa su sz 2 d0 d1 d2 d3 d4 d5 d6 co sq bl sp cr := (HK.out _ _ _ h2).2
  have H2 := Lib.hid h2
  have HM1 := Lib.hid hm1
  clear h2 hm1
  go_wp2_with fail
  go_returns
  exact ⟨⟨_, rfl⟩, (HK.out _ _ _ H2.out).1⟩
theorem rest_11_3 {W w : World} {g : Nat} {A0 : Option Addr} {s : Int × List Int} (c ki ks : Int) (tg la fa su : Bool) (sz n d0 d1 d2 d3 d4 d5 d6 co sq bl sp cr : Int) (hk : canE c fa n sq bl sp = true) (hd : ∀ x ∈ dL d0 d1 d2 d3 d4 d5 d6, 0 ≤ x ∧ x ≤ 255) (hc : c = 11) (hnn : n = 3) (h : WS W g A0 s.1 s.2 w) (hn : s.2.length ≤ 20) :
    Calls Try.prog 38 #[.pointer (some ⟨g, 0, none⟩), .agg #[.int .i64 c, .int .i64 ki, .int .i64 ks, .bool tg, .bool la, .bool fa, .bool su, .int .i64 sz, .int .i64 n, .int .u8 d0, .int .u8 d1, .int .u8 d2, .int .u8 d3, .int .u8 d4, .int .u8 d5, .int .u8 d6, .int .i64 co, .int .i64 sq, .int .i64 bl, .int .i64 sp, .int .i64 cr]] w fun e w' => (∃ v, e = .returned v) ∧ WS W g A0 (restE c ki ks fa sz n (dL d0 d1 d2 d3 d4 d5 d6) co sq bl cr s).1 (restE c ki ks fa sz n (dL d0 d1 d2 d3 d4 d5 d6) co sq bl cr s).2 w' := by
  subst hc
  subst hnn
  have hm : MsAt (w.alloc (.cells #[.int .i64 11, .int .i64 ki, .int .i64 ks, .bool tg, .bool la, .bool fa, .bool su, .int .i64 sz, .int .i64 3, .int .u8 d0, .int .u8 d1, .int .u8 d2, .int .u8 d3, .int .u8 d4, .int .u8 d5, .int .u8 d6, .int .i64 co, .int .i64 sq, .int .i64 bl, .int .i64 sp, .int .i64 cr] 30)) w.heap.size 11 ki ks tg la fa su sz 3 d0 d1 d2 d3 d4 d5 d6 co sq bl sp cr := heap_alloc_new w _
  obtain ⟨A1, h1, hA, hg, hK⟩ := h.box (.cells #[.int .i64 11, .int .i64 ki, .int .i64 ks, .bool tg, .bool la, .bool fa, .bool su, .int .i64 sz, .int .i64 3, .int .u8 d0, .int .u8 d1, .int .u8 d2, .int .u8 d3, .int .u8 d4, .int .u8 d5, .int .u8 d6, .int .i64 co, .int .i64 sq, .int .i64 bl, .int .i64 sp, .int .i64 cr] 30)
  have HM := Lib.hid hm
  have H1 := Lib.hid h1
  have HK := Lib.hid hK
  have HD := Lib.hid hd
  have HN := Lib.hid hn
  clear h1 hK hA hg h hm hd hn hk
  go_enter Try.func38, Try.ntmps38
  go_wp2_with fail
  refine (WS.raw (s := s) H1.out (MsAt.byt HM.out (by simp) HD.out 3 (by omega)) (by have := HN.out; have a1 := wN_len 3 ki s; have a2 := wN_len 2 ks (wN 3 ki s); have a3 := wN_len 2 sq s; first | omega | (unfold wK; omega))).mono ?_
  rintro e w1 ⟨⟨v1, rfl⟩, h2⟩
  have hm1 : MsAt w1 w.heap.size 11 ki ks tg la fa su sz 3 d0 d1 d2 d3 d4 d5 d6 co sq bl sp cr := (HK.out _ _ _ h2).2
  have H2 := Lib.hid h2
  have HM1 := Lib.hid hm1
  clear h2 hm1
  go_wp2_with fail
  go_returns
  exact ⟨⟨_, rfl⟩, (HK.out _ _ _ H2.out).1⟩
theorem rest_11_4 {W w : World} {g : Nat} {A0 : Option Addr} {s : Int × List Int} (c ki ks : Int) (tg la fa su : Bool) (sz n d0 d1 d2 d3 d4 d5 d6 co sq bl sp cr : Int) (hk : canE c fa n sq bl sp = true) (hd : ∀ x ∈ dL d0 d1 d2 d3 d4 d5 d6, 0 ≤ x ∧ x ≤ 255) (hc : c = 11) (hnn : n = 4) (h : WS W g A0 s.1 s.2 w) (hn : s.2.length ≤ 20) :
    Calls Try.prog 38 #[.pointer (some ⟨g, 0, none⟩), .agg #[.int .i64 c, .int .i64 ki, .int .i64 ks, .bool tg, .bool la, .bool fa, .bool su, .int .i64 sz, .int .i64 n, .int .u8 d0, .int .u8 d1, .int .u8 d2, .int .u8 d3, .int .u8 d4, .int .u8 d5, .int .u8 d6, .int .i64 co, .int .i64 sq, .int .i64 bl, .int .i64 sp, .int .i64 cr]] w fun e w' => (∃ v, e = .returned v) ∧ WS W g A0 (restE c ki ks fa sz n (dL d0 d1 d2 d3 d4 d5 d6) co sq bl cr s).1 (restE c ki ks fa sz n (dL d0 d1 d2 d3 d4 d5 d6) co sq bl cr s).2 w' := by
  subst hc
  subst hnn
  have hm : MsAt (w.alloc (.cells #[.int .i64 11, .int .i64 ki, .int .i64 ks, .bool tg, .bool la, .bool fa, .bool su, .int .i64 sz, .int .i64 4, .int .u8 d0, .int .u8 d1, .int .u8 d2, .int .u8 d3, .int .u8 d4, .int .u8 d5, .int .u8 d6, .int .i64 co, .int .i64 sq, .int .i64 bl, .int .i64 sp, .int .i64 cr] 30)) w.heap.size 11 ki ks tg la fa su sz 4 d0 d1 d2 d3 d4 d5 d6 co sq bl sp cr := heap_alloc_new w _
  obtain ⟨A1, h1, hA, hg, hK⟩ := h.box (.cells #[.int .i64 11, .int .i64 ki, .int .i64 ks, .bool tg, .bool la, .bool fa, .bool su, .int .i64 sz, .int .i64 4, .int .u8 d0, .int .u8 d1, .int .u8 d2, .int .u8 d3, .int .u8 d4, .int .u8 d5, .int .u8 d6, .int .i64 co, .int .i64 sq, .int .i64 bl, .int .i64 sp, .int .i64 cr] 30)
  have HM := Lib.hid hm
  have H1 := Lib.hid h1
  have HK := Lib.hid hK
  have HD := Lib.hid hd
  have HN := Lib.hid hn
  clear h1 hK hA hg h hm hd hn hk
  go_enter Try.func38, Try.ntmps38
  go_wp2_with fail
  refine (WS.raw (s := s) H1.out (MsAt.byt HM.out (by simp) HD.out 4 (by omega)) (by have := HN.out; have a1 := wN_len 3 ki s; have a2 := wN_len 2 ks (wN 3 ki s); have a3 := wN_len 2 sq s; first | omega | (unfold wK; omega))).mono ?_
  rintro e w1 ⟨⟨v1, rfl⟩, h2⟩
  have hm1 : MsAt w1 w.heap.size 11 ki ks tg la fa su sz 4 d0 d1 d2 d3 d4 d5 d6 co sq bl sp cr := (HK.out _ _ _ h2).2
  have H2 := Lib.hid h2
  have HM1 := Lib.hid hm1
  clear h2 hm1
  go_wp2_with fail
  go_returns
  exact ⟨⟨_, rfl⟩, (HK.out _ _ _ H2.out).1⟩
theorem rest_11_5 {W w : World} {g : Nat} {A0 : Option Addr} {s : Int × List Int} (c ki ks : Int) (tg la fa su : Bool) (sz n d0 d1 d2 d3 d4 d5 d6 co sq bl sp cr : Int) (hk : canE c fa n sq bl sp = true) (hd : ∀ x ∈ dL d0 d1 d2 d3 d4 d5 d6, 0 ≤ x ∧ x ≤ 255) (hc : c = 11) (hnn : n = 5) (h : WS W g A0 s.1 s.2 w) (hn : s.2.length ≤ 20) :
    Calls Try.prog 38 #[.pointer (some ⟨g, 0, none⟩), .agg #[.int .i64 c, .int .i64 ki, .int .i64 ks, .bool tg, .bool la, .bool fa, .bool su, .int .i64 sz, .int .i64 n, .int .u8 d0, .int .u8 d1, .int .u8 d2, .int .u8 d3, .int .u8 d4, .int .u8 d5, .int .u8 d6, .int .i64 co, .int .i64 sq, .int .i64 bl, .int .i64 sp, .int .i64 cr]] w fun e w' => (∃ v, e = .returned v) ∧ WS W g A0 (restE c ki ks fa sz n (dL d0 d1 d2 d3 d4 d5 d6) co sq bl cr s).1 (restE c ki ks fa sz n (dL d0 d1 d2 d3 d4 d5 d6) co sq bl cr s).2 w' := by
  subst hc
  subst hnn
  have hm : MsAt (w.alloc (.cells #[.int .i64 11, .int .i64 ki, .int .i64 ks, .bool tg, .bool la, .bool fa, .bool su, .int .i64 sz, .int .i64 5, .int .u8 d0, .int .u8 d1, .int .u8 d2, .int .u8 d3, .int .u8 d4, .int .u8 d5, .int .u8 d6, .int .i64 co, .int .i64 sq, .int .i64 bl, .int .i64 sp, .int .i64 cr] 30)) w.heap.size 11 ki ks tg la fa su sz 5 d0 d1 d2 d3 d4 d5 d6 co sq bl sp cr := heap_alloc_new w _
  obtain ⟨A1, h1, hA, hg, hK⟩ := h.box (.cells #[.int .i64 11, .int .i64 ki, .int .i64 ks, .bool tg, .bool la, .bool fa, .bool su, .int .i64 sz, .int .i64 5, .int .u8 d0, .int .u8 d1, .int .u8 d2, .int .u8 d3, .int .u8 d4, .int .u8 d5, .int .u8 d6, .int .i64 co, .int .i64 sq, .int .i64 bl, .int .i64 sp, .int .i64 cr] 30)
  have HM := Lib.hid hm
  have H1 := Lib.hid h1
  have HK := Lib.hid hK
  have HD := Lib.hid hd
  have HN := Lib.hid hn
  clear h1 hK hA hg h hm hd hn hk
  go_enter Try.func38, Try.ntmps38
  go_wp2_with fail
  refine (WS.raw (s := s) H1.out (MsAt.byt HM.out (by simp) HD.out 5 (by omega)) (by have := HN.out; have a1 := wN_len 3 ki s; have a2 := wN_len 2 ks (wN 3 ki s); have a3 := wN_len 2 sq s; first | omega | (unfold wK; omega))).mono ?_
  rintro e w1 ⟨⟨v1, rfl⟩, h2⟩
  have hm1 : MsAt w1 w.heap.size 11 ki ks tg la fa su sz 5 d0 d1 d2 d3 d4 d5 d6 co sq bl sp cr := (HK.out _ _ _ h2).2
  have H2 := Lib.hid h2
  have HM1 := Lib.hid hm1
  clear h2 hm1
  go_wp2_with fail
  go_returns
  exact ⟨⟨_, rfl⟩, (HK.out _ _ _ H2.out).1⟩
theorem rest_11_6 {W w : World} {g : Nat} {A0 : Option Addr} {s : Int × List Int} (c ki ks : Int) (tg la fa su : Bool) (sz n d0 d1 d2 d3 d4 d5 d6 co sq bl sp cr : Int) (hk : canE c fa n sq bl sp = true) (hd : ∀ x ∈ dL d0 d1 d2 d3 d4 d5 d6, 0 ≤ x ∧ x ≤ 255) (hc : c = 11) (hnn : n = 6) (h : WS W g A0 s.1 s.2 w) (hn : s.2.length ≤ 20) :
    Calls Try.prog 38 #[.pointer (some ⟨g, 0, none⟩), .agg #[.int .i64 c, .int .i64 ki, .int .i64 ks, .bool tg, .bool la, .bool fa, .bool su, .int .i64 sz, .int .i64 n, .int .u8 d0, .int .u8 d1, .int .u8 d2, .int .u8 d3, .int .u8 d4, .int .u8 d5, .int .u8 d6, .int .i64 co, .int .i64 sq, .int .i64 bl, .int .i64 sp, .int .i64 cr]] w fun e w' => (∃ v, e = .returned v) ∧ WS W g A0 (restE c ki ks fa sz n (dL d0 d1 d2 d3 d4 d5 d6) co sq bl cr s).1 (restE c ki ks fa sz n (dL d0 d1 d2 d3 d4 d5 d6) co sq bl cr s).2 w' := by
  subst hc
  subst hnn
  have hm : MsAt (w.alloc (.cells #[.int .i64 11, .int .i64 ki, .int .i64 ks, .bool tg, .bool la, .bool fa, .bool su, .int .i64 sz, .int .i64 6, .int .u8 d0, .int .u8 d1, .int .u8 d2, .int .u8 d3, .int .u8 d4, .int .u8 d5, .int .u8 d6, .int .i64 co, .int .i64 sq, .int .i64 bl, .int .i64 sp, .int .i64 cr] 30)) w.heap.size 11 ki ks tg la fa su sz 6 d0 d1 d2 d3 d4 d5 d6 co sq bl sp cr := heap_alloc_new w _
  obtain ⟨A1, h1, hA, hg, hK⟩ := h.box (.cells #[.int .i64 11, .int .i64 ki, .int .i64 ks, .bool tg, .bool la, .bool fa, .bool su, .int .i64 sz, .int .i64 6, .int .u8 d0, .int .u8 d1, .int .u8 d2, .int .u8 d3, .int .u8 d4, .int .u8 d5, .int .u8 d6, .int .i64 co, .int .i64 sq, .int .i64 bl, .int .i64 sp, .int .i64 cr] 30)
  have HM := Lib.hid hm
  have H1 := Lib.hid h1
  have HK := Lib.hid hK
  have HD := Lib.hid hd
  have HN := Lib.hid hn
  clear h1 hK hA hg h hm hd hn hk
  go_enter Try.func38, Try.ntmps38
  go_wp2_with fail
  refine (WS.raw (s := s) H1.out (MsAt.byt HM.out (by simp) HD.out 6 (by omega)) (by have := HN.out; have a1 := wN_len 3 ki s; have a2 := wN_len 2 ks (wN 3 ki s); have a3 := wN_len 2 sq s; first | omega | (unfold wK; omega))).mono ?_
  rintro e w1 ⟨⟨v1, rfl⟩, h2⟩
  have hm1 : MsAt w1 w.heap.size 11 ki ks tg la fa su sz 6 d0 d1 d2 d3 d4 d5 d6 co sq bl sp cr := (HK.out _ _ _ h2).2
  have H2 := Lib.hid h2
  have HM1 := Lib.hid hm1
  clear h2 hm1
  go_wp2_with fail
  go_returns
  exact ⟨⟨_, rfl⟩, (HK.out _ _ _ H2.out).1⟩
theorem rest_11_7 {W w : World} {g : Nat} {A0 : Option Addr} {s : Int × List Int} (c ki ks : Int) (tg la fa su : Bool) (sz n d0 d1 d2 d3 d4 d5 d6 co sq bl sp cr : Int) (hk : canE c fa n sq bl sp = true) (hd : ∀ x ∈ dL d0 d1 d2 d3 d4 d5 d6, 0 ≤ x ∧ x ≤ 255) (hc : c = 11) (hnn : n = 7) (h : WS W g A0 s.1 s.2 w) (hn : s.2.length ≤ 20) :
    Calls Try.prog 38 #[.pointer (some ⟨g, 0, none⟩), .agg #[.int .i64 c, .int .i64 ki, .int .i64 ks, .bool tg, .bool la, .bool fa, .bool su, .int .i64 sz, .int .i64 n, .int .u8 d0, .int .u8 d1, .int .u8 d2, .int .u8 d3, .int .u8 d4, .int .u8 d5, .int .u8 d6, .int .i64 co, .int .i64 sq, .int .i64 bl, .int .i64 sp, .int .i64 cr]] w fun e w' => (∃ v, e = .returned v) ∧ WS W g A0 (restE c ki ks fa sz n (dL d0 d1 d2 d3 d4 d5 d6) co sq bl cr s).1 (restE c ki ks fa sz n (dL d0 d1 d2 d3 d4 d5 d6) co sq bl cr s).2 w' := by
  subst hc
  subst hnn
  have hm : MsAt (w.alloc (.cells #[.int .i64 11, .int .i64 ki, .int .i64 ks, .bool tg, .bool la, .bool fa, .bool su, .int .i64 sz, .int .i64 7, .int .u8 d0, .int .u8 d1, .int .u8 d2, .int .u8 d3, .int .u8 d4, .int .u8 d5, .int .u8 d6, .int .i64 co, .int .i64 sq, .int .i64 bl, .int .i64 sp, .int .i64 cr] 30)) w.heap.size 11 ki ks tg la fa su sz 7 d0 d1 d2 d3 d4 d5 d6 co sq bl sp cr := heap_alloc_new w _
  obtain ⟨A1, h1, hA, hg, hK⟩ := h.box (.cells #[.int .i64 11, .int .i64 ki, .int .i64 ks, .bool tg, .bool la, .bool fa, .bool su, .int .i64 sz, .int .i64 7, .int .u8 d0, .int .u8 d1, .int .u8 d2, .int .u8 d3, .int .u8 d4, .int .u8 d5, .int .u8 d6, .int .i64 co, .int .i64 sq, .int .i64 bl, .int .i64 sp, .int .i64 cr] 30)
  have HM := Lib.hid hm
  have H1 := Lib.hid h1
  have HK := Lib.hid hK
  have HD := Lib.hid hd
  have HN := Lib.hid hn
  clear h1 hK hA hg h hm hd hn hk
  go_enter Try.func38, Try.ntmps38
  go_wp2_with fail
  refine (WS.raw (s := s) H1.out (MsAt.byt HM.out (by simp) HD.out 7 (by omega)) (by have := HN.out; have a1 := wN_len 3 ki s; have a2 := wN_len 2 ks (wN 3 ki s); have a3 := wN_len 2 sq s; first | omega | (unfold wK; omega))).mono ?_
  rintro e w1 ⟨⟨v1, rfl⟩, h2⟩
  have hm1 : MsAt w1 w.heap.size 11 ki ks tg la fa su sz 7 d0 d1 d2 d3 d4 d5 d6 co sq bl sp cr := (HK.out _ _ _ h2).2
  have H2 := Lib.hid h2
  have HM1 := Lib.hid hm1
  clear h2 hm1
  go_wp2_with fail
  go_returns
  exact ⟨⟨_, rfl⟩, (HK.out _ _ _ H2.out).1⟩
end Go.Proofs.Ytoamgdcjmkkmfaa
