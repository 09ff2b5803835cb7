/- What putRest answers. -/
import Derived.Test.YtoamgdcjmkkmfaaKe
namespace Go.Proofs.Ytoamgdcjmkkmfaa
open Go.RowKit
set_option linter.unusedSimpArgs false
set_option linter.unusedVariables false
set_option maxHeartbeats 4000000

/-- The bytes of a message's Data. -/
abbrev dL (d0 d1 d2 d3 d4 d5 d6 : Int) : List Int := [d0, d1, d2, d3, d4, d5, d6]
/-- What putRest does. -/
def restE (c ki ks : Int) (fa : Bool) (sz n : Int) (d : List Int) (co sq bl cr : Int) (s : Int × List Int) : Int × List Int :=
  if c = 2 ∨ c = 11 then wR (d.take n.toNat) s else if c = 15 then wN 2 bl (wN 2 sq s) else if c = 16 then wN 3 cr s
  else if c = 3 ∨ c = 8 then wK ki ks s else if c = 6 ∨ c = 12 then wN 2 bl (wK ki ks s) else if c = 14 then wN 4 co (wK ki ks s)
  else if c = 1 ∨ c = 10 then (if fa then wR (d.take n.toNat) (wK ki ks s) else wZ sz (wK ki ks s))
  else if c = 5 ∨ c = 13 then wZ sz (wK ki ks s) else s
/-- Block g is a message. -/
def MsAt (w : World) (g : Nat) (c ki ks : Int) (tg la fa su : Bool) (sz n d0 d1 d2 d3 d4 d5 d6 co sq bl sp cr : Int) : Prop := w.heap[g]? = some (.cells #[.int .i64 c, .int .i64 ki, .int .i64 ks, .bool tg, .bool la, .bool fa, .bool su, .int .i64 sz, .int .i64 n, .int .u8 d0, .int .u8 d1, .int .u8 d2, .int .u8 d3, .int .u8 d4, .int .u8 d5, .int .u8 d6, .int .i64 co, .int .i64 sq, .int .i64 bl, .int .i64 sp, .int .i64 cr] 30 (0, 0))
theorem MsAt.cell {w : World} {g : Nat} {c ki ks : Int} {tg la fa su : Bool} {sz n d0 d1 d2 d3 d4 d5 d6 co sq bl sp cr : Int} (h : MsAt w g c ki ks tg la fa su sz n d0 d1 d2 d3 d4 d5 d6 co sq bl sp cr) (k : Nat) : w.cell? ⟨g, k, none⟩ = (#[.int .i64 c, .int .i64 ki, .int .i64 ks, .bool tg, .bool la, .bool fa, .bool su, .int .i64 sz, .int .i64 n, .int .u8 d0, .int .u8 d1, .int .u8 d2, .int .u8 d3, .int .u8 d4, .int .u8 d5, .int .u8 d6, .int .i64 co, .int .i64 sq, .int .i64 bl, .int .i64 sp, .int .i64 cr] : Array Value)[k]? := by rw [cell_of_row _ _ _ _ _ _ h]
theorem MsAt.frozen {w : World} {g : Nat} {c ki ks : Int} {tg la fa su : Bool} {sz n d0 d1 d2 d3 d4 d5 d6 co sq bl sp cr : Int} (h : MsAt w g c ki ks tg la fa su sz n d0 d1 d2 d3 d4 d5 d6 co sq bl sp cr) (k : Nat) : w.frozen? ⟨g, k, none⟩ = false := frozen_of_row _ _ _ _ _ h
theorem MsAt.byt {w : World} {g B : Nat} {c ki ks : Int} {tg la fa su : Bool} {sz n d0 d1 d2 d3 d4 d5 d6 co sq bl sp cr : Int} (h : MsAt w g c ki ks tg la fa su sz n d0 d1 d2 d3 d4 d5 d6 co sq bl sp cr) (hB : g < B) (hd : ∀ x ∈ dL d0 d1 d2 d3 d4 d5 d6, 0 ≤ x ∧ x ≤ 255) (k : Nat) (hk : k ≤ 7) :
    Byt w B (some ⟨g, 9, none⟩) k 7 ((dL d0 d1 d2 d3 d4 d5 d6).take k) := by
  refine ⟨by simp; omega, hk, by simp [maxLen], fun x hx => hd x (List.mem_of_mem_take hx), fun _ => ⟨g, 9, rfl, hB, fun j hj => ?_⟩⟩
  rw [h.cell]
  have e : ((dL d0 d1 d2 d3 d4 d5 d6).take k).getD j 0 = (dL d0 d1 d2 d3 d4 d5 d6).getD j 0 := by simp [List.getD, List.getElem?_take, hj]
  rw [e]
  obtain rfl | rfl | rfl | rfl | rfl | rfl | rfl : j = 0 ∨ j = 1 ∨ j = 2 ∨ j = 3 ∨ j = 4 ∨ j = 5 ∨ j = 6 := by omega
  all_goals rfl
theorem rest_4 {W w : World} {g : Nat} {A0 : Option Addr} {s : Int × List Int} (c ki ks : Int) (tg la fa su : Bool) (sz n d0 d1 d2 d3 d4 d5 d6 co sq bl sp cr : Int) (hk : canE c fa n sq bl sp = true) (hd : ∀ x ∈ dL d0 d1 d2 d3 d4 d5 d6, 0 ≤ x ∧ x ≤ 255) (hc : c = 4) (h : WS W g A0 s.1 s.2 w) (hn : s.2.length ≤ 20) :
    Calls Try.prog 38 #[.pointer (some ⟨g, 0, none⟩), .agg #[.int .i64 c, .int .i64 ki, .int .i64 ks, .bool tg, .bool la, .bool fa, .bool su, .int .i64 sz, .int .i64 n, .int .u8 d0, .int .u8 d1, .int .u8 d2, .int .u8 d3, .int .u8 d4, .int .u8 d5, .int .u8 d6, .int .i64 co, .int .i64 sq, .int .i64 bl, .int .i64 sp, .int .i64 cr]] w fun e w' => (∃ v, e = .returned v) ∧ WS W g A0 (restE c ki ks fa sz n (dL d0 d1 d2 d3 d4 d5 d6) co sq bl cr s).1 (restE c ki ks fa sz n (dL d0 d1 d2 d3 d4 d5 d6) co sq bl cr s).2 w' := by
  subst hc
  have hm : MsAt (w.alloc (.cells #[.int .i64 4, .int .i64 ki, .int .i64 ks, .bool tg, .bool la, .bool fa, .bool su, .int .i64 sz, .int .i64 n, .int .u8 d0, .int .u8 d1, .int .u8 d2, .int .u8 d3, .int .u8 d4, .int .u8 d5, .int .u8 d6, .int .i64 co, .int .i64 sq, .int .i64 bl, .int .i64 sp, .int .i64 cr] 30)) w.heap.size 4 ki ks tg la fa su sz n d0 d1 d2 d3 d4 d5 d6 co sq bl sp cr := heap_alloc_new w _
  obtain ⟨A1, h1, hA, hg, hK⟩ := h.box (.cells #[.int .i64 4, .int .i64 ki, .int .i64 ks, .bool tg, .bool la, .bool fa, .bool su, .int .i64 sz, .int .i64 n, .int .u8 d0, .int .u8 d1, .int .u8 d2, .int .u8 d3, .int .u8 d4, .int .u8 d5, .int .u8 d6, .int .i64 co, .int .i64 sq, .int .i64 bl, .int .i64 sp, .int .i64 cr] 30)
  have HM := Lib.hid hm
  have H1 := Lib.hid h1
  have HK := Lib.hid hK
  have HD := Lib.hid hd
  have HN := Lib.hid hn
  clear h1 hK hA hg h hm hd hn hk
  go_enter Try.func38, Try.ntmps38
  go_wp2_with fail
  go_returns
  exact ⟨⟨_, rfl⟩, (HK.out _ _ _ H1.out).1⟩
theorem rest_7 {W w : World} {g : Nat} {A0 : Option Addr} {s : Int × List Int} (c ki ks : Int) (tg la fa su : Bool) (sz n d0 d1 d2 d3 d4 d5 d6 co sq bl sp cr : Int) (hk : canE c fa n sq bl sp = true) (hd : ∀ x ∈ dL d0 d1 d2 d3 d4 d5 d6, 0 ≤ x ∧ x ≤ 255) (hc : c = 7) (h : WS W g A0 s.1 s.2 w) (hn : s.2.length ≤ 20) :
    Calls Try.prog 38 #[.pointer (some ⟨g, 0, none⟩), .agg #[.int .i64 c, .int .i64 ki, .int .i64 ks, .bool tg, .bool la, .bool fa, .bool su, .int .i64 sz, .int .i64 n, .int .u8 d0, .int .u8 d1, .int .u8 d2, .int .u8 d3, .int .u8 d4, .int .u8 d5, .int .u8 d6, .int .i64 co, .int .i64 sq, .int .i64 bl, .int .i64 sp, .int .i64 cr]] w fun e w' => (∃ v, e = .returned v) ∧ WS W g A0 (restE c ki ks fa sz n (dL d0 d1 d2 d3 d4 d5 d6) co sq bl cr s).1 (restE c ki ks fa sz n (dL d0 d1 d2 d3 d4 d5 d6) co sq bl cr s).2 w' := by
  subst hc
  have hm : MsAt (w.alloc (.cells #[.int .i64 7, .int .i64 ki, .int .i64 ks, .bool tg, .bool la, .bool fa, .bool su, .int .i64 sz, .int .i64 n, .int .u8 d0, .int .u8 d1, .int .u8 d2, .int .u8 d3, .int .u8 d4, .int .u8 d5, .int .u8 d6, .int .i64 co, .int .i64 sq, .int .i64 bl, .int .i64 sp, .int .i64 cr] 30)) w.heap.size 7 ki ks tg la fa su sz n d0 d1 d2 d3 d4 d5 d6 co sq bl sp cr := heap_alloc_new w _
  obtain ⟨A1, h1, hA, hg, hK⟩ := h.box (.cells #[.int .i64 7, .int .i64 ki, .int .i64 ks, .bool tg, .bool la, .bool fa, .bool su, .int .i64 sz, .int .i64 n, .int .u8 d0, .int .u8 d1, .int .u8 d2, .int .u8 d3, .int .u8 d4, .int .u8 d5, .int .u8 d6, .int .i64 co, .int .i64 sq, .int .i64 bl, .int .i64 sp, .int .i64 cr] 30)
  have HM := Lib.hid hm
  have H1 := Lib.hid h1
  have HK := Lib.hid hK
  have HD := Lib.hid hd
  have HN := Lib.hid hn
  clear h1 hK hA hg h hm hd hn hk
  go_enter Try.func38, Try.ntmps38
  go_wp2_with fail
  go_returns
  exact ⟨⟨_, rfl⟩, (HK.out _ _ _ H1.out).1⟩
theorem rest_9 {W w : World} {g : Nat} {A0 : Option Addr} {s : Int × List Int} (c ki ks : Int) (tg la fa su : Bool) (sz n d0 d1 d2 d3 d4 d5 d6 co sq bl sp cr : Int) (hk : canE c fa n sq bl sp = true) (hd : ∀ x ∈ dL d0 d1 d2 d3 d4 d5 d6, 0 ≤ x ∧ x ≤ 255) (hc : c = 9) (h : WS W g A0 s.1 s.2 w) (hn : s.2.length ≤ 20) :
    Calls Try.prog 38 #[.pointer (some ⟨g, 0, none⟩), .agg #[.int .i64 c, .int .i64 ki, .int .i64 ks, .bool tg, .bool la, .bool fa, .bool su, .int .i64 sz, .int .i64 n, .int .u8 d0, .int .u8 d1, .int .u8 d2, .int .u8 d3, .int .u8 d4, .int .u8 d5, .int .u8 d6, .int .i64 co, .int .i64 sq, .int .i64 bl, .int .i64 sp, .int .i64 cr]] w fun e w' => (∃ v, e = .returned v) ∧ WS W g A0 (restE c ki ks fa sz n (dL d0 d1 d2 d3 d4 d5 d6) co sq bl cr s).1 (restE c ki ks fa sz n (dL d0 d1 d2 d3 d4 d5 d6) co sq bl cr s).2 w' := by
  subst hc
  have hm : MsAt (w.alloc (.cells #[.int .i64 9, .int .i64 ki, .int .i64 ks, .bool tg, .bool la, .bool fa, .bool su, .int .i64 sz, .int .i64 n, .int .u8 d0, .int .u8 d1, .int .u8 d2, .int .u8 d3, .int .u8 d4, .int .u8 d5, .int .u8 d6, .int .i64 co, .int .i64 sq, .int .i64 bl, .int .i64 sp, .int .i64 cr] 30)) w.heap.size 9 ki ks tg la fa su sz n d0 d1 d2 d3 d4 d5 d6 co sq bl sp cr := heap_alloc_new w _
  obtain ⟨A1, h1, hA, hg, hK⟩ := h.box (.cells #[.int .i64 9, .int .i64 ki, .int .i64 ks, .bool tg, .bool la, .bool fa, .bool su, .int .i64 sz, .int .i64 n, .int .u8 d0, .int .u8 d1, .int .u8 d2, .int .u8 d3, .int .u8 d4, .int .u8 d5, .int .u8 d6, .int .i64 co, .int .i64 sq, .int .i64 bl, .int .i64 sp, .int .i64 cr] 30)
  have HM := Lib.hid hm
  have H1 := Lib.hid h1
  have HK := Lib.hid hK
  have HD := Lib.hid hd
  have HN := Lib.hid hn
  clear h1 hK hA hg h hm hd hn hk
  go_enter Try.func38, Try.ntmps38
  go_wp2_with fail
  go_returns
  exact ⟨⟨_, rfl⟩, (HK.out _ _ _ H1.out).1⟩
theorem rest_17 {W w : World} {g : Nat} {A0 : Option Addr} {s : Int × List Int} (c ki ks : Int) (tg la fa su : Bool) (sz n d0 d1 d2 d3 d4 d5 d6 co sq bl sp cr : Int) (hk : canE c fa n sq bl sp = true) (hd : ∀ x ∈ dL d0 d1 d2 d3 d4 d5 d6, 0 ≤ x ∧ x ≤ 255) (hc : c = 17) (h : WS W g A0 s.1 s.2 w) (hn : s.2.length ≤ 20) :
    Calls Try.prog 38 #[.pointer (some ⟨g, 0, none⟩), .agg #[.int .i64 c, .int .i64 ki, .int .i64 ks, .bool tg, .bool la, .bool fa, .bool su, .int .i64 sz, .int .i64 n, .int .u8 d0, .int .u8 d1, .int .u8 d2, .int .u8 d3, .int .u8 d4, .int .u8 d5, .int .u8 d6, .int .i64 co, .int .i64 sq, .int .i64 bl, .int .i64 sp, .int .i64 cr]] w fun e w' => (∃ v, e = .returned v) ∧ WS W g A0 (restE c ki ks fa sz n (dL d0 d1 d2 d3 d4 d5 d6) co sq bl cr s).1 (restE c ki ks fa sz n (dL d0 d1 d2 d3 d4 d5 d6) co sq bl cr s).2 w' := by
  subst hc
  have hm : MsAt (w.alloc (.cells #[.int .i64 17, .int .i64 ki, .int .i64 ks, .bool tg, .bool la, .bool fa, .bool su, .int .i64 sz, .int .i64 n, .int .u8 d0, .int .u8 d1, .int .u8 d2, .int .u8 d3, .int .u8 d4, .int .u8 d5, .int .u8 d6, .int .i64 co, .int .i64 sq, .int .i64 bl, .int .i64 sp, .int .i64 cr] 30)) w.heap.size 17 ki ks tg la fa su sz n d0 d1 d2 d3 d4 d5 d6 co sq bl sp cr := heap_alloc_new w _
  obtain ⟨A1, h1, hA, hg, hK⟩ := h.box (.cells #[.int .i64 17, .int .i64 ki, .int .i64 ks, .bool tg, .bool la, .bool fa, .bool su, .int .i64 sz, .int .i64 n, .int .u8 d0, .int .u8 d1, .int .u8 d2, .int .u8 d3, .int .u8 d4, .int .u8 d5, .int .u8 d6, .int .i64 co, .int .i64 sq, .int .i64 bl, .int .i64 sp, .int .i64 cr] 30)
  have HM := Lib.hid hm
  have H1 := Lib.hid h1
  have HK := Lib.hid hK
  have HD := Lib.hid hd
  have HN := Lib.hid hn
  clear h1 hK hA hg h hm hd hn hk
  go_enter Try.func38, Try.ntmps38
  go_wp2_with fail
  go_returns
  exact ⟨⟨_, rfl⟩, (HK.out _ _ _ H1.out).1⟩
theorem rest_16 {W w : World} {g : Nat} {A0 : Option Addr} {s : Int × List Int} (c ki ks : Int) (tg la fa su : Bool) (sz n d0 d1 d2 d3 d4 d5 d6 co sq bl sp cr : Int) (hk : canE c fa n sq bl sp = true) (hd : ∀ x ∈ dL d0 d1 d2 d3 d4 d5 d6, 0 ≤ x ∧ x ≤ 255) (hc : c = 16) (h : WS W g A0 s.1 s.2 w) (hn : s.2.length ≤ 20) :
    Calls Try.prog 38 #[.pointer (some ⟨g, 0, none⟩), .agg #[.int .i64 c, .int .i64 ki, .int .i64 ks, .bool tg, .bool la, .bool fa, .bool su, .int .i64 sz, .int .i64 n, .int .u8 d0, .int .u8 d1, .int .u8 d2, .int .u8 d3, .int .u8 d4, .int .u8 d5, .int .u8 d6, .int .i64 co, .int .i64 sq, .int .i64 bl, .int .i64 sp, .int .i64 cr]] w fun e w' => (∃ v, e = .returned v) ∧ WS W g A0 (restE c ki ks fa sz n (dL d0 d1 d2 d3 d4 d5 d6) co sq bl cr s).1 (restE c ki ks fa sz n (dL d0 d1 d2 d3 d4 d5 d6) co sq bl cr s).2 w' := by
  subst hc
  have hm : MsAt (w.alloc (.cells #[.int .i64 16, .int .i64 ki, .int .i64 ks, .bool tg, .bool la, .bool fa, .bool su, .int .i64 sz, .int .i64 n, .int .u8 d0, .int .u8 d1, .int .u8 d2, .int .u8 d3, .int .u8 d4, .int .u8 d5, .int .u8 d6, .int .i64 co, .int .i64 sq, .int .i64 bl, .int .i64 sp, .int .i64 cr] 30)) w.heap.size 16 ki ks tg la fa su sz n d0 d1 d2 d3 d4 d5 d6 co sq bl sp cr := heap_alloc_new w _
  obtain ⟨A1, h1, hA, hg, hK⟩ := h.box (.cells #[.int .i64 16, .int .i64 ki, .int .i64 ks, .bool tg, .bool la, .bool fa, .bool su, .int .i64 sz, .int .i64 n, .int .u8 d0, .int .u8 d1, .int .u8 d2, .int .u8 d3, .int .u8 d4, .int .u8 d5, .int .u8 d6, .int .i64 co, .int .i64 sq, .int .i64 bl, .int .i64 sp, .int .i64 cr] 30)
  have HM := Lib.hid hm
  have H1 := Lib.hid h1
  have HK := Lib.hid hK
  have HD := Lib.hid hd
  have HN := Lib.hid hn
  clear h1 hK hA hg h hm hd hn hk
  go_enter Try.func38, Try.ntmps38
  go_wp2_with fail
  refine (WS.num (s := s) H1.out (by have := HN.out; have a1 := wN_len 3 ki s; have a2 := wN_len 2 ks (wN 3 ki s); have a3 := wN_len 2 sq s; first | omega | (unfold wK; omega)) _ _).mono ?_
  rintro e w1 ⟨⟨v1, rfl⟩, h2⟩
  have hm1 : MsAt w1 w.heap.size 16 ki ks tg la fa su sz n d0 d1 d2 d3 d4 d5 d6 co sq bl sp cr := (HK.out _ _ _ h2).2
  have H2 := Lib.hid h2
  have HM1 := Lib.hid hm1
  clear h2 hm1
  go_wp2_with fail
  go_returns
  exact ⟨⟨_, rfl⟩, (HK.out _ _ _ H2.out).1⟩
theorem rest_15 {W w : World} {g : Nat} {A0 : Option Addr} {s : Int × List Int} (c ki ks : Int) (tg la fa su : Bool) (sz n d0 d1 d2 d3 d4 d5 d6 co sq bl sp cr : Int) (hk : canE c fa n sq bl sp = true) (hd : ∀ x ∈ dL d0 d1 d2 d3 d4 d5 d6, 0 ≤ x ∧ x ≤ 255) (hc : c = 15) (h : WS W g A0 s.1 s.2 w) (hn : s.2.length ≤ 20) :
    Calls Try.prog 38 #[.pointer (some ⟨g, 0, none⟩), .agg #[.int .i64 c, .int .i64 ki, .int .i64 ks, .bool tg, .bool la, .bool fa, .bool su, .int .i64 sz, .int .i64 n, .int .u8 d0, .int .u8 d1, .int .u8 d2, .int .u8 d3, .int .u8 d4, .int .u8 d5, .int .u8 d6, .int .i64 co, .int .i64 sq, .int .i64 bl, .int .i64 sp, .int .i64 cr]] w fun e w' => (∃ v, e = .returned v) ∧ WS W g A0 (restE c ki ks fa sz n (dL d0 d1 d2 d3 d4 d5 d6) co sq bl cr s).1 (restE c ki ks fa sz n (dL d0 d1 d2 d3 d4 d5 d6) co sq bl cr s).2 w' := by
  subst hc
  have hm : MsAt (w.alloc (.cells #[.int .i64 15, .int .i64 ki, .int .i64 ks, .bool tg, .bool la, .bool fa, .bool su, .int .i64 sz, .int .i64 n, .int .u8 d0, .int .u8 d1, .int .u8 d2, .int .u8 d3, .int .u8 d4, .int .u8 d5, .int .u8 d6, .int .i64 co, .int .i64 sq, .int .i64 bl, .int .i64 sp, .int .i64 cr] 30)) w.heap.size 15 ki ks tg la fa su sz n d0 d1 d2 d3 d4 d5 d6 co sq bl sp cr := heap_alloc_new w _
  obtain ⟨A1, h1, hA, hg, hK⟩ := h.box (.cells #[.int .i64 15, .int .i64 ki, .int .i64 ks, .bool tg, .bool la, .bool fa, .bool su, .int .i64 sz, .int .i64 n, .int .u8 d0, .int .u8 d1, .int .u8 d2, .int .u8 d3, .int .u8 d4, .int .u8 d5, .int .u8 d6, .int .i64 co, .int .i64 sq, .int .i64 bl, .int .i64 sp, .int .i64 cr] 30)
  have HM := Lib.hid hm
  have H1 := Lib.hid h1
  have HK := Lib.hid hK
  have HD := Lib.hid hd
  have HN := Lib.hid hn
  clear h1 hK hA hg h hm hd hn hk
  go_enter Try.func38, Try.ntmps38
  go_wp2_with fail
  refine (WS.num (s := s) H1.out (by have := HN.out; have a1 := wN_len 3 ki s; have a2 := wN_len 2 ks (wN 3 ki s); have a3 := wN_len 2 sq s; first | omega | (unfold wK; omega)) _ _).mono ?_
  rintro e w1 ⟨⟨v1, rfl⟩, h2⟩
  have hm1 : MsAt w1 w.heap.size 15 ki ks tg la fa su sz n d0 d1 d2 d3 d4 d5 d6 co sq bl sp cr := (HK.out _ _ _ h2).2
  have k1_7 := hm1.cell 7
  have k1_8 := hm1.cell 8
  have k1_9 := hm1.cell 9
  have k1_16 := hm1.cell 16
  have k1_17 := hm1.cell 17
  have k1_18 := hm1.cell 18
  have k1_20 := hm1.cell 20
  simp at k1_7 k1_8 k1_9 k1_16 k1_17 k1_18 k1_20
  have H2 := Lib.hid h2
  have HM1 := Lib.hid hm1
  clear h2 hm1
  go_wp2_with fail
  refine (WS.num (s := wN 2 sq s) H2.out (by have := HN.out; have a1 := wN_len 3 ki s; have a2 := wN_len 2 ks (wN 3 ki s); have a3 := wN_len 2 sq s; first | omega | (unfold wK; omega)) _ _).mono ?_
  rintro e w2 ⟨⟨v2, rfl⟩, h3⟩
  have hm2 : MsAt w2 w.heap.size 15 ki ks tg la fa su sz n d0 d1 d2 d3 d4 d5 d6 co sq bl sp cr := (HK.out _ _ _ h3).2
  have H3 := Lib.hid h3
  have HM2 := Lib.hid hm2
  clear h3 hm2
  go_wp2_with fail
  go_returns
  exact ⟨⟨_, rfl⟩, (HK.out _ _ _ H3.out).1⟩
theorem rest_3 {W w : World} {g : Nat} {A0 : Option Addr} {s : Int × List Int} (c ki ks : Int) (tg la fa su : Bool) (sz n d0 d1 d2 d3 d4 d5 d6 co sq bl sp cr : Int) (hk : canE c fa n sq bl sp = true) (hd : ∀ x ∈ dL d0 d1 d2 d3 d4 d5 d6, 0 ≤ x ∧ x ≤ 255) (hc : c = 3) (h : WS W g A0 s.1 s.2 w) (hn : s.2.length ≤ 20) :
    Calls Try.prog 38 #[.pointer (some ⟨g, 0, none⟩), .agg #[.int .i64 c, .int .i64 ki, .int .i64 ks, .bool tg, .bool la, .bool fa, .bool su, .int .i64 sz, .int .i64 n, .int .u8 d0, .int .u8 d1, .int .u8 d2, .int .u8 d3, .int .u8 d4, .int .u8 d5, .int .u8 d6, .int .i64 co, .int .i64 sq, .int .i64 bl, .int .i64 sp, .int .i64 cr]] w fun e w' => (∃ v, e = .returned v) ∧ WS W g A0 (restE c ki ks fa sz n (dL d0 d1 d2 d3 d4 d5 d6) co sq bl cr s).1 (restE c ki ks fa sz n (dL d0 d1 d2 d3 d4 d5 d6) co sq bl cr s).2 w' := by
  subst hc
  have hm : MsAt (w.alloc (.cells #[.int .i64 3, .int .i64 ki, .int .i64 ks, .bool tg, .bool la, .bool fa, .bool su, .int .i64 sz, .int .i64 n, .int .u8 d0, .int .u8 d1, .int .u8 d2, .int .u8 d3, .int .u8 d4, .int .u8 d5, .int .u8 d6, .int .i64 co, .int .i64 sq, .int .i64 bl, .int .i64 sp, .int .i64 cr] 30)) w.heap.size 3 ki ks tg la fa su sz n d0 d1 d2 d3 d4 d5 d6 co sq bl sp cr := heap_alloc_new w _
  obtain ⟨A1, h1, hA, hg, hK⟩ := h.box (.cells #[.int .i64 3, .int .i64 ki, .int .i64 ks, .bool tg, .bool la, .bool fa, .bool su, .int .i64 sz, .int .i64 n, .int .u8 d0, .int .u8 d1, .int .u8 d2, .int .u8 d3, .int .u8 d4, .int .u8 d5, .int .u8 d6, .int .i64 co, .int .i64 sq, .int .i64 bl, .int .i64 sp, .int .i64 cr] 30)
  have HM := Lib.hid hm
  have H1 := Lib.hid h1
  have HK := Lib.hid hK
  have HD := Lib.hid hd
  have HN := Lib.hid hn
  clear h1 hK hA hg h hm hd hn hk
  go_enter Try.func38, Try.ntmps38
  go_wp2_with fail
  refine (putkey_any (s := s) H1.out (by have := HN.out; have a1 := wN_len 3 ki s; have a2 := wN_len 2 ks (wN 3 ki s); have a3 := wN_len 2 sq s; first | omega | (unfold wK; omega)) _ _).mono ?_
  rintro e w1 ⟨⟨v1, rfl⟩, h2⟩
  have hm1 : MsAt w1 w.heap.size 3 ki ks tg la fa su sz n d0 d1 d2 d3 d4 d5 d6 co sq bl sp cr := (HK.out _ _ _ h2).2
  have H2 := Lib.hid h2
  have HM1 := Lib.hid hm1
  clear h2 hm1
  go_wp2_with fail
  go_returns
  exact ⟨⟨_, rfl⟩, (HK.out _ _ _ H2.out).1⟩
theorem rest_8 {W w : World} {g : Nat} {A0 : Option Addr} {s : Int × List Int} (c ki ks : Int) (tg la fa su : Bool) (sz n d0 d1 d2 d3 d4 d5 d6 co sq bl sp cr : Int) (hk : canE c fa n sq bl sp = true) (hd : ∀ x ∈ dL d0 d1 d2 d3 d4 d5 d6, 0 ≤ x ∧ x ≤ 255) (hc : c = 8) (h : WS W g A0 s.1 s.2 w) (hn : s.2.length ≤ 20) :
    Calls Try.prog 38 #[.pointer (some ⟨g, 0, none⟩), .agg #[.int .i64 c, .int .i64 ki, .int .i64 ks, .bool tg, .bool la, .bool fa, .bool su, .int .i64 sz, .int .i64 n, .int .u8 d0, .int .u8 d1, .int .u8 d2, .int .u8 d3, .int .u8 d4, .int .u8 d5, .int .u8 d6, .int .i64 co, .int .i64 sq, .int .i64 bl, .int .i64 sp, .int .i64 cr]] w fun e w' => (∃ v, e = .returned v) ∧ WS W g A0 (restE c ki ks fa sz n (dL d0 d1 d2 d3 d4 d5 d6) co sq bl cr s).1 (restE c ki ks fa sz n (dL d0 d1 d2 d3 d4 d5 d6) co sq bl cr s).2 w' := by
  subst hc
  have hm : MsAt (w.alloc (.cells #[.int .i64 8, .int .i64 ki, .int .i64 ks, .bool tg, .bool la, .bool fa, .bool su, .int .i64 sz, .int .i64 n, .int .u8 d0, .int .u8 d1, .int .u8 d2, .int .u8 d3, .int .u8 d4, .int .u8 d5, .int .u8 d6, .int .i64 co, .int .i64 sq, .int .i64 bl, .int .i64 sp, .int .i64 cr] 30)) w.heap.size 8 ki ks tg la fa su sz n d0 d1 d2 d3 d4 d5 d6 co sq bl sp cr := heap_alloc_new w _
  obtain ⟨A1, h1, hA, hg, hK⟩ := h.box (.cells #[.int .i64 8, .int .i64 ki, .int .i64 ks, .bool tg, .bool la, .bool fa, .bool su, .int .i64 sz, .int .i64 n, .int .u8 d0, .int .u8 d1, .int .u8 d2, .int .u8 d3, .int .u8 d4, .int .u8 d5, .int .u8 d6, .int .i64 co, .int .i64 sq, .int .i64 bl, .int .i64 sp, .int .i64 cr] 30)
  have HM := Lib.hid hm
  have H1 := Lib.hid h1
  have HK := Lib.hid hK
  have HD := Lib.hid hd
  have HN := Lib.hid hn
  clear h1 hK hA hg h hm hd hn hk
  go_enter Try.func38, Try.ntmps38
  go_wp2_with fail
  refine (putkey_any (s := s) H1.out (by have := HN.out; have a1 := wN_len 3 ki s; have a2 := wN_len 2 ks (wN 3 ki s); have a3 := wN_len 2 sq s; first | omega | (unfold wK; omega)) _ _).mono ?_
  rintro e w1 ⟨⟨v1, rfl⟩, h2⟩
  have hm1 : MsAt w1 w.heap.size 8 ki ks tg la fa su sz n d0 d1 d2 d3 d4 d5 d6 co sq bl sp cr := (HK.out _ _ _ h2).2
  have H2 := Lib.hid h2
  have HM1 := Lib.hid hm1
  clear h2 hm1
  go_wp2_with fail
  go_returns
  exact ⟨⟨_, rfl⟩, (HK.out _ _ _ H2.out).1⟩
theorem rest_6 {W w : World} {g : Nat} {A0 : Option Addr} {s : Int × List Int} (c ki ks : Int) (tg la fa su : Bool) (sz n d0 d1 d2 d3 d4 d5 d6 co sq bl sp cr : Int) (hk : canE c fa n sq bl sp = true) (hd : ∀ x ∈ dL d0 d1 d2 d3 d4 d5 d6, 0 ≤ x ∧ x ≤ 255) (hc : c = 6) (h : WS W g A0 s.1 s.2 w) (hn : s.2.length ≤ 20) :
    Calls Try.prog 38 #[.pointer (some ⟨g, 0, none⟩), .agg #[.int .i64 c, .int .i64 ki, .int .i64 ks, .bool tg, .bool la, .bool fa, .bool su, .int .i64 sz, .int .i64 n, .int .u8 d0, .int .u8 d1, .int .u8 d2, .int .u8 d3, .int .u8 d4, .int .u8 d5, .int .u8 d6, .int .i64 co, .int .i64 sq, .int .i64 bl, .int .i64 sp, .int .i64 cr]] w fun e w' => (∃ v, e = .returned v) ∧ WS W g A0 (restE c ki ks fa sz n (dL d0 d1 d2 d3 d4 d5 d6) co sq bl cr s).1 (restE c ki ks fa sz n (dL d0 d1 d2 d3 d4 d5 d6) co sq bl cr s).2 w' := by
  subst hc
  have hm : MsAt (w.alloc (.cells #[.int .i64 6, .int .i64 ki, .int .i64 ks, .bool tg, .bool la, .bool fa, .bool su, .int .i64 sz, .int .i64 n, .int .u8 d0, .int .u8 d1, .int .u8 d2, .int .u8 d3, .int .u8 d4, .int .u8 d5, .int .u8 d6, .int .i64 co, .int .i64 sq, .int .i64 bl, .int .i64 sp, .int .i64 cr] 30)) w.heap.size 6 ki ks tg la fa su sz n d0 d1 d2 d3 d4 d5 d6 co sq bl sp cr := heap_alloc_new w _
  obtain ⟨A1, h1, hA, hg, hK⟩ := h.box (.cells #[.int .i64 6, .int .i64 ki, .int .i64 ks, .bool tg, .bool la, .bool fa, .bool su, .int .i64 sz, .int .i64 n, .int .u8 d0, .int .u8 d1, .int .u8 d2, .int .u8 d3, .int .u8 d4, .int .u8 d5, .int .u8 d6, .int .i64 co, .int .i64 sq, .int .i64 bl, .int .i64 sp, .int .i64 cr] 30)
  have HM := Lib.hid hm
  have H1 := Lib.hid h1
  have HK := Lib.hid hK
  have HD := Lib.hid hd
  have HN := Lib.hid hn
  clear h1 hK hA hg h hm hd hn hk
  go_enter Try.func38, Try.ntmps38
  go_wp2_with fail
  refine (putkey_any (s := s) H1.out (by have := HN.out; have a1 := wN_len 3 ki s; have a2 := wN_len 2 ks (wN 3 ki s); have a3 := wN_len 2 sq s; first | omega | (unfold wK; omega)) _ _).mono ?_
  rintro e w1 ⟨⟨v1, rfl⟩, h2⟩
  have hm1 : MsAt w1 w.heap.size 6 ki ks tg la fa su sz n d0 d1 d2 d3 d4 d5 d6 co sq bl sp cr := (HK.out _ _ _ h2).2
  have k1_7 := hm1.cell 7
  have k1_8 := hm1.cell 8
  have k1_9 := hm1.cell 9
  have k1_16 := hm1.cell 16
  have k1_17 := hm1.cell 17
  have k1_18 := hm1.cell 18
  have k1_20 := hm1.cell 20
  simp at k1_7 k1_8 k1_9 k1_16 k1_17 k1_18 k1_20
  have H2 := Lib.hid h2
  have HM1 := Lib.hid hm1
  clear h2 hm1
  go_wp2_with fail
  refine (WS.num (s := wK ki ks s) H2.out (by have := HN.out; have a1 := wN_len 3 ki s; have a2 := wN_len 2 ks (wN 3 ki s); have a3 := wN_len 2 sq s; first | omega | (unfold wK; omega)) _ _).mono ?_
  rintro e w2 ⟨⟨v2, rfl⟩, h3⟩
  have hm2 : MsAt w2 w.heap.size 6 ki ks tg la fa su sz n d0 d1 d2 d3 d4 d5 d6 co sq bl sp cr := (HK.out _ _ _ h3).2
  have H3 := Lib.hid h3
  have HM2 := Lib.hid hm2
  clear h3 hm2
  go_wp2_with fail
  go_returns
  exact ⟨⟨_, rfl⟩, (HK.out _ _ _ H3.out).1⟩
theorem rest_12 {W w : World} {g : Nat} {A0 : Option Addr} {s : Int × List Int} (c ki ks : Int) (tg la fa su : Bool) (sz n d0 d1 d2 d3 d4 d5 d6 co sq bl sp cr : Int) (hk : canE c fa n sq bl sp = true) (hd : ∀ x ∈ dL d0 d1 d2 d3 d4 d5 d6, 0 ≤ x ∧ x ≤ 255) (hc : c = 12) (h : WS W g A0 s.1 s.2 w) (hn : s.2.length ≤ 20) :
    Calls Try.prog 38 #[.pointer (some ⟨g, 0, none⟩), .agg #[.int .i64 c, .int .i64 ki, .int .i64 ks, .bool tg, .bool la, .bool fa, .bool su, .int .i64 sz, .int .i64 n, .int .u8 d0, .int .u8 d1, .int .u8 d2, .int .u8 d3, .int .u8 d4, .int .u8 d5, .int .u8 d6, .int .i64 co, .int .i64 sq, .int .i64 bl, .int .i64 sp, .int .i64 cr]] w fun e w' => (∃ v, e = .returned v) ∧ WS W g A0 (restE c ki ks fa sz n (dL d0 d1 d2 d3 d4 d5 d6) co sq bl cr s).1 (restE c ki ks fa sz n (dL d0 d1 d2 d3 d4 d5 d6) co sq bl cr s).2 w' := by
  subst hc
  have hm : MsAt (w.alloc (.cells #[.int .i64 12, .int .i64 ki, .int .i64 ks, .bool tg, .bool la, .bool fa, .bool su, .int .i64 sz, .int .i64 n, .int .u8 d0, .int .u8 d1, .int .u8 d2, .int .u8 d3, .int .u8 d4, .int .u8 d5, .int .u8 d6, .int .i64 co, .int .i64 sq, .int .i64 bl, .int .i64 sp, .int .i64 cr] 30)) w.heap.size 12 ki ks tg la fa su sz n d0 d1 d2 d3 d4 d5 d6 co sq bl sp cr := heap_alloc_new w _
  obtain ⟨A1, h1, hA, hg, hK⟩ := h.box (.cells #[.int .i64 12, .int .i64 ki, .int .i64 ks, .bool tg, .bool la, .bool fa, .bool su, .int .i64 sz, .int .i64 n, .int .u8 d0, .int .u8 d1, .int .u8 d2, .int .u8 d3, .int .u8 d4, .int .u8 d5, .int .u8 d6, .int .i64 co, .int .i64 sq, .int .i64 bl, .int .i64 sp, .int .i64 cr] 30)
  have HM := Lib.hid hm
  have H1 := Lib.hid h1
  have HK := Lib.hid hK
  have HD := Lib.hid hd
  have HN := Lib.hid hn
  clear h1 hK hA hg h hm hd hn hk
  go_enter Try.func38, Try.ntmps38
  go_wp2_with fail
  refine (putkey_any (s := s) H1.out (by have := HN.out; have a1 := wN_len 3 ki s; have a2 := wN_len 2 ks (wN 3 ki s); have a3 := wN_len 2 sq s; first | omega | (unfold wK; omega)) _ _).mono ?_
  rintro e w1 ⟨⟨v1, rfl⟩, h2⟩
  have hm1 : MsAt w1 w.heap.size 12 ki ks tg la fa su sz n d0 d1 d2 d3 d4 d5 d6 co sq bl sp cr := (HK.out _ _ _ h2).2
  have k1_7 := hm1.cell 7
  have k1_8 := hm1.cell 8
  have k1_9 := hm1.cell 9
  have k1_16 := hm1.cell 16
  have k1_17 := hm1.cell 17
  have k1_18 := hm1.cell 18
  have k1_20 := hm1.cell 20
  simp at k1_7 k1_8 k1_9 k1_16 k1_17 k1_18 k1_20
  have H2 := Lib.hid h2
  have HM1 := Lib.hid hm1
  clear h2 hm1
  go_wp2_with fail
  refine (WS.num (s := wK ki ks s) H2.out (by have := HN.out; have a1 := wN_len 3 ki s; have a2 := wN_len 2 ks (wN 3 ki s); have a3 := wN_len 2 sq s; first | omega | (unfold wK; omega)) _ _).mono ?_
  rintro e w2 ⟨⟨v2, rfl⟩, h3⟩
  have hm2 : MsAt w2 w.heap.size 12 ki ks tg la fa su sz n d0 d1 d2 d3 d4 d5 d6 co sq bl sp cr := (HK.out _ _ _ h3).2
  have H3 := Lib.hid h3
  have HM2 := Lib.hid hm2
  clear h3 hm2
  go_wp2_with fail
  go_returns
  exact ⟨⟨_, rfl⟩, (HK.out _ _ _ H3.out).1⟩
theorem rest_14 {W w : World} {g : Nat} {A0 : Option Addr} {s : Int × List Int} (c ki ks : Int) (tg la fa su : Bool) (sz n d0 d1 d2 d3 d4 d5 d6 co sq bl sp cr : Int) (hk : canE c fa n sq bl sp = true) (hd : ∀ x ∈ dL d0 d1 d2 d3 d4 d5 d6, 0 ≤ x ∧ x ≤ 255) (hc : c = 14) (h : WS W g A0 s.1 s.2 w) (hn : s.2.length ≤ 20) :
    Calls Try.prog 38 #[.pointer (some ⟨g, 0, none⟩), .agg #[.int .i64 c, .int .i64 ki, .int .i64 ks, .bool tg, .bool la, .bool fa, .bool su, .int .i64 sz, .int .i64 n, .int .u8 d0, .int .u8 d1, .int .u8 d2, .int .u8 d3, .int .u8 d4, .int .u8 d5, .int .u8 d6, .int .i64 co, .int .i64 sq, .int .i64 bl, .int .i64 sp, .int .i64 cr]] w fun e w' => (∃ v, e = .returned v) ∧ WS W g A0 (restE c ki ks fa sz n (dL d0 d1 d2 d3 d4 d5 d6) co sq bl cr s).1 (restE c ki ks fa sz n (dL d0 d1 d2 d3 d4 d5 d6) co sq bl cr s).2 w' := by
  subst hc
  have hm : MsAt (w.alloc (.cells #[.int .i64 14, .int .i64 ki, .int .i64 ks, .bool tg, .bool la, .bool fa, .bool su, .int .i64 sz, .int .i64 n, .int .u8 d0, .int .u8 d1, .int .u8 d2, .int .u8 d3, .int .u8 d4, .int .u8 d5, .int .u8 d6, .int .i64 co, .int .i64 sq, .int .i64 bl, .int .i64 sp, .int .i64 cr] 30)) w.heap.size 14 ki ks tg la fa su sz n d0 d1 d2 d3 d4 d5 d6 co sq bl sp cr := heap_alloc_new w _
  obtain ⟨A1, h1, hA, hg, hK⟩ := h.box (.cells #[.int .i64 14, .int .i64 ki, .int .i64 ks, .bool tg, .bool la, .bool fa, .bool su, .int .i64 sz, .int .i64 n, .int .u8 d0, .int .u8 d1, .int .u8 d2, .int .u8 d3, .int .u8 d4, .int .u8 d5, .int .u8 d6, .int .i64 co, .int .i64 sq, .int .i64 bl, .int .i64 sp, .int .i64 cr] 30)
  have HM := Lib.hid hm
  have H1 := Lib.hid h1
  have HK := Lib.hid hK
  have HD := Lib.hid hd
  have HN := Lib.hid hn
  clear h1 hK hA hg h hm hd hn hk
  go_enter Try.func38, Try.ntmps38
  go_wp2_with fail
  refine (putkey_any (s := s) H1.out (by have := HN.out; have a1 := wN_len 3 ki s; have a2 := wN_len 2 ks (wN 3 ki s); have a3 := wN_len 2 sq s; first | omega | (unfold wK; omega)) _ _).mono ?_
  rintro e w1 ⟨⟨v1, rfl⟩, h2⟩
  have hm1 : MsAt w1 w.heap.size 14 ki ks tg la fa su sz n d0 d1 d2 d3 d4 d5 d6 co sq bl sp cr := (HK.out _ _ _ h2).2
  have k1_7 := hm1.cell 7
  have k1_8 := hm1.cell 8
  have k1_9 := hm1.cell 9
  have k1_16 := hm1.cell 16
  have k1_17 := hm1.cell 17
  have k1_18 := hm1.cell 18
  have k1_20 := hm1.cell 20
  simp at k1_7 k1_8 k1_9 k1_16 k1_17 k1_18 k1_20
  have H2 := Lib.hid h2
  have HM1 := Lib.hid hm1
  clear h2 hm1
  go_wp2_with fail
  refine (WS.num (s := wK ki ks s) H2.out (by have := HN.out; have a1 := wN_len 3 ki s; have a2 := wN_len 2 ks (wN 3 ki s); have a3 := wN_len 2 sq s; first | omega | (unfold wK; omega)) _ _).mono ?_
  rintro e w2 ⟨⟨v2, rfl⟩, h3⟩
  have hm2 : MsAt w2 w.heap.size 14 ki ks tg la fa su sz n d0 d1 d2 d3 d4 d5 d6 co sq bl sp cr := (HK.out _ _ _ h3).2
  have H3 := Lib.hid h3
  have HM2 := Lib.hid hm2
  clear h3 hm2
  go_wp2_with fail
  go_returns
  exact ⟨⟨_, rfl⟩, (HK.out _ _ _ H3.out).1⟩
theorem rest_5 {W w : World} {g : Nat} {A0 : Option Addr} {s : Int × List Int} (c ki ks : Int) (tg la fa su : Bool) (sz n d0 d1 d2 d3 d4 d5 d6 co sq bl sp cr : Int) (hk : canE c fa n sq bl sp = true) (hd : ∀ x ∈ dL d0 d1 d2 d3 d4 d5 d6, 0 ≤ x ∧ x ≤ 255) (hc : c = 5) (h : WS W g A0 s.1 s.2 w) (hn : s.2.length ≤ 20) :
    Calls Try.prog 38 #[.pointer (some ⟨g, 0, none⟩), .agg #[.int .i64 c, .int .i64 ki, .int .i64 ks, .bool tg, .bool la, .bool fa, .bool su, .int .i64 sz, .int .i64 n, .int .u8 d0, .int .u8 d1, .int .u8 d2, .int .u8 d3, .int .u8 d4, .int .u8 d5, .int .u8 d6, .int .i64 co, .int .i64 sq, .int .i64 bl, .int .i64 sp, .int .i64 cr]] w fun e w' => (∃ v, e = .returned v) ∧ WS W g A0 (restE c ki ks fa sz n (dL d0 d1 d2 d3 d4 d5 d6) co sq bl cr s).1 (restE c ki ks fa sz n (dL d0 d1 d2 d3 d4 d5 d6) co sq bl cr s).2 w' := by
  subst hc
  have hm : MsAt (w.alloc (.cells #[.int .i64 5, .int .i64 ki, .int .i64 ks, .bool tg, .bool la, .bool fa, .bool su, .int .i64 sz, .int .i64 n, .int .u8 d0, .int .u8 d1, .int .u8 d2, .int .u8 d3, .int .u8 d4, .int .u8 d5, .int .u8 d6, .int .i64 co, .int .i64 sq, .int .i64 bl, .int .i64 sp, .int .i64 cr] 30)) w.heap.size 5 ki ks tg la fa su sz n d0 d1 d2 d3 d4 d5 d6 co sq bl sp cr := heap_alloc_new w _
  obtain ⟨A1, h1, hA, hg, hK⟩ := h.box (.cells #[.int .i64 5, .int .i64 ki, .int .i64 ks, .bool tg, .bool la, .bool fa, .bool su, .int .i64 sz, .int .i64 n, .int .u8 d0, .int .u8 d1, .int .u8 d2, .int .u8 d3, .int .u8 d4, .int .u8 d5, .int .u8 d6, .int .i64 co, .int .i64 sq, .int .i64 bl, .int .i64 sp, .int .i64 cr] 30)
  have HM := Lib.hid hm
  have H1 := Lib.hid h1
  have HK := Lib.hid hK
  have HD := Lib.hid hd
  have HN := Lib.hid hn
  clear h1 hK hA hg h hm hd hn hk
  go_enter Try.func38, Try.ntmps38
  go_wp2_with fail
  refine (putkey_any (s := s) H1.out (by have := HN.out; have a1 := wN_len 3 ki s; have a2 := wN_len 2 ks (wN 3 ki s); have a3 := wN_len 2 sq s; first | omega | (unfold wK; omega)) _ _).mono ?_
  rintro e w1 ⟨⟨v1, rfl⟩, h2⟩
  have hm1 : MsAt w1 w.heap.size 5 ki ks tg la fa su sz n d0 d1 d2 d3 d4 d5 d6 co sq bl sp cr := (HK.out _ _ _ h2).2
  have k1_7 := hm1.cell 7
  have k1_8 := hm1.cell 8
  have k1_9 := hm1.cell 9
  have k1_16 := hm1.cell 16
  have k1_17 := hm1.cell 17
  have k1_18 := hm1.cell 18
  have k1_20 := hm1.cell 20
  simp at k1_7 k1_8 k1_9 k1_16 k1_17 k1_18 k1_20
  have H2 := Lib.hid h2
  have HM1 := Lib.hid hm1
  clear h2 hm1
  go_wp2_with fail
  refine (putsize_any (s := wK ki ks s) H2.out (by have := HN.out; have a1 := wN_len 3 ki s; have a2 := wN_len 2 ks (wN 3 ki s); have a3 := wN_len 2 sq s; first | omega | (unfold wK; omega)) _).mono ?_
  rintro e w2 ⟨⟨v2, rfl⟩, h3⟩
  have hm2 : MsAt w2 w.heap.size 5 ki ks tg la fa su sz n d0 d1 d2 d3 d4 d5 d6 co sq bl sp cr := (HK.out _ _ _ h3).2
  have H3 := Lib.hid h3
  have HM2 := Lib.hid hm2
  clear h3 hm2
  go_wp2_with fail
  go_returns
  exact ⟨⟨_, rfl⟩, (HK.out _ _ _ H3.out).1⟩
theorem rest_13 {W w : World} {g : Nat} {A0 : Option Addr} {s : Int × List Int} (c ki ks : Int) (tg la fa su : Bool) (sz n d0 d1 d2 d3 d4 d5 d6 co sq bl sp cr : Int) (hk : canE c fa n sq bl sp = true) (hd : ∀ x ∈ dL d0 d1 d2 d3 d4 d5 d6, 0 ≤ x ∧ x ≤ 255) (hc : c = 13) (h : WS W g A0 s.1 s.2 w) (hn : s.2.length ≤ 20) :
    Calls Try.prog 38 #[.pointer (some ⟨g, 0, none⟩), .agg #[.int .i64 c, .int .i64 ki, .int .i64 ks, .bool tg, .bool la, .bool fa, .bool su, .int .i64 sz, .int .i64 n, .int .u8 d0, .int .u8 d1, .int .u8 d2, .int .u8 d3, .int .u8 d4, .int .u8 d5, .int .u8 d6, .int .i64 co, .int .i64 sq, .int .i64 bl, .int .i64 sp, .int .i64 cr]] w fun e w' => (∃ v, e = .returned v) ∧ WS W g A0 (restE c ki ks fa sz n (dL d0 d1 d2 d3 d4 d5 d6) co sq bl cr s).1 (restE c ki ks fa sz n (dL d0 d1 d2 d3 d4 d5 d6) co sq bl cr s).2 w' := by
  subst hc
  have hm : MsAt (w.alloc (.cells #[.int .i64 13, .int .i64 ki, .int .i64 ks, .bool tg, .bool la, .bool fa, .bool su, .int .i64 sz, .int .i64 n, .int .u8 d0, .int .u8 d1, .int .u8 d2, .int .u8 d3, .int .u8 d4, .int .u8 d5, .int .u8 d6, .int .i64 co, .int .i64 sq, .int .i64 bl, .int .i64 sp, .int .i64 cr] 30)) w.heap.size 13 ki ks tg la fa su sz n d0 d1 d2 d3 d4 d5 d6 co sq bl sp cr := heap_alloc_new w _
  obtain ⟨A1, h1, hA, hg, hK⟩ := h.box (.cells #[.int .i64 13, .int .i64 ki, .int .i64 ks, .bool tg, .bool la, .bool fa, .bool su, .int .i64 sz, .int .i64 n, .int .u8 d0, .int .u8 d1, .int .u8 d2, .int .u8 d3, .int .u8 d4, .int .u8 d5, .int .u8 d6, .int .i64 co, .int .i64 sq, .int .i64 bl, .int .i64 sp, .int .i64 cr] 30)
  have HM := Lib.hid hm
  have H1 := Lib.hid h1
  have HK := Lib.hid hK
  have HD := Lib.hid hd
  have HN := Lib.hid hn
  clear h1 hK hA hg h hm hd hn hk
  go_enter Try.func38, Try.ntmps38
  go_wp2_with fail
  refine (putkey_any (s := s) H1.out (by have := HN.out; have a1 := wN_len 3 ki s; have a2 := wN_len 2 ks (wN 3 ki s); have a3 := wN_len 2 sq s; first | omega | (unfold wK; omega)) _ _).mono ?_
  rintro e w1 ⟨⟨v1, rfl⟩, h2⟩
  have hm1 : MsAt w1 w.heap.size 13 ki ks tg la fa su sz n d0 d1 d2 d3 d4 d5 d6 co sq bl sp cr := (HK.out _ _ _ h2).2
  have k1_7 := hm1.cell 7
  have k1_8 := hm1.cell 8
  have k1_9 := hm1.cell 9
  have k1_16 := hm1.cell 16
  have k1_17 := hm1.cell 17
  have k1_18 := hm1.cell 18
  have k1_20 := hm1.cell 20
  simp at k1_7 k1_8 k1_9 k1_16 k1_17 k1_18 k1_20
  have H2 := Lib.hid h2
  have HM1 := Lib.hid hm1
  clear h2 hm1
  go_wp2_with fail
  refine (putsize_any (s := wK ki ks s) H2.out (by have := HN.out; have a1 := wN_len 3 ki s; have a2 := wN_len 2 ks (wN 3 ki s); have a3 := wN_len 2 sq s; first | omega | (unfold wK; omega)) _).mono ?_
  rintro e w2 ⟨⟨v2, rfl⟩, h3⟩
  have hm2 : MsAt w2 w.heap.size 13 ki ks tg la fa su sz n d0 d1 d2 d3 d4 d5 d6 co sq bl sp cr := (HK.out _ _ _ h3).2
  have H3 := Lib.hid h3
  have HM2 := Lib.hid hm2
  clear h3 hm2
  go_wp2_with fail
  go_returns
  exact ⟨⟨_, rfl⟩, (HK.out _ _ _ H3.out).1⟩
end Go.Proofs.Ytoamgdcjmkkmfaa
