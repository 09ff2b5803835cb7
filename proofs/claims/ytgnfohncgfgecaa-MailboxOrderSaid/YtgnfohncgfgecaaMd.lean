/- Len. -/
import Derived.Test.YtgnfohncgfgecaaMc
namespace Go.Proofs.Ytgnfohncgfgecaa
open Go.RowKit Go.Shelf
attribute [local go_sem] Oper.semAt_some

theorem heap_own {β : Type} (k Bn : Nat) (f : β → Obj) (h : k < Bn) : OwnFrom Bn (fun (s : β) W => W.heap[k]? = some (f s)) := fun s W W' row hs hg hr => (hg.block k (Array.getElem?_eq_some_iff.1 hs).1 (fun e => by have := (hr k e.symm).1; omega)).trans hs
theorem one_set {W : World} {k : Nat} {t : TypeId} {u : Value} (h : W.heap[k]? = some (.cells #[u] t (0, 0))) (v : Value) : (W.setCell ⟨k, 0, none⟩ v).heap[k]? = some (.cells #[v] t (0, 0)) := by
  simp [World.setCell, Array.getElem?_modify, h]
theorem heap_other (W : World) (a : Addr) (v : Value) (k : Nat) (h : ¬ k = a.block) : (W.setCell a v).heap[k]? = W.heap[k]? := Below.heap_setCell W a v k h
theorem cntL_snoc (s : Bool) (ls : List Ltr) (x : Ltr) : cntL s (ls ++ [x]) = cntL s ls + if x.s == s then 1 else 0 := by
  unfold cntL
  rw [List.filter_append, List.length_append]
  cases h : x.s == s <;> simp [h]
theorem cntL_le (s : Bool) (ls : List Ltr) : cntL s ls ≤ ls.length := List.length_filter_le _ _
/-- The loop's boxes: the part at h, the count behind it. -/
structure LnB (h : Nat) (W : World) (s : Bool) (n : Int) : Prop where
  s : W.heap[h]? = some (.cells #[.bool s] 4 (0, 0))
  n : W.heap[h + 1]? = some (.cells #[.int .i64 n] 3 (0, 0))
def LnI (w : World) (s : Bool) (pre : List Ltr) (W : World) : Prop := LnB w.heap.size W s (cntL s pre : Nat) ∧ Below w.heap.size w W
theorem LnI_own (w : World) (s : Bool) (Bn : Nat) (h1 : w.heap.size + 1 < Bn) : OwnFrom Bn (LnI w s) := fun pre W W' row hs hg hr =>
  ⟨⟨heap_own (β := List Ltr) w.heap.size Bn (fun _ => _) (by omega) pre W W' row hs.1.s hg hr, heap_own (β := List Ltr) (w.heap.size + 1) Bn (fun pre => .cells #[.int .i64 (cntL s pre : Nat)] 3 (0, 0)) h1 pre W W' row hs.1.n hg hr⟩,
    ownFrom_below (β := List Ltr) (Nat.le_refl _) (by omega) pre W W' row hs.2 hg hr⟩
set_option maxRecDepth 100000 in
set_option maxHeartbeats 4000000 in
theorem len_in (w : World) (base g : Nat) (ls : List Ltr) (lost : Int) (v : Value) (s : Bool) (h : Bx w base g ls lost v) :
    CallsIn Fence.wide 8 Try.prog 21 #[.pointer (some ⟨g, 0, none⟩), .bool s] w fun e w' => e = .returned (.int .i64 (cntL s ls : Nat)) ∧ Below w.heap.size w w' := by
  have hba : Below w.heap.size w ((w.alloc (.cells #[.bool s] 4)).alloc (.cells #[.int .i64 0] 3)) := ((Below.refl _ _).alloc (Nat.le_refl _) _).alloc (by simp) _
  have hs0 := heap_alloc2_old w (.cells #[.bool s] 4) (.cells #[.int .i64 0] 3)
  have hn0 := heap_alloc2_new w (.cells #[.bool s] 4) (.cells #[.int .i64 0] 3)
  have hz0 : ((w.alloc (.cells #[.bool s] 4)).alloc (.cells #[.int .i64 0] 3)).heap.size = w.heap.size + 2 := by simp
  have HBA := Lib.hid hba
  have HS0 := Lib.hid hs0
  have HN0 := Lib.hid hn0
  have HZ0 := Lib.hid hz0
  have HX := Lib.hid h
  have hfew := h.few
  clear h hba hs0 hn0 hz0
  refine callsIn_of_wp_marks Try.func21 rfl trivial ?_ rfl
  simp only [Try.ntmps21, List.size_toArray, List.length_cons, List.length_nil, Nat.reduceAdd, Nat.reduceSub, Array.replicate_succ, Array.replicate_zero, List.push_toArray, List.append_toArray, List.nil_append, List.cons_append]
  gi_wp2_with fail
  refine ⟨trivial, ?_⟩
  generalize (w.alloc (.cells #[.bool s] 4)).alloc (.cells #[.int .i64 0] 3) = w0 at *
  refine (callsIn_wide.2 (all_any _ _)).mono ?_
  rintro e w2 ⟨rfl, rfl⟩
  have hb1 : Below w0.heap.size w0 (w0.alloc (.cells #[.pointer (some ⟨g, 0, none⟩)] 23)) := (Below.refl _ _).alloc (Nat.le_refl _) _
  have hb2 : Below w.heap.size w (w0.alloc (.cells #[.pointer (some ⟨g, 0, none⟩)] 23)) := HBA.out.trans (hb1.mono HBA.out.size)
  have hp2 : (w0.alloc (.cells #[.pointer (some ⟨g, 0, none⟩)] 23)).heap[w0.heap.size]? = some (.cells #[.pointer (some ⟨g, 0, none⟩)] 23 (0, 0)) := heap_alloc_new w0 _
  have hsz : w0.heap.size = w.heap.size + 2 := HZ0.out
  have hsz2 : (w0.alloc (.cells #[.pointer (some ⟨g, 0, none⟩)] 23)).heap.size = w.heap.size + 3 := by simp; omega
  have hlb : LnB w.heap.size (w0.alloc (.cells #[.pointer (some ⟨g, 0, none⟩)] 23)) s 0 := ⟨(hb1.block _ (by omega)).trans HS0.out, (hb1.block _ (by omega)).trans HN0.out⟩
  have HB2 := Lib.hid hb2
  have HP2 := Lib.hid hp2
  have HSZ := Lib.hid hsz
  have HSZ2 := Lib.hid hsz2
  have HLB := Lib.hid hlb
  clear hb1 hb2 hp2 hsz hsz2 hlb
  gi_wp2_with fail
  rw [HSZ.out]
  generalize hP2 : (w0.alloc (.cells #[.pointer (some ⟨g, 0, none⟩)] 23)) = W2 at *
  clear hP2
  have hp2 := HP2.out
  rw [HSZ.out] at hp2
  have hst := all_stops 7 (by omega) (w.heap.size + 2) g base ls lost v (· = w.heap.size + 1) (fun _ => none) W2 hp2 (HX.out.below HB2.out) (fun k hk => by rw [hk, HSZ2.out]; omega) (fun _ _ _ _ => rfl) (fun _ _ _ h => by cases h)
  have hI : LnI w s [] W2 := ⟨HLB.out, HB2.out⟩
  refine wpIn_rangeFunc_ownG rfl (by omega) (gf := 36) (lb := #[.pointer (some ⟨w.heap.size + 2, 0, none⟩)]) rfl trivial (enters_of Try.func36 (by kernel_rfl) rfl)
    hst kq_t (kq_b fun _ _ _ _ => rfl) (Below.refl _ _) (fun _ => rfl)
    (LnI w s) (fun _ _ _ => False) (LnI_own w s _ (by rw [HSZ2.out]; omega)) (fun _ => fun _ _ _ _ h _ _ => h) hI
    (fun x => { tmps := #[.pointer (some ⟨g, 0, none⟩), .bool s, undef, .pointer (some ⟨w.heap.size, 0, none⟩), .int .i64 0, .pointer (some ⟨w.heap.size + 1, 0, none⟩), undef, .bool x.s, .pointer (some ⟨g, 0, none⟩), .func (Fn.func 36) #[] #[.pointer (some ⟨w.heap.size + 2, 0, none⟩)], .agg #[.int .i64 x.id, .bool x.r, .int .i64 x.n, .int .u8 (x.d 0), .int .u8 (x.d 1), .int .u8 (x.d 2), .int .u8 (x.d 3), .int .u8 (x.d 4), .int .u8 (x.d 5), .int .u8 (x.d 6), .int .u8 (x.d 7)], .bool x.s, undef, undef, undef, undef, undef, undef], defers := [] }) ?assign ?body ?done ?stop
  case assign =>
    intro lp x W K hK
    gi_wp2
    exact hK
  case body =>
    rintro lp pre x W ⟨hbx, hbw⟩ hlen
    have c3 : W.cell? ⟨w.heap.size, 0, none⟩ = some (.bool s) := by rw [cell_of_row _ _ _ _ _ _ hbx.s]; rfl
    have c5 : W.cell? ⟨w.heap.size + 1, 0, none⟩ = some (.int .i64 (cntL s pre : Nat)) := by rw [cell_of_row _ _ _ _ _ _ hbx.n]; rfl
    have f5 : W.frozen? ⟨w.heap.size + 1, 0, none⟩ = false := frozen_of_row _ _ _ _ _ hbx.n
    have hsn := cntL_snoc s pre x
    have hcl := cntL_le s pre
    have hln : cntL s pre ≤ 100 := by omega
    have HBX2 := Lib.hid hbx
    have HBW := Lib.hid hbw
    clear hbx hcl hlen
    generalize cntL s pre = c at *
    by_cases e : x.s = s
    · have t1 : (x.s == s) = true := by simpa using e
      rw [t1] at hsn
      have hs1 : cntL s (pre ++ [x]) = c + 1 := hsn
      have HSN := Lib.hid hs1
      clear hsn e hs1 hbw
      gi_wp2_with fail
      refine ⟨(KeepsOthers.setCell _ _ _).from _, kq_set _ _ _ rfl rfl, ⟨?_, HBW.out.setCell (p := ⟨w.heap.size + 1, 0, none⟩) (by simp) _⟩⟩
      rw [HSN.out]
      exact ⟨(heap_other _ _ _ _ (by simp)).trans HBX2.out.s, by rw [show (((c + 1 : Nat)) : Int) = (c : Int) + 1 by omega]; exact one_set HBX2.out.n _⟩
    · have t1 : (x.s == s) = false := by simpa using e
      rw [t1] at hsn
      have hs1 : cntL s (pre ++ [x]) = c := by simpa using hsn
      have HSN := Lib.hid hs1
      clear hsn e hs1 hbw
      gi_wp2_with fail
      refine ⟨(KeepsOthers.refl _).from _, kq_refl _, ⟨?_, HBW.out⟩⟩
      rw [HSN.out]
      exact HBX2.out
  case stop =>
    rintro D cc pre W hD hSp hX hK
    exact absurd hX id
  case done =>
    rintro D ys W hD rfl ⟨hbx, hbw⟩ hK
    have c5 : W.cell? ⟨w.heap.size + 1, 0, none⟩ = some (.int .i64 (cntL s ys : Nat)) := by rw [cell_of_row _ _ _ _ _ _ hbx.n]; rfl
    have HK := Lib.hid hK
    clear hbx hK
    gi_wp2_with fail
    have hbw6 := hbw.grown (grownBy_putObj' W D (.deferred none)) hbw.size (fun k e => by cases e; have := HSZ2.out; omega)
    refine ⟨by simp, .inl ⟨_, _, rfl, run_takeDeferred HK.out, ?_⟩⟩
    exact ⟨_, results_tmp rfl _ _ _, rfl, hbw6⟩
theorem len_any (w : World) (base g : Nat) (ls : List Ltr) (lost : Int) (v : Value) (s : Bool) (h : Bx w base g ls lost v) :
    Calls Try.prog 21 #[.pointer (some ⟨g, 0, none⟩), .bool s] w fun e w' => e = .returned (.int .i64 (cntL s ls : Nat)) ∧ Below w.heap.size w w' := callsIn_wide.1 (len_in w base g ls lost v s h)
end Go.Proofs.Ytgnfohncgfgecaa
