/- Count. -/
import Derived.Test.YtjofgomnnpeepaaGq
namespace Go.Proofs.Ytjofgomnnpeepaa
open Go.RowKit Go.Sort Go.Shelf
attribute [local go_sem] Oper.semAt_some

theorem heap_own {β : Type} (k Bn : Nat) (f : β → Obj) (h : k < Bn) : OwnFrom Bn (fun (s : β) W => W.heap[k]? = some (f s)) := fun s W W' row hs hg hr => (hg.block k (Array.getElem?_eq_some_iff.1 hs).1 (fun e => by have := (hr k e.symm).1; omega)).trans hs
def CntI (w : World) (nb : Nat) (pre : List Nat) (W : World) : Prop := Boxed W nb 3 (.int .i64 (pre.length : Nat)) ∧ Below w.heap.size w W
theorem CntI_own (w : World) (nb Bn : Nat) (h : w.heap.size ≤ Bn) (hn : nb < Bn) : OwnFrom Bn (CntI w nb) := fun s W W' row hs hg hr =>
  ⟨heap_own (β := List Nat) nb Bn (fun s => .cells #[.int .i64 (s.length : Nat)] 3 (0, 0)) hn s W W' row hs.1 hg hr, ownFrom_below (β := List Nat) (Nat.le_refl _) h s W W' row hs.2 hg hr⟩
set_option maxRecDepth 100000 in
set_option maxHeartbeats 4000000 in
theorem count_in (w : World) (A : Option Addr) (n c : Nat) (fs : Nat → Int × Int) (h : Fils w w.heap.size A n c fs) :
    CallsIn Fence.wide 8 Try.prog 13 #[.slice A n c] w fun e w' => e = .returned (.int .i64 ((selL (fun q => anyF fs n (q : Nat)) 2048).length : Nat)) ∧ Below w.heap.size w w' := by
  have hba : Below w.heap.size w (w.alloc (.cells #[.int .i64 0] 3)) := (Below.refl _ _).alloc (Nat.le_refl _) _
  have hbx : Boxed (w.alloc (.cells #[.int .i64 0] 3)) w.heap.size 3 (.int .i64 0) := Boxed.new w _ _
  have hids := ids_any (w.alloc (.cells #[.int .i64 0] 3)) A n c fs (h.step hba)
  have HI := Lib.hid hids
  have HBA := Lib.hid hba
  have HBX := Lib.hid hbx
  clear h hids hba hbx
  refine callsIn_of_wp_marks Try.func13 rfl trivial ?_ rfl
  simp only [Try.ntmps13, List.size_toArray, List.length_cons, List.length_nil, Nat.reduceAdd, Nat.reduceSub, Array.replicate_succ, Array.replicate_zero, List.push_toArray, List.append_toArray, List.nil_append, List.cons_append]
  gi_wp2_with fail
  refine ⟨trivial, ?_⟩
  refine (callsIn_wide.2 HI.out).mono ?_
  rintro e w1 ⟨⟨rfl, hs1⟩, hb1⟩
  generalize hg : (w.alloc (.cells #[.int .i64 0] 3)).heap.size = g at hs1
  gi_wp2_with fail
  have hgs : g = w.heap.size + 1 := by rw [← hg]; simp
  have hb0 : Below w.heap.size w w1 := HBA.out.trans (hb1.mono HBA.out.size)
  have hI : CntI w w.heap.size [] w1 := ⟨(hb1.block _ HBX.out.lt).trans HBX.out, hb0⟩
  have hsz : w.heap.size < w1.heap.size := hI.1.lt
  have HI1 := Lib.hid hI
  have HS1 := Lib.hid hs1
  have HB0 := Lib.hid hb0
  clear hI hs1 hb0 hb1 hg
  refine wpIn_rangeFunc_ownG rfl (by omega) (gf := 23) (lb := #[.pointer (some ⟨g, 0, none⟩)]) rfl trivial (enters_of Try.func23 (by kernel_rfl) rfl)
    (ids_stops 7 (by omega) g _ w1 HS1.out) (fun _ _ => trivial) (fun _ _ _ _ _ _ _ _ => trivial) (Below.refl _ _) (fun _ => rfl)
    (CntI w w.heap.size) (fun _ _ _ => False) (CntI_own w _ _ HB0.out.size hsz) (fun _ => fun _ _ _ _ h _ _ => h) HI1.out
    (fun x => { tmps := #[.slice A n c, undef, .int .i64 0, .pointer (some ⟨w.heap.size, 0, none⟩), .slice A n c, .func (Fn.func 23) #[] #[.pointer (some ⟨g, 0, none⟩)], .int .i64 (x : Nat), undef, undef, undef], defers := [] }) ?assign ?body ?done ?stop
  case assign =>
    intro lp x W K hK
    gi_wp2
    simpa using hK
  case body =>
    rintro lp pre x W ⟨hbx, hbw⟩ hlen
    have c0 := hbx.cell
    have f0 := hbx.frozen
    have k2 := fun v => (KeepsOthers.setCell W ⟨w.heap.size, 0, none⟩ v).from w1.heap.size
    have hln : ((pre ++ [x]).length : Int) = (pre.length : Int) + 1 := by simp
    have HLN := Lib.hid hln
    have HBX2 := Lib.hid hbx
    have K2 := Lib.hid k2
    clear hbx k2 hln
    gi_wp2_with fail
    refine ⟨K2.out _, trivial, ⟨?_, hbw.setCell (p := ⟨w.heap.size, 0, none⟩) (by simp) _⟩⟩
    rw [HLN.out]
    exact HBX2.out.set _
  case stop =>
    rintro D cc pre W hD hSp hX hK
    exact absurd hX id
  case done =>
    rintro D ys W hD rfl ⟨hbx, hbw⟩ hK
    have c0 := hbx.cell
    have HK := Lib.hid hK
    clear hbx hK
    gi_wp2_with fail
    have hbw6 := hbw.grown (grownBy_putObj' W D (.deferred none)) hbw.size (fun k e => by cases e; have := HB0.out.size; omega)
    refine ⟨by simp, .inl ⟨_, _, rfl, run_takeDeferred HK.out, ?_⟩⟩
    exact ⟨_, results_tmp rfl _ _ _, rfl, hbw6⟩
theorem count_any (w : World) (A : Option Addr) (n c : Nat) (fs : Nat → Int × Int) (h : Fils w w.heap.size A n c fs) :
    Calls Try.prog 13 #[.slice A n c] w fun e w' => e = .returned (.int .i64 ((selL (fun q => anyF fs n (q : Nat)) 2048).length : Nat)) ∧ Below w.heap.size w w' := callsIn_wide.1 (count_in w A n c fs h)
end Go.Proofs.Ytjofgomnnpeepaa
