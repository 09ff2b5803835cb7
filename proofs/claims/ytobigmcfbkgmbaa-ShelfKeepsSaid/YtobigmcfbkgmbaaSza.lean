/- What told answers of a table, of the rows from a key on, of those up to a key; and of no table. -/
import Derived.Test.YtobigmcfbkgmbaaSz
namespace Go.Proofs.Ytobigmcfbkgmbaa
open Go.RowKit Go.Shelf
attribute [local go_sem] Oper.semAt_some

theorem tolA (w0 W : World) (g gb : Nat) (T : List (Int × Int)) (h : TabAt 53 59 w0 g T.length (fl eI eI T) W) (hT : T.length ≤ 1000)
    (hbox : W.heap[gb]? = some (.cells #[.pointer (some ⟨g, 0, none⟩)] 23 (0, 0))) (base : Nat) (vr : Value) (hr : W.ownsRow base 44 2 vr T.length (fl eI eI T)) :
    Calls Try.prog 8 #[.func (Fn.func 26) #[] #[.pointer (some ⟨gb, 0, none⟩)], vr] W fun e w' => e = .returned (.bool true) ∧ Below W.heap.size W w' := by
  obtain ⟨v, hv⟩ := h.tab
  exact callsIn_wide.1 (told_in _ _ (enters_of Try.func26 (by kernel_rfl) rfl) T W base vr hr hT fun w' hb hs =>
    all1_L 8 (by omega) gb g w0.heap.size v T _ _ 0 loc_none w' (Nat.zero_le _) ((hb.block gb (Array.getElem?_eq_some_iff.1 hbox).1).trans hbox) (hv.below hb) hT (fun k hk => by omega) (fun k hk => by cases hk))
theorem part_drop {T : List (Int × Int)} {at_ : Nat} (h : at_ ≤ T.length) : T.length - at_ = (T.drop at_).length ∧ ((fl eI eI T).drop (at_ * 2)).take ((T.length - at_) * 2) = fl eI eI (T.drop at_) := by
  refine ⟨by simp, ?_⟩
  rw [fl_drop, List.take_of_length_le (by rw [fl_len]; simp)]
theorem part_take {T : List (Int × Int)} {q : Nat} (h : q ≤ T.length) : q - 0 = (T.take q).length ∧ ((fl eI eI T).drop (0 * 2)).take ((q - 0) * 2) = fl eI eI (T.take q) := by
  refine ⟨by simp; omega, ?_⟩
  rw [Nat.zero_mul, List.drop_zero, Nat.sub_zero, fl_take]
theorem tolF (w0 W : World) (g gb kb : Nat) (T : List (Int × Int)) (k : Int) (h : TabAt 53 59 w0 g T.length (fl eI eI T) W) (hT : T.length ≤ 1000) (hs : Rise T)
    (hbox : W.heap[gb]? = some (.cells #[.pointer (some ⟨g, 0, none⟩)] 23 (0, 0))) (hboxk : W.heap[kb]? = some (.cells #[.int .i64 k] 3 (0, 0)))
    (base : Nat) (vr : Value) (hr : W.ownsRow base 44 2 vr (T.drop (plcI k T)).length (fl eI eI (T.drop (plcI k T)))) :
    Calls Try.prog 8 #[.func (Fn.func 30) #[] #[.pointer (some ⟨gb, 0, none⟩), .pointer (some ⟨kb, 0, none⟩)], vr] W fun e w' => e = .returned (.bool true) ∧ Below W.heap.size W w' := by
  obtain ⟨v, hv⟩ := h.tab
  have hp := plcI_le k T
  obtain ⟨e1, e2⟩ := part_drop hp
  have hl : (T.drop (plcI k T)).length ≤ 1000 := by simp; omega
  exact callsIn_wide.1 (told_in _ _ (enters_of Try.func30 (by kernel_rfl) rfl) (T.drop (plcI k T)) W base vr hr hl fun w' hb hs' =>
    from1_G 8 (by omega) gb (some ⟨g, 0, none⟩) (T.drop (plcI k T)) (by omega) kb T.length (plcI k T) k (hasI k T) _ _ 0 loc_none w' (Nat.zero_le _)
      ((hb.block gb (Array.getElem?_eq_some_iff.1 hbox).1).trans hbox) ((hb.block kb (Array.getElem?_eq_some_iff.1 hboxk).1).trans hboxk)
      (fun x hx => lenA x w0.heap.size g T.length (fl eI eI T) v (hv.below (kF hx hb)))
      (fun x hx => placeA x w0.heap.size g T v k (hv.below (kF hx hb)) (by omega) hs)
      (fun x hx => by have := partG x w0.heap.size g T.length (plcI k T) T.length (fl eI eI T) v (hv.below (kF hx hb)) hT (fl_one eI eI (fun _ => rfl) (fun _ => rfl) T) hp (Nat.le_refl _); rw [e1, ← e1, e2] at this; rw [← e1]; exact this)
      (fun k hk => by omega) (fun k hk => by cases hk))
/-- How many rows stand up to a key. -/
def upI (k : Int) (T : List (Int × Int)) : Nat := if hasI k T then plcI k T + 1 else plcI k T
theorem upI_le (k : Int) (T : List (Int × Int)) : upI k T ≤ T.length := by
  unfold upI
  split
  · rename_i hh
    obtain ⟨x, hx, _⟩ := hasI_at hh
    exact (List.getElem?_eq_some_iff.1 hx).1
  · exact plcI_le k T
theorem tolB (w0 W : World) (g gb kb : Nat) (T : List (Int × Int)) (k : Int) (h : TabAt 53 59 w0 g T.length (fl eI eI T) W) (hT : T.length ≤ 1000) (hs : Rise T)
    (hbox : W.heap[gb]? = some (.cells #[.pointer (some ⟨g, 0, none⟩)] 23 (0, 0))) (hboxk : W.heap[kb]? = some (.cells #[.int .i64 k] 3 (0, 0)))
    (base : Nat) (vr : Value) (hr : W.ownsRow base 44 2 vr ((T.take (upI k T)).reverse).length (fl eI eI ((T.take (upI k T)).reverse))) :
    Calls Try.prog 8 #[.func (Fn.func 31) #[] #[.pointer (some ⟨gb, 0, none⟩), .pointer (some ⟨kb, 0, none⟩)], vr] W fun e w' => e = .returned (.bool true) ∧ Below W.heap.size W w' := by
  obtain ⟨v, hv⟩ := h.tab
  have hp := upI_le k T
  obtain ⟨e1, e2⟩ := part_take hp
  have hl : ((T.take (upI k T)).reverse).length ≤ 1000 := by simp; omega
  refine callsIn_wide.1 (told_in _ _ (enters_of Try.func31 (by kernel_rfl) rfl) (T.take (upI k T)).reverse W base vr hr hl fun w' hb hs' => ?_)
  have hq := back1_G 8 (by omega) gb (some ⟨g, 0, none⟩) (T.take (upI k T)) (by simp at hl; simp; omega) kb (plcI k T) k (hasI k T) (fun k => k = W.heap.size + 2) (fun _ => none) 0 loc_none w' (Nat.zero_le _)
      ((hb.block gb (Array.getElem?_eq_some_iff.1 hbox).1).trans hbox) ((hb.block kb (Array.getElem?_eq_some_iff.1 hboxk).1).trans hboxk)
      (fun x hx => placeA x w0.heap.size g T v k (hv.below (kF hx hb)) (by omega) hs)
      (fun x hx => by have := partG x w0.heap.size g T.length 0 (upI k T) (fl eI eI T) v (hv.below (kF hx hb)) hT (fl_one eI eI (fun _ => rfl) (fun _ => rfl) T) (Nat.zero_le _) hp; rw [e2] at this; rw [← e1]; exact this)
      (by have := plcI_le k T; omega)
      (fun k hk => by omega) (fun k hk => by cases hk)
  rw [List.length_reverse]
  exact hq
/-! ### No table -/
theorem lenN (w : World) : Calls Try.prog 7 #[.pointer none] w fun e w' => e = .returned (.int .i64 ((0 : Nat) : Int)) ∧ w' = w := by
  go_enter Try.func7, Try.ntmps7
  go_wp2_with fail
  go_ret
  exact ⟨rfl, rfl⟩
theorem placeN (w : World) (k : Int) : Calls Try.prog 16 #[.pointer none, .int .i64 k] w fun e w' => e = .returned (.tuple #[.int .i64 ((0 : Nat) : Int), .bool false]) ∧ w' = w := by
  go_enter Try.func16, Try.ntmps16
  go_wp2_with fail
  go_ret2
  exact ⟨rfl, rfl⟩
theorem partN (w : World) (f t : Int) : Calls Try.prog 29 #[.pointer none, .int .i64 f, .int .i64 t] w (Cloned w 0 []) := by
  go_enter Try.func29, Try.ntmps29
  go_wp2_with fail
  go_ret
  exact ⟨_, rfl, ⟨rfl, .inl ⟨rfl, rfl⟩⟩, Below.refl _ _⟩
theorem getN (w : World) (k : Int) : Calls Try.prog 14 #[.pointer none, .int .i64 k] w fun e w' => e = .returned (.tuple #[.int .i64 0, .bool false]) ∧ w' = w := by
  have HP := Lib.hid (fun w => placeN w k)
  go_enter Try.func14, Try.ntmps14
  go_wp2_with fail
  refine (HP.out _).mono ?_
  rintro e w2 ⟨rfl, rfl⟩
  go_wp2_with fail
  go_ret2
  exact ⟨rfl, rfl⟩
theorem cutN (w : World) (k : Int) : Calls Try.prog 20 #[.pointer none, .int .i64 k] w fun e w' => e = .returned (.tuple #[.int .i64 0, .bool false]) ∧ w' = w := by
  have HP := Lib.hid (fun w => getN w k)
  go_enter Try.func20, Try.ntmps20
  go_wp2_with fail
  refine (HP.out _).mono ?_
  rintro e w2 ⟨rfl, rfl⟩
  go_wp2_with fail
  go_ret2
  exact ⟨rfl, rfl⟩
theorem putN (w : World) (k v : Int) : Calls Try.prog 21 #[.pointer none, .int .i64 k, .int .i64 v] w fun e w' => e = .returned (.bool false) ∧ w' = w := by
  go_enter Try.func21, Try.ntmps21
  go_wp2_with fail
  go_ret
  exact ⟨rfl, rfl⟩
theorem forkN (w : World) : Calls Try.prog 22 #[.pointer none] w fun e w' => e = .returned (.pointer none) ∧ w' = w := by
  go_enter Try.func22, Try.ntmps22
  go_wp2_with fail
  go_ret
  exact ⟨rfl, rfl⟩
theorem atN (w : World) : Calls Try.prog 19 #[.pointer none, .int .i64 0] w fun e w' => e = .returned (.tuple #[.int .i64 0, .int .i64 0, .bool false]) ∧ Below w.heap.size w w' := by
  have HL := Lib.hid (fun w => lenN w)
  have hal : Below w.heap.size w (w.alloc (.cells #[.int .i64 0, .int .i64 0] 59)) := (Below.refl _ _).alloc (Nat.le_refl _) _
  have hnw := heap_alloc_new w (.cells #[.int .i64 0, .int .i64 0] 59)
  have c0 : (w.alloc (.cells #[.int .i64 0, .int .i64 0] 59)).cell? ⟨w.heap.size, 0, none⟩ = some (.int .i64 0) := by rw [cell_of_row _ _ _ _ _ _ hnw]; rfl
  have c1 : (w.alloc (.cells #[.int .i64 0, .int .i64 0] 59)).cell? ⟨w.heap.size, 1, none⟩ = some (.int .i64 0) := by rw [cell_of_row _ _ _ _ _ _ hnw]; rfl
  have HA := Lib.hid hal
  clear hal hnw
  go_enter Try.func19, Try.ntmps19
  go_wp2_with fail
  refine (HL.out _).mono ?_
  rintro e w2 ⟨rfl, rfl⟩
  go_wp2_with fail
  go_quiet (fail)
  go_wp2_with fail
  go_ret3
  exact ⟨rfl, below_drewN HA.out nq⟩
theorem rows_none (W : World) (base e : Nat) : W.ownsRow base e 2 (.slice none 0 0) ([] : List (Int × Int)).length (fl eI eI []) := ⟨rfl, .inl ⟨rfl, rfl⟩⟩
theorem tolAN (W : World) (gb : Nat) (hbox : W.heap[gb]? = some (.cells #[.pointer none] 23 (0, 0))) :
    Calls Try.prog 8 #[.func (Fn.func 26) #[] #[.pointer (some ⟨gb, 0, none⟩)], .slice none 0 0] W fun e w' => e = .returned (.bool true) ∧ Below W.heap.size W w' :=
  callsIn_wide.1 (told_in _ _ (enters_of Try.func26 (by kernel_rfl) rfl) [] W 0 _ (rows_none W 0 _) (by simp) fun w' hb hs =>
    all1_G 8 (by omega) gb none [] (by simp) _ _ 0 loc_none w' (Nat.zero_le _) ((hb.block gb (Array.getElem?_eq_some_iff.1 hbox).1).trans hbox) (fun x _ => lenN x) (fun x _ => partN x _ _) (fun k hk => by omega) (fun k hk => by cases hk))
theorem tolFN (W : World) (gb kb : Nat) (k : Int) (hbox : W.heap[gb]? = some (.cells #[.pointer none] 23 (0, 0))) (hboxk : W.heap[kb]? = some (.cells #[.int .i64 k] 3 (0, 0))) :
    Calls Try.prog 8 #[.func (Fn.func 30) #[] #[.pointer (some ⟨gb, 0, none⟩), .pointer (some ⟨kb, 0, none⟩)], .slice none 0 0] W fun e w' => e = .returned (.bool true) ∧ Below W.heap.size W w' :=
  callsIn_wide.1 (told_in _ _ (enters_of Try.func30 (by kernel_rfl) rfl) [] W 0 _ (rows_none W 0 _) (by simp) fun w' hb hs =>
    from1_G 8 (by omega) gb none [] (by simp) kb 0 0 k false _ _ 0 loc_none w' (Nat.zero_le _) ((hb.block gb (Array.getElem?_eq_some_iff.1 hbox).1).trans hbox) ((hb.block kb (Array.getElem?_eq_some_iff.1 hboxk).1).trans hboxk)
      (fun x _ => lenN x) (fun x _ => (placeN x k).mono fun e w2 ⟨h1, h2⟩ => ⟨h1, h2 ▸ Below.refl _ _⟩) (fun x _ => partN x _ _) (fun k hk => by omega) (fun k hk => by cases hk))
theorem tolBN (W : World) (gb kb : Nat) (k : Int) (hbox : W.heap[gb]? = some (.cells #[.pointer none] 23 (0, 0))) (hboxk : W.heap[kb]? = some (.cells #[.int .i64 k] 3 (0, 0))) :
    Calls Try.prog 8 #[.func (Fn.func 31) #[] #[.pointer (some ⟨gb, 0, none⟩), .pointer (some ⟨kb, 0, none⟩)], .slice none 0 0] W fun e w' => e = .returned (.bool true) ∧ Below W.heap.size W w' :=
  callsIn_wide.1 (told_in _ _ (enters_of Try.func31 (by kernel_rfl) rfl) [] W 0 _ (rows_none W 0 _) (by simp) fun w' hb hs =>
    back1_G 8 (by omega) gb none [] (by simp) kb 0 k false _ _ 0 loc_none w' (Nat.zero_le _) ((hb.block gb (Array.getElem?_eq_some_iff.1 hbox).1).trans hbox) ((hb.block kb (Array.getElem?_eq_some_iff.1 hboxk).1).trans hboxk)
      (fun x _ => (placeN x k).mono fun e w2 ⟨h1, h2⟩ => ⟨h1, h2 ▸ Below.refl _ _⟩) (fun x _ => partN x _ _) (by omega) (fun k hk => by omega) (fun k hk => by cases hk))
/-! ### The document's rows from one key to another one -/
theorem btw_all {R T : List (Int × Int)} (h : Tie R T) (hr : ∀ x ∈ R, -9223372036854775808 ≤ x.1 ∧ x.1 ≤ 9223372036854775807) : dbtw R (-9223372036854775808) 9223372036854775807 = T := by
  rw [h.btw]
  refine List.filter_eq_self.2 fun x hx => ?_
  have := hr x (h.perm.mem_iff.2 hx)
  simp [inB, this.1, this.2]
theorem btw_from {R T : List (Int × Int)} (h : Tie R T) (hr : ∀ x ∈ R, -9223372036854775808 ≤ x.1 ∧ x.1 ≤ 9223372036854775807) (k : Int) : dbtw R k 9223372036854775807 = T.drop (plcI k T) := by
  rw [h.btw]
  obtain ⟨h1, h2⟩ := plc_parts h.rise k
  have e : T.filter (inB k 9223372036854775807) = (T.take (plcI k T) ++ T.drop (plcI k T)).filter (inB k 9223372036854775807) := by rw [List.take_append_drop]
  rw [e, List.filter_append, List.filter_eq_nil_iff.2 (fun x hx => by have := h1 x hx; simp [inB]; omega), List.nil_append]
  refine List.filter_eq_self.2 fun x hx => ?_
  have := hr x (h.perm.mem_iff.2 (List.mem_of_mem_drop hx))
  have := h2 x hx
  simp [inB]; omega
theorem btw_up {R T : List (Int × Int)} (h : Tie R T) (hr : ∀ x ∈ R, -9223372036854775808 ≤ x.1 ∧ x.1 ≤ 9223372036854775807) (k : Int) : dbtw R (-9223372036854775808) k = T.take (upI k T) := by
  rw [h.btw]
  obtain ⟨h1, h2⟩ := plc_parts h.rise k
  have e : T.filter (inB (-9223372036854775808) k) = (T.take (upI k T) ++ T.drop (upI k T)).filter (inB (-9223372036854775808) k) := by rw [List.take_append_drop]
  have hlo : ∀ x ∈ T, -9223372036854775808 ≤ x.1 := fun x hx => (hr x (h.perm.mem_iff.2 hx)).1
  have hup : ∀ x ∈ T.take (upI k T), x.1 ≤ k := fun x hx => by
    unfold upI at hx
    split at hx
    · rename_i hh
      obtain ⟨y, hy, hk⟩ := hasI_at hh
      rw [take_at hy] at hx
      rcases List.mem_append.1 hx with hx | hx
      · have := h1 x hx; omega
      · simp only [List.mem_singleton] at hx; subst hx; omega
    · have := h1 x hx; omega
  have hdn : ∀ x ∈ T.drop (upI k T), k < x.1 := fun x hx => by
    unfold upI at hx
    split at hx
    · rename_i hh
      exact drop_gt h.rise hh x hx
    · rename_i hh
      have hle := h2 x hx
      have hne : x.1 ≠ k := fun e => hh ((hasI_mem h.rise k).2 ⟨x, List.mem_of_mem_drop hx, e⟩)
      omega
  have e3 : (T.drop (upI k T)).filter (inB (-9223372036854775808) k) = [] := List.filter_eq_nil_iff.2 (fun x hx => by have := hdn x hx; simp [inB]; omega)
  rw [e, List.filter_append, e3, List.append_nil]
  refine List.filter_eq_self.2 fun x hx => ?_
  have := hlo x (List.mem_of_mem_take hx)
  have := hup x hx
  simp [inB]; omega
end Go.Proofs.Ytobigmcfbkgmbaa
