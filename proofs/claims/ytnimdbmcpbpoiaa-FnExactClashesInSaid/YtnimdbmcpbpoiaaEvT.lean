/- Chapter 8: OrderOf of the program (gen_evt.py). -/
import Derived.Test.YtnimdbmcpbpoiaaShelfO
import Derived.Test.YtnimdbmcpbpoiaaEvS
import Derived.Test.YtnimdbmcpbpoiaaEvW
import Derived.Sort.Row
import Derived.Laws.OwnMore
namespace Go.Proofs.Ytnimdbmcpbpoiaa
open Go.RowKit
set_option linter.unusedVariables false
theorem has_sortW {α : Type} [Inhabited α] {w : World} {g : Nat} {e : TypeId} {cur : Array Value} {enc : α → Value} (h : Has w g e cur) (n : Nat) (d : Array α) (os : Array Obj) : Has (sortWorld enc w g 0 n d os) g e (Sort.putCells enc 0 d cur) := by
  have hlt := has_lt h
  have h4 : w.heap[g]? = some (.cells cur e (0, 0)) := h
  have h3 : (Sort.putRow enc (Sort.ahead w n) g 0 d).heap[g]? = some (.cells (Sort.putCells enc 0 d cur) e (0, 0)) := by
    simp [Sort.putRow, Sort.mapBlock, Array.getElem?_modify, Sort.onCells, Sort.ahead, h4]
  have hs : g < (Sort.putRow enc (Sort.ahead w n) g 0 d).heap.size := by simp [Sort.putRow, Sort.mapBlock]; exact hlt
  unfold Has sortWorld
  rw [Sort.heap_grow_old _ _ hs]; exact h3
theorem below_sortW {α : Type} [Inhabited α] {enc : α → Value} (w : World) (base g n : Nat) (d : Array α) (os : Array Obj) (hg : base ≤ g) (hb : base ≤ w.heap.size) : Below base w (sortWorld enc w g 0 n d os) := by
  refine ⟨rfl, rfl, rfl, ?_, fun k hk => ?_⟩
  · simp [sortWorld, Sort.grow, Sort.putRow, Sort.mapBlock, Sort.ahead]
  · have hs : k < (Sort.putRow enc (Sort.ahead w n) g 0 d).heap.size := by simp [Sort.putRow, Sort.mapBlock, Sort.ahead]; omega
    unfold sortWorld
    rw [Sort.heap_grow_old _ _ hs]
    have hne : ¬ g = k := by omega
    simp [Sort.putRow, Sort.mapBlock, Array.getElem?_modify, Sort.ahead, hne]
theorem putCells_enc {α : Type} [Inhabited α] {enc : α → Value} {d : Array α} {cur : Array Value} {j : Nat} {x : α} (hj : d[j]? = some x) (hc : j < cur.size) : (Sort.putCells enc 0 d cur)[j]? = some (enc x) := by
  obtain ⟨hjd, rfl⟩ := Array.getElem?_eq_some_iff.1 hj
  unfold Sort.putCells
  rw [Array.getElem?_mapIdx, Array.getElem?_eq_getElem hc]
  simp only [Option.map_some, Nat.zero_le, Nat.zero_add, true_and, if_pos hjd, Nat.sub_zero]
  rw [getElem!_pos d j hjd]
/-- in a journal: of two events at different places the former has the smaller node, or the same and the smaller stamp -/
theorem jrn_lt {l : List Ev} (h : jrnB l = true) {i k : Nat} (hik : i < k) (hk : k < l.length) : (kI l i).nod < (kI l k).nod ∨ ((kI l i).nod = (kI l k).nod ∧ (kI l i).seq < (kI l k).seq ∧ (kI l i).stm < (kI l k).stm) := by
  have hp := jrn_pair h
  have := (List.pairwise_iff_getElem.1 hp) i k (by omega) hk hik
  rw [folB_iff] at this
  rw [kI_at (List.getElem?_eq_getElem (show i < l.length by omega)), kI_at (List.getElem?_eq_getElem hk)]
  exact this
def cfO (l : List Ev) (i k : Fin l.length) : Int := cmpS (kI l i.val) (kI l k.val)
def encO (l : List Ev) (i : Fin l.length) : Value := .int .i64 (i.val : Int)
theorem ltO (l : List Ev) (i k : Fin l.length) : ltOf (cfO l) i k = true ↔ (kI l i.val).stm < (kI l k.val).stm ∨ ((kI l i.val).stm = (kI l k.val).stm ∧ (kI l i.val).nod < (kI l k.val).nod) := by
  unfold ltOf cfO; rw [decide_eq_true_iff, cmpS_neg]
theorem ltO_no (l : List Ev) (i k : Fin l.length) : ltOf (cfO l) i k = false ↔ ¬ ((kI l i.val).stm < (kI l k.val).stm ∨ ((kI l i.val).stm = (kI l k.val).stm ∧ (kI l i.val).nod < (kI l k.val).nod)) := by
  rw [← ltO, Bool.not_eq_true]
theorem swoO (l : List Ev) : Sort.SWO (ltOf (cfO l)) where
  irrefl x := by rw [ltO_no]; omega
  trans x y z h1 h2 := by rw [ltO] at *; omega
  ntrans x y z h1 h2 := by rw [ltO_no] at *; omega
theorem totO {l : List Ev} (h : jrnB l = true) (i k : Fin l.length) (h1 : ltOf (cfO l) i k = false) (h2 : ltOf (cfO l) k i = false) : i = k := by
  rw [ltO_no] at h1 h2
  apply Fin.ext
  rcases Nat.lt_trichotomy i.val k.val with hh | hh | hh
  · have := jrn_lt h hh k.isLt; omega
  · exact hh
  · have := jrn_lt h hh i.isLt; omega
theorem fin_range (n : Nat) : (List.finRange n).map (fun i => i.val) = List.range n := List.ext_getElem (by simp) (by intro i h1 h2; simp)
theorem sortedO {l : List Ev} (h : jrnB l = true) : ((List.finRange l.length).mergeSort fun x y => !(ltOf (cfO l)) y x).map (fun i => i.val) = orderN l := by
  apply order_unique
  · exact ((List.mergeSort_perm _ _).map _).trans (by rw [fin_range])
  · rw [List.pairwise_map]
    refine (List.pairwise_mergeSort (le := fun x y => !(ltOf (cfO l)) y x) ?_ ?_ _).imp ?_
    · intro a b c h1 h2
      simp only [Bool.not_eq_true', ltO_no] at h1 h2 ⊢; omega
    · intro a b
      cases hx : ltOf (cfO l) b a
      · simp
      · have : ltOf (cfO l) a b = false := by rw [ltO_no]; rw [ltO] at hx; omega
        simp [this]
    · intro a b hab
      simp only [Bool.not_eq_true', ltO_no] at hab
      rw [ordLe_iff]
      rcases Nat.lt_or_ge b.val a.val with hh | hh
      · have := jrn_lt h hh a.isLt; omega
      · omega
set_option maxRecDepth 100000 in
set_option maxHeartbeats 4000000 in
theorem ordC_any (wq : World) (g b off c B : Nat) (l : List Ev) (i k : Nat) (hg : wq.cell? ⟨g, 0, none⟩ = some (.slice (some ⟨b, off, none⟩) l.length c)) (hgl : g < wq.heap.size) (hL : evL wq B (some ⟨b, off, none⟩) l) (hB : B ≤ wq.heap.size) (hi : i < l.length) (hk : k < l.length) (hl : l.length ≤ 1048576) : Calls Try.prog 27 #[.int .i64 (i : Int), .int .i64 (k : Int), .pointer (some ⟨g, 0, none⟩)] wq fun e w' => e = .returned (.int .i64 (cmpS (kI l i) (kI l k))) ∧ Grown wq w' := by
  obtain ⟨b', off', ⟨x0, x1, x2, x3, x4, x5, x6⟩, ⟨y0, y1, y2, y3, y4, y5, y6⟩, hA, hbB, hx, hy, ⟨hc0, hc1, hc2, hc3, hc4, hc5, hc6⟩, hd0, hd1, hd2, hd3, hd4, hd5, hd6⟩ := hL.two hi hk
  obtain ⟨rfl, rfl⟩ : b = b' ∧ off = off' := by simpa using hA
  dsimp only at hc0 hc1 hc2 hc3 hc4 hc5 hc6 hd0 hd1 hd2 hd3 hd4 hd5 hd6
  rw [kI_at hx, kI_at hy]
  clear hx hy hL
  have i0 : (0 : Int) ≤ i := (by omega); have i1 : (i : Int) < l.length := (by omega); have k0 : (0 : Int) ≤ k := (by omega); have k1 : (k : Int) < l.length := (by omega)
  have hbl : b < wq.heap.size := by omega
  obtain ⟨v, hv⟩ : ∃ v, cmpS ⟨x0, x1, x2, x3, x4, x5, x6⟩ ⟨y0, y1, y2, y3, y4, y5, y6⟩ = v := ⟨_, rfl⟩
  have HV := Lib.hid hv; rw [hv]; clear hv
  go_enter Try.func27, Try.ntmps27
  go_wp2_with fail
  have S0 : (fun W : World => (W.cell? ⟨g, 0, none⟩ = some (.slice (some ⟨b, off, none⟩) l.length c) ∧ W.cell? ⟨b, off + i * 7, none⟩ = some (.int .i64 x0) ∧ W.cell? ⟨b, off + i * 7 + 1, none⟩ = some (.int .i64 x1) ∧ W.cell? ⟨b, off + i * 7 + 2, none⟩ = some (.int .i64 x2) ∧ W.cell? ⟨b, off + i * 7 + 3, none⟩ = some (.int .i64 x3) ∧ W.cell? ⟨b, off + i * 7 + 4, none⟩ = some (.int .i64 x4) ∧ W.cell? ⟨b, off + i * 7 + 5, none⟩ = some (.int .i64 x5) ∧ W.cell? ⟨b, off + i * 7 + 6, none⟩ = some (.int .i64 x6) ∧ W.cell? ⟨b, off + k * 7, none⟩ = some (.int .i64 y0) ∧ W.cell? ⟨b, off + k * 7 + 1, none⟩ = some (.int .i64 y1) ∧ W.cell? ⟨b, off + k * 7 + 2, none⟩ = some (.int .i64 y2) ∧ W.cell? ⟨b, off + k * 7 + 3, none⟩ = some (.int .i64 y3) ∧ W.cell? ⟨b, off + k * 7 + 4, none⟩ = some (.int .i64 y4) ∧ W.cell? ⟨b, off + k * 7 + 5, none⟩ = some (.int .i64 y5) ∧ W.cell? ⟨b, off + k * 7 + 6, none⟩ = some (.int .i64 y6)) ∧ Grown wq W) wq.drew := ⟨⟨hg, hc0, hc1, hc2, hc3, hc4, hc5, hc6, hd0, hd1, hd2, hd3, hd4, hd5, hd6⟩, grown_drew _⟩
  clear hg hc0 hc1 hc2 hc3 hc4 hc5 hc6 hd0 hd1 hd2 hd3 hd4 hd5 hd6
  refine wp_region_held_drew (S := (fun W : World => (W.cell? ⟨g, 0, none⟩ = some (.slice (some ⟨b, off, none⟩) l.length c) ∧ W.cell? ⟨b, off + i * 7, none⟩ = some (.int .i64 x0) ∧ W.cell? ⟨b, off + i * 7 + 1, none⟩ = some (.int .i64 x1) ∧ W.cell? ⟨b, off + i * 7 + 2, none⟩ = some (.int .i64 x2) ∧ W.cell? ⟨b, off + i * 7 + 3, none⟩ = some (.int .i64 x3) ∧ W.cell? ⟨b, off + i * 7 + 4, none⟩ = some (.int .i64 x4) ∧ W.cell? ⟨b, off + i * 7 + 5, none⟩ = some (.int .i64 x5) ∧ W.cell? ⟨b, off + i * 7 + 6, none⟩ = some (.int .i64 x6) ∧ W.cell? ⟨b, off + k * 7, none⟩ = some (.int .i64 y0) ∧ W.cell? ⟨b, off + k * 7 + 1, none⟩ = some (.int .i64 y1) ∧ W.cell? ⟨b, off + k * 7 + 2, none⟩ = some (.int .i64 y2) ∧ W.cell? ⟨b, off + k * 7 + 3, none⟩ = some (.int .i64 y3) ∧ W.cell? ⟨b, off + k * 7 + 4, none⟩ = some (.int .i64 y4) ∧ W.cell? ⟨b, off + k * 7 + 5, none⟩ = some (.int .i64 y5) ∧ W.cell? ⟨b, off + k * 7 + 6, none⟩ = some (.int .i64 y6)) ∧ Grown wq W)) (by kernel_rfl) S0 (fun _ => ?_)
  refine any_take (i := 0) (some 6) (.slice (some ⟨b, off, none⟩) l.length c) rfl rfl (by kernel_rfl) (by kernel_rfl) (by kernel_rfl) (fun _ _ _ h => h) rfl (fun W hSw => ?_) (S0) ?_
  · (try dsimp only at hSw); go_simp <;> with_reducible rfl
  try simp only [Act.put, List.setIfInBounds_toArray, List.set_cons_zero, List.set_cons_succ]
  refine any_take (i := 1) (some 7) (.int .i64 (i : Int)) rfl rfl (by kernel_rfl) (by kernel_rfl) (by kernel_rfl) (fun _ _ _ h => h) rfl (fun W hSw => ?_) (S0) ?_
  · (try dsimp only at hSw); go_simp <;> with_reducible rfl
  try simp only [Act.put, List.setIfInBounds_toArray, List.set_cons_zero, List.set_cons_succ]
  refine any_take (i := 2) (some 8) (.pointer (some ⟨b, off + i * 7, none⟩)) rfl rfl (by kernel_rfl) (by kernel_rfl) (by kernel_rfl) (fun _ _ _ h => h) rfl (fun W hSw => ?_) (S0) ?_
  · (try dsimp only at hSw); go_simp <;> with_reducible rfl
  try simp only [Act.put, List.setIfInBounds_toArray, List.set_cons_zero, List.set_cons_succ]
  refine any_take (i := 3) (some 9) (.agg #[.int .i64 x0, .int .i64 x1, .int .i64 x2, .int .i64 x3, .int .i64 x4, .int .i64 x5, .int .i64 x6]) rfl rfl (by kernel_rfl) (by kernel_rfl) (by kernel_rfl) (fun _ _ _ h => h) rfl (fun W hSw => ?_) (S0) ?_
  · (try dsimp only at hSw); go_simp <;> with_reducible rfl
  try simp only [Act.put, List.setIfInBounds_toArray, List.set_cons_zero, List.set_cons_succ]
  refine any_take (i := 4) (some 10) (.slice (some ⟨b, off, none⟩) l.length c) rfl rfl (by kernel_rfl) (by kernel_rfl) (by kernel_rfl) (fun _ _ _ h => h) rfl (fun W hSw => ?_) (S0) ?_
  · (try dsimp only at hSw); go_simp <;> with_reducible rfl
  try simp only [Act.put, List.setIfInBounds_toArray, List.set_cons_zero, List.set_cons_succ]
  refine any_take (i := 5) (some 11) (.int .i64 (k : Int)) rfl rfl (by kernel_rfl) (by kernel_rfl) (by kernel_rfl) (fun _ _ _ h => h) rfl (fun W hSw => ?_) (S0) ?_
  · (try dsimp only at hSw); go_simp <;> with_reducible rfl
  try simp only [Act.put, List.setIfInBounds_toArray, List.set_cons_zero, List.set_cons_succ]
  refine any_take (i := 6) (some 12) (.pointer (some ⟨b, off + k * 7, none⟩)) rfl rfl (by kernel_rfl) (by kernel_rfl) (by kernel_rfl) (fun _ _ _ h => h) rfl (fun W hSw => ?_) (S0) ?_
  · (try dsimp only at hSw); go_simp <;> with_reducible rfl
  try simp only [Act.put, List.setIfInBounds_toArray, List.set_cons_zero, List.set_cons_succ]
  refine any_take (i := 7) (some 13) (.agg #[.int .i64 y0, .int .i64 y1, .int .i64 y2, .int .i64 y3, .int .i64 y4, .int .i64 y5, .int .i64 y6]) rfl rfl (by kernel_rfl) (by kernel_rfl) (by kernel_rfl) (fun _ _ _ h => h) rfl (fun W hSw => ?_) (S0) ?_
  · (try dsimp only at hSw); go_simp <;> with_reducible rfl
  try simp only [Act.put, List.setIfInBounds_toArray, List.set_cons_zero, List.set_cons_succ]
  refine wpAnyH_ready (rs := [8]) (by kernel_rfl) (by simp) ?_
  refine AllReadyH.cons rfl (fun K hK => ?_) AllReadyH.nil
  go_simp
  go_at_call 28
  refine (cmpS_any _ x0 x1 x2 x3 x4 x5 x6 y0 y1 y2 y3 y4 y5 y6).mono ?_
  rintro e wa ⟨rfl, hb8⟩
  rw [HV.out]
  have hb9wa : Grown wq wa := ((grown_drew _ : Grown wq wq.drew)).trans hb8
  have Swa : (fun W : World => (W.cell? ⟨g, 0, none⟩ = some (.slice (some ⟨b, off, none⟩) l.length c) ∧ W.cell? ⟨b, off + i * 7, none⟩ = some (.int .i64 x0) ∧ W.cell? ⟨b, off + i * 7 + 1, none⟩ = some (.int .i64 x1) ∧ W.cell? ⟨b, off + i * 7 + 2, none⟩ = some (.int .i64 x2) ∧ W.cell? ⟨b, off + i * 7 + 3, none⟩ = some (.int .i64 x3) ∧ W.cell? ⟨b, off + i * 7 + 4, none⟩ = some (.int .i64 x4) ∧ W.cell? ⟨b, off + i * 7 + 5, none⟩ = some (.int .i64 x5) ∧ W.cell? ⟨b, off + i * 7 + 6, none⟩ = some (.int .i64 x6) ∧ W.cell? ⟨b, off + k * 7, none⟩ = some (.int .i64 y0) ∧ W.cell? ⟨b, off + k * 7 + 1, none⟩ = some (.int .i64 y1) ∧ W.cell? ⟨b, off + k * 7 + 2, none⟩ = some (.int .i64 y2) ∧ W.cell? ⟨b, off + k * 7 + 3, none⟩ = some (.int .i64 y3) ∧ W.cell? ⟨b, off + k * 7 + 4, none⟩ = some (.int .i64 y4) ∧ W.cell? ⟨b, off + k * 7 + 5, none⟩ = some (.int .i64 y5) ∧ W.cell? ⟨b, off + k * 7 + 6, none⟩ = some (.int .i64 y6)) ∧ Grown wq W) wa := ⟨⟨(bold hb9wa.below _ _ (hgl)).trans S0.1.1, (bold hb9wa.below _ _ (hbl)).trans S0.1.2.1, (bold hb9wa.below _ _ (hbl)).trans S0.1.2.2.1, (bold hb9wa.below _ _ (hbl)).trans S0.1.2.2.2.1, (bold hb9wa.below _ _ (hbl)).trans S0.1.2.2.2.2.1, (bold hb9wa.below _ _ (hbl)).trans S0.1.2.2.2.2.2.1, (bold hb9wa.below _ _ (hbl)).trans S0.1.2.2.2.2.2.2.1, (bold hb9wa.below _ _ (hbl)).trans S0.1.2.2.2.2.2.2.2.1, (bold hb9wa.below _ _ (hbl)).trans S0.1.2.2.2.2.2.2.2.2.1, (bold hb9wa.below _ _ (hbl)).trans S0.1.2.2.2.2.2.2.2.2.2.1, (bold hb9wa.below _ _ (hbl)).trans S0.1.2.2.2.2.2.2.2.2.2.2.1, (bold hb9wa.below _ _ (hbl)).trans S0.1.2.2.2.2.2.2.2.2.2.2.2.1, (bold hb9wa.below _ _ (hbl)).trans S0.1.2.2.2.2.2.2.2.2.2.2.2.2.1, (bold hb9wa.below _ _ (hbl)).trans S0.1.2.2.2.2.2.2.2.2.2.2.2.2.2.1, (bold hb9wa.below _ _ (hbl)).trans S0.1.2.2.2.2.2.2.2.2.2.2.2.2.2.2⟩, hb9wa⟩
  clear hb8
  go_wp2_with fail
  refine hK.out _ _ Swa (fun _ => ?_)
  clear hK K
  try simp only [Act.put, List.setIfInBounds_toArray, List.set_cons_zero, List.set_cons_succ]
  refine any_take (i := 9) (some 5) (.int .i64 v) rfl rfl (by kernel_rfl) (by kernel_rfl) (by kernel_rfl) (fun _ _ _ h => h) rfl (fun W hSw => ?_) (Swa) ?_
  · (try dsimp only at hSw); go_simp <;> with_reducible rfl
  try simp only [Act.put, List.setIfInBounds_toArray, List.set_cons_zero, List.set_cons_succ]
  refine wpAnyH_done (by kernel_rfl) ?_ _
  have hbreg : Grown wq wa := Swa.2
  clear S0 Swa hb9wa
  go_wp2_with fail
  go_ret
  exact ⟨rfl, hbreg⟩
theorem sortO_any (w : World) (g0 gr b off c cc : Nat) (l : List Ev) (hq : jrnB l = true) (hown : w.ownsRow gr 3 1 (.slice (some ⟨gr, 0, none⟩) l.length cc) l.length (intV (natI (List.range l.length))))
    (hg0 : w.cell? ⟨g0, 0, none⟩ = some (.slice (some ⟨b, off, none⟩) l.length c)) (h0 : g0 < gr) (hL : evL w gr (some ⟨b, off, none⟩) l) (hgr : gr < w.heap.size) (hpos : 0 < l.length) (hl : l.length ≤ 1048576) :
    Calls Try.prog 26 #[.slice (some ⟨gr, 0, none⟩) l.length cc, .func (.func 27) #[] #[.pointer (some ⟨g0, 0, none⟩)]] w fun e w' => e = .returned (.tuple #[]) ∧ OR w' gr 3 (some ⟨gr, 0, none⟩) (intV (natI (orderN l))) ∧ Below gr w w' := by
  haveI : Inhabited (Fin l.length) := ⟨⟨0, hpos⟩⟩
  have eg : ∀ args w, (callFunc 27 args).run Try.prog w = .ok (.enter 27 args) w := enters_of Try.func27 (by kernel_rfl) rfl
  have hsz : (List.finRange l.length).toArray.size = l.length := by simp
  have hH : Sort.Holds (encO l) w gr 0 (List.finRange l.length).toArray := fun j hj => by
    rw [hsz] at hj
    have h1 := hown.cellAt j (by omega)
    rw [natV_at (show (List.range l.length)[j]? = some j by simp [hj])] at h1
    refine ⟨?_, by rw [Nat.zero_add]; exact hown.frozenAt j⟩
    rw [Nat.zero_add, h1, getElem!_pos _ j (by rw [hsz]; exact hj)]
    simp [encO]
  have hcmp : CmpLays1 Try.prog 27 #[.pointer (some ⟨g0, 0, none⟩)] (encO l) (cfO l) gr 0 (List.finRange l.length).toArray.size w := by
    intro m os dk hdk x y
    have hbw := below_sortW (enc := encO l) w gr gr m dk os (Nat.le_refl _) (Nat.le_of_lt hgr)
    have hsw := hbw.size
    exact ordC_any _ g0 b off c gr l x.val y.val ((hbw.cell (p := ⟨g0, 0, none⟩) h0).trans hg0) (by omega) (hL.below hbw) (by omega) x.isLt y.isLt hl
  have key := Try.slices_SortFunc_total (encO l) (fun _ => rfl) (cfO l) (swoO l) 27 #[.pointer (some ⟨g0, 0, none⟩)] gr 0 cc (List.finRange l.length).toArray w eg hcmp hH hgr (by rw [hsz]; omega) (totO hq)
  rw [hsz] at key
  refine key.mono ?_
  rintro e w' ⟨rfl, n, os, rfl⟩
  obtain ⟨_, cur, hcur⟩ := own_has hown gr rfl
  refine ⟨rfl, .inr ⟨gr, _, rfl, Nat.le_refl _, has_sortW hcur n _ os, fun j u hu => ?_⟩, below_sortW w gr gr n _ os (Nat.le_refl _) (Nat.le_of_lt hgr)⟩
  have hj : j < l.length := by have := (List.getElem?_eq_some_iff.1 hu).1; rwa [natV_len, orderN_len] at this
  rw [← sortedO hq] at hu
  obtain ⟨q, hq1⟩ : ∃ q, ((List.finRange l.length).mergeSort fun x y => !(ltOf (cfO l)) y x)[j]? = some q := ⟨_, List.getElem?_eq_getElem (by simpa using hj)⟩
  rw [natV_at (show (((List.finRange l.length).mergeSort fun x y => !(ltOf (cfO l)) y x).map (fun i => i.val))[j]? = some q.val by simp [hq1])] at hu
  rw [← hu]
  refine putCells_enc (x := q) (by simpa using hq1) ?_
  have h4 := hown.cellAt (l.length - 1) (by omega)
  rw [natV_at (show (List.range l.length)[l.length - 1]? = some (l.length - 1) from List.getElem?_range (by omega))] at h4
  rw [cell_of_row w gr (l.length - 1) cur _ (0, 0) hcur] at h4
  have := (Array.getElem?_eq_some_iff.1 h4).1
  omega
set_option maxRecDepth 100000 in
set_option maxHeartbeats 2000000 in
theorem orderI_bad (w : World) (B : Nat) (A : Option Addr) (c : Nat) (l : List Ev) (hl : l.length ≤ 1048576) (hB : B ≤ w.heap.size) (hS : evL w B A l) (hq : jrnB l = false) : Calls Try.prog 10 #[.slice A l.length c] w (AnsO (orderE l) w) := by
  have HQ := Lib.hid hq; clear hq
  have hlm : l.length ≤ maxLen := by unfold maxLen; omega
  have HS := Lib.hid hS; clear hS
  go_enter Try.func10, Try.ntmps10
  go_wp2_with (go_at_call 25; refine (jrnI_any _ B A c l hlm (by simp; omega) (HS.out.later hB (balloc _ _))).mono ?_; rintro e w1 ⟨rfl, hb1⟩; rw [HQ.out])
  go_ret
  exact ⟨_, _, retv (by rw [orderE_bad HQ.out]; rfl), .inl (by rw [orderE_bad HQ.out]; rfl), bthen (balloc _ _) (bthen hb1 (balloc _ _))⟩
set_option maxRecDepth 100000 in
set_option maxHeartbeats 8000000 in
theorem orderI_good (w : World) (B : Nat) (A : Option Addr) (c : Nat) (l : List Ev) (hl : l.length ≤ 1048576) (hB : B ≤ w.heap.size) (hS : evL w B A l) (hq : jrnB l = true) : Calls Try.prog 10 #[.slice A l.length c] w (AnsO (orderE l) w) := by
  have HQ := Lib.hid hq; clear hq
  have hlm : l.length ≤ maxLen := by unfold maxLen; omega
  have HLM := Lib.hid hlm; unfold maxLen at hlm
  have HS := Lib.hid hS; clear hS
  have hmk : ∀ W : World, (Instr.makeSlice 24 (.int .i64 (l.length : Int)) (.int .i64 (l.length : Int))).run Try.prog W = .ok (.slice (some ⟨W.heap.size, 0, none⟩) l.length l.length) (W.alloc (.cells (madeCells #[.int .i64 0] l.length) 3)) := by
    intro W
    obtain ⟨i, hi, hz0, hz1, hz2⟩ := info_parts intInfo
    have := run_make (P := Try.prog) W 24 3 i _ Try.underlying24 hi hz0 .i64 .i64 (l.length : Int) (l.length : Int) (by omega) (by omega) (by rw [hz2]; omega) (by omega)
    simpa [hz1, Value.cells] using this
  go_enter Try.func10, Try.ntmps10
  go_wp2_with fail
  generalize hX : (w.alloc (.cells #[.slice A l.length c] 26)) = w0
  have hb0 : Below w.heap.size w w0 := by rw [← hX]; exact balloc _ _
  have za : Has w0 w.heap.size 26 #[.slice A l.length c] := by rw [← hX]; exact has_new _ _ _
  clear hX
  refine (jrnI_any _ B A c l HLM.out (by have := hb0.size; omega) (HS.out.later hB hb0)).mono ?_
  rintro e w1 ⟨rfl, hb1⟩
  rw [HQ.out]
  replace za := has_call za hb1
  have zb := bthen hb0 hb1; clear hb0 hb1
  have q0 := has_cell za 0 rfl
  have hs1 := zb.size; have hl1 := has_lt za
  have ZA := Lib.hid za; have ZB := Lib.hid zb; clear za zb
  go_wp2_with fail
  generalize hX : (w1.alloc (.cells (madeCells #[.int .i64 0] l.length) 3)) = w2
  have hb2 : Below w1.heap.size w1 w2 := by rw [← hX]; exact balloc _ _
  have zr : Has w2 w1.heap.size 3 (madeCells #[.int .i64 0] l.length) := by rw [← hX]; exact has_new _ _ _
  have hown : w2.ownsRow w1.heap.size 3 1 (.slice (some ⟨w1.heap.size, 0, none⟩) l.length l.length) l.length (madeCells #[.int .i64 0] l.length).toList := by rw [← hX]; exact World.ownsRow_lit w1 _ _ (Nat.le_refl _) HLM.out (by simp [size_madeCells])
  clear hX hmk zr
  have ZA2 := Lib.hid (has_call ZA.out hb2); have ZB2 := Lib.hid (bthen ZB.out hb2); have OW2 := Lib.hid hown; have hs2 := hb2.size; clear hb2 hown ZA ZB q0
  obtain ⟨gr, hgr⟩ : ∃ gr, gr = w1.heap.size := ⟨_, rfl⟩
  rw [← hgr] at OW2 hl1 ⊢
  have hgr1 : gr < w2.heap.size := (OW2.out.lt gr rfl).2
  have hgw : w.heap.size ≤ gr := by omega
  clear hgr hs2 hs1
  have hml : (madeCells #[.int .i64 0] l.length).toList.length = l.length := by simp [size_madeCells]
  go_loopw [14] (fun i wr => ∃ (k : Nat) (cs : List Value), k ≤ l.length ∧ i = .int .i64 k ∧ cs.length = l.length ∧ wr.ownsRow gr 3 1 (.slice (some ⟨gr, 0, none⟩) l.length l.length) l.length cs ∧ (∀ j, j < k → cs[j]? = some (.int .i64 (j : Int))) ∧ Has wr w.heap.size 26 #[.slice A l.length c] ∧ Below w.heap.size w wr) (fun i _ => l.length - (intOf i).toNat)
  case atStart => exact ⟨0, _, Nat.zero_le _, rfl, hml, OW2.out, fun j hj => absurd hj (by omega), ZA2.out, ZB2.out⟩
  case round =>
    clear hml OW2 ZA2 ZB2
    obtain ⟨k, cs, hk, rfl, hcl, hown, hcs, hbx, hb⟩ := hrel
    have hsz := hb.size
    have hg2 : gr < wr.heap.size := (hown.lt gr rfl).2
    by_cases hlt : k < l.length
    · obtain ⟨u, hu⟩ : ∃ u, cs[k]? = some u := ⟨_, List.getElem?_eq_getElem (by omega)⟩
      have hc0 := (hown.cellAt k (by omega)).trans hu
      have hf0 := hown.frozenAt k
      have HU := Lib.hid hcs; have HO := Lib.hid hown; have HX := Lib.hid hbx; have HB := Lib.hid hb; have HCL := Lib.hid hcl; clear hcs hown hbx hb hcl hu
      go_wp2
      go_roundw
      case rel => exact ⟨k + 1, _, by omega, by go_num, by rw [List.length_set]; exact HCL.out, (HO.out.stored k (.int .i64 (k : Int))).1, (fun j hj => by
        by_cases e : k = j
        · subst e; rw [List.getElem?_set_self (by rw [HCL.out]; exact hlt)]
        · rw [List.getElem?_set_ne e]; exact HU.out j (by omega)), has_far HX.out (by simp; omega) _, HB.out.setCell (by simp; omega) _⟩
      case measure => simp [intOf]; omega
    · have hkl : k = l.length := by omega
      have hce : cs = intV (natI (List.range l.length)) := List.ext_getElem? fun j => by
        rcases Nat.lt_or_ge j l.length with hj | hj
        · rw [hcs j (by omega), natV_at (show (List.range l.length)[j]? = some j from List.getElem?_range hj)]
        · rw [List.getElem?_eq_none (by omega), List.getElem?_eq_none (by rw [natV_len]; simpa using hj)]
      rw [hce] at hown
      have q0 := has_cell hbx 0 rfl
      have HO := Lib.hid hown; have HX := Lib.hid hbx; have HB := Lib.hid hb; clear hcs hown hbx hb hce hcl
      have HKL := Lib.hid hkl; clear hkl
      rcases Nat.eq_zero_or_pos l.length with h0 | hpos
      · have hln := List.eq_nil_of_length_eq_zero h0
        subst hln
        go_wp2_with (go_at_call 26; refine (Try.slices_SortFunc_none (α := Int) _ _ _ _).mono ?_; rintro e w3 ⟨rfl, hw⟩; rw [hw]; clear hw)
        go_ret
        have horn : orderN [] = [] := by simp [orderN]
        exact ⟨_, _, retv (by rw [orderE_good HQ.out, horn]; rfl), .inl (by rw [orderE_good HQ.out, horn]; rfl), HB.out⟩
      · have hA : ∃ b off, A = some ⟨b, off, none⟩ := by
          obtain ⟨b, off, x, e, _⟩ := HS.out.at_ hpos
          exact ⟨b, off, e⟩
        obtain ⟨b, off, rfl⟩ := hA
        have HL := Lib.hid ((HS.out.below (HB.out.mono hB)).more (show B ≤ gr by omega))
        go_wp2_with fail
        refine (sortO_any wr w.heap.size gr b off c l.length l HQ.out HO.out q0 (by omega) HL.out hg2 hpos hl).mono ?_
        rintro e w3 ⟨rfl, hor, hb3⟩
        have HOR := Lib.hid hor; have HB3 := Lib.hid (HB.out.trans (hb3.mono hgw)); clear hor hb3
        go_wp2
        go_ret
        exact ⟨_, _, retv (by rw [orderE_good HQ.out, natI_len, orderN_len]; rfl), by rw [orderE_good HQ.out]; exact HOR.out.more hgw, HB3.out⟩
theorem orderI_any (w : World) (B : Nat) (A : Option Addr) (c : Nat) (l : List Ev) (hl : l.length ≤ 1048576) (hB : B ≤ w.heap.size) (hS : evL w B A l) : Calls Try.prog 10 #[.slice A l.length c] w (AnsO (orderE l) w) := by
  cases hq : jrnB l
  · exact orderI_bad w B A c l hl hB hS hq
  · exact orderI_good w B A c l hl hB hS hq
end Go.Proofs.Ytnimdbmcpbpoiaa
