/- Chapter 8: sorting events by their names: slices.SortFunc over the program's rows of events. -/
import Derived.Test.YtdcejkompdbliaaDoorShelfU
import Derived.Test.YtdcejkompdbliaaDoorEvUm
import Derived.Test.YtdcejkompdbliaaDoorEvK
import Derived.Test.YtdcejkompdbliaaDoorEvSn
import Derived.Sort.Row
import Derived.Laws.OwnMore
namespace Go.Proofs.YtdcejkompdbliaaDoor
open Go.RowKit
set_option linter.unusedVariables false
theorem has_sortW8 {α : Type} [Inhabited α] {w : World} {g : Nat} {e : TypeId} {cur : Array Value} {enc : α → Value} (h : Has w g e cur) (n : Nat) (d : Array α) (os : Array Obj) : Has (sortWorld enc w g 0 n d os) g e (Sort.putCells enc 0 d cur) := by
  have hlt := has_lt h
  have h4 : w.heap[g]? = some (.cells cur e (0, 0)) := h
  have h3 : (Sort.putRow enc (Sort.ahead w n) g 0 d).heap[g]? = some (.cells (Sort.putCells enc 0 d cur) e (0, 0)) := by
    simp [Sort.putRow, Sort.mapBlock, Array.getElem?_modify, Sort.onCells, Sort.ahead, h4]
  have hs : g < (Sort.putRow enc (Sort.ahead w n) g 0 d).heap.size := by simp [Sort.putRow, Sort.mapBlock]; exact hlt
  unfold Has sortWorld
  rw [Sort.heap_grow_old _ _ hs]; exact h3
theorem below_sortW8 {α : Type} [Inhabited α] {enc : α → Value} (w : World) (base g n : Nat) (d : Array α) (os : Array Obj) (hg : base ≤ g) (hb : base ≤ w.heap.size) : Below base w (sortWorld enc w g 0 n d os) := by
  refine ⟨rfl, rfl, rfl, ?_, fun k hk => ?_⟩
  · simp [sortWorld, Sort.grow, Sort.putRow, Sort.mapBlock, Sort.ahead]
  · have hs : k < (Sort.putRow enc (Sort.ahead w n) g 0 d).heap.size := by simp [Sort.putRow, Sort.mapBlock, Sort.ahead]; omega
    unfold sortWorld
    rw [Sort.heap_grow_old _ _ hs]
    have hne : ¬ g = k := by omega
    simp [Sort.putRow, Sort.mapBlock, Array.getElem?_modify, Sort.ahead, hne]
theorem putCells_enc8 {α : Type} [Inhabited α] {enc : α → Value} {d : Array α} {cur : Array Value} {j : Nat} {x : α} (hj : d[j]? = some x) (hc : j < cur.size) : (Sort.putCells enc 0 d cur)[j]? = some (enc x) := by
  obtain ⟨hjd, rfl⟩ := Array.getElem?_eq_some_iff.1 hj
  unfold Sort.putCells
  rw [Array.getElem?_mapIdx, Array.getElem?_eq_getElem hc]
  simp only [Option.map_some, Nat.zero_le, Nat.zero_add, true_and, if_pos hjd, Nat.sub_zero]
  rw [getElem!_pos d j hjd]
instance : Inhabited Ev := ⟨zeroE⟩
theorem flat_ev (u : List Ev) : Sort.flatK evC 7 u.toArray = (evV u).toArray := by
  apply Array.ext
  · simp [evV_len]; omega
  · intro j h1 h2
    have hj : j < u.length * 7 := by simpa using h1
    obtain ⟨q, r, rfl, hr⟩ : ∃ q r, j = q * 7 + r ∧ r < 7 := ⟨j / 7, j % 7, by omega, by omega⟩
    have hq : q < u.length := by omega
    have hx := List.getElem?_eq_getElem hq
    have hv := evV_at hx
    have e1 : (q * 7 + r) / 7 = q := by omega
    have e2 : (q * 7 + r) % 7 = r := by omega
    have hf := Sort.get_flatK evC 7 u.toArray (q * 7 + r) (by simpa using hj)
    rw [getElem!_pos (Sort.flatK evC 7 u.toArray) (q * 7 + r) h1, e1, e2, getElem!_pos u.toArray q (by simpa using hq)] at hf
    rw [hf]
    have h3 : (evV u)[q * 7 + r]? = some ((evV u).toArray[q * 7 + r]'h2) := by simp
    rcases r with _ | _ | _ | _ | _ | _ | _ | r
    · exact Option.some.inj (hv.1.symm.trans h3)
    · rw [hv.2.1] at h3; injection h3
    · rw [hv.2.2.1] at h3; injection h3
    · rw [hv.2.2.2.1] at h3; injection h3
    · rw [hv.2.2.2.2.1] at h3; injection h3
    · rw [hv.2.2.2.2.2.1] at h3; injection h3
    · rw [hv.2.2.2.2.2.2] at h3; injection h3
    · omega
theorem ltN (x y : Ev) : ltOf cmpN x y = true ↔ x.nod < y.nod ∨ (x.nod = y.nod ∧ x.seq < y.seq) := by
  unfold ltOf; rw [decide_eq_true_iff, cmpN_neg]
theorem ltN_no (x y : Ev) : ltOf cmpN x y = false ↔ ¬ (x.nod < y.nod ∨ (x.nod = y.nod ∧ x.seq < y.seq)) := by
  rw [← ltN, Bool.not_eq_true]
theorem swoN : Sort.SWO (ltOf cmpN) where
  irrefl x := by rw [ltN_no]; omega
  trans x y z h1 h2 := by rw [ltN] at *; omega
  ntrans x y z h1 h2 := by rw [ltN_no] at *; omega
theorem evC_one (x : Ev) : ∀ v ∈ evC x, v.oneCell' = true := by
  intro v hv
  simp [evC] at hv
  rcases hv with rfl | rfl | rfl | rfl | rfl | rfl | rfl <;> rfl
theorem sortE_any (w : World) (base : Nat) (A : Option Addr) (c : Nat) (u : List Ev) (hown : w.ownsRow base 40 7 (.slice A u.length c) u.length (evV u)) (hb : base ≤ w.heap.size) (hl : u.length ≤ 1048576) :
    Calls Tryd.prog 31 #[.slice A u.length c, .func (.func 32) #[] #[]] w fun e w' =>
      e = .returned (.tuple #[]) ∧ ∃ s : List Ev, s.length = u.length ∧ s.Perm u ∧ s.Pairwise (fun x y => ¬ cmpN y x < 0) ∧ OR w' base 40 A (evV s) ∧ Below base w w' := by
  cases hu : u with
  | nil =>
    refine (Tryd.slices_SortFunc_none (α := Ev) A c _ w).mono ?_
    rintro e w' ⟨rfl, rfl⟩
    exact ⟨rfl, [], rfl, List.Perm.refl _, List.Pairwise.nil, .inl rfl, Below.refl _ _⟩
  | cons x0 u0 =>
    rw [← hu]
    have hpos : 0 < u.length := by rw [hu]; simp
    obtain ⟨g, rfl⟩ : ∃ g, A = some ⟨g, 0, none⟩ := by
      obtain ⟨_, ⟨h1, h0⟩ | ⟨g, cap, cur, h1, _⟩⟩ := hown
      · omega
      · injection h1 with h1; exact ⟨g, h1⟩
    obtain ⟨hbg, cur, hcur⟩ := own_has hown g rfl
    have hgl := has_lt hcur
    have eg : ∀ args w, (callFunc 32 args).run Tryd.prog w = .ok (.enter 32 args) w := enters_of Tryd.func32 (by kernel_rfl) rfl
    have hH : Sort.HoldsK evC 7 w g 0 u.toArray := by
      show Sort.Holds id w g 0 (Sort.flatK evC 7 u.toArray)
      rw [flat_ev]
      intro j hj
      have hj2 : j < (evV u).length := by simpa using hj
      have h1 := hown.cellAt j (by rw [evV_len] at hj2; omega)
      rw [Nat.zero_add]
      refine ⟨?_, hown.frozenAt j⟩
      rw [h1, getElem!_pos _ j hj]
      simp
    have hcmp : CmpLays Tryd.prog 32 #[] evC 7 cmpN g 0 u.toArray.size w := by
      intro m os dk hdk x y
      obtain ⟨x0, x1, x2, x3, x4, x5, x6⟩ := x
      obtain ⟨y0, y1, y2, y3, y4, y5, y6⟩ := y
      exact cmpN_any _ x0 x1 x2 x3 x4 x5 x6 y0 y1 y2 y3 y4 y5 y6
    have key := Tryd.slices_SortFunc (α := Ev) 7 (fun w => by kernel_rfl) (fun w => by kernel_rfl) evC (fun _ => rfl) evC_one cmpN swoN 32 #[] g 0 c u.toArray w eg hcmp hH hgl (by simp; omega)
    rw [List.size_toArray] at key
    refine key.mono ?_
    rintro e w' ⟨rfl, d', n, os, hP, hS, rfl⟩
    obtain ⟨hsz, _, hperm⟩ := hP
    have hsz2 : d'.size = u.length := by simpa using hsz
    have e1 : d'.extract 0 u.length = d' := by rw [← hsz2]; exact Array.extract_size
    have e2 : (u.toArray).extract 0 u.length = u.toArray := by
      have := Array.extract_size (xs := u.toArray); rwa [List.size_toArray] at this
    rw [e1, e2] at hperm
    have hd : d' = d'.toList.toArray := by simp
    have hw : sortWorldK evC 7 w g 0 n d' os = sortWorld id w g 0 n (evV d'.toList).toArray os := by
      rw [hd, ← flat_ev]; simp; rfl
    rw [hw]
    have hlen : d'.toList.length = u.length := by simpa using hsz2
    refine ⟨rfl, d'.toList, hlen, hperm, ?_, .inr ⟨g, _, rfl, hbg, has_sortW8 hcur n _ os, fun j v hv => ?_⟩, below_sortW8 w base g n _ os hbg hb⟩
    · rw [List.pairwise_iff_getElem]
      intro i j hi hj hij
      have hi' : i < d'.size := by simpa using hi
      have hj' : j < d'.size := by simpa using hj
      have := hS i j (Nat.zero_le _) hij (by omega)
      rw [getElem!_pos d' j hj', getElem!_pos d' i hi', ltN_no] at this
      rw [cmpN_neg]
      simpa using this
    · refine putCells_enc8 (enc := id) (x := v) (by simpa using hv) ?_
      have hj : j < 7 * u.length := by have := (List.getElem?_eq_some_iff.1 hv).1; rw [evV_len, hlen] at this; exact this
      have h4 := hown.cellAt (7 * u.length - 1) (by omega)
      have h5 : (7 * u.length - 1) < (evV u).length := by rw [evV_len]; omega
      rw [List.getElem?_eq_getElem h5] at h4
      rw [cell_of_row w g (7 * u.length - 1) cur _ (0, 0) hcur] at h4
      have := (Array.getElem?_eq_some_iff.1 h4).1
      omega
end Go.Proofs.YtdcejkompdbliaaDoor
