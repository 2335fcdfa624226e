/- Chapter 8: slices.Insert of one event (gen_evin.py). -/
import Derived.Test.YtchphcchpdekoaaEvE
import Derived.Test.YtchphcchpdekoaaEvGs
import Derived.Shelf.Spec.SlicesInsert
import Derived.Lib.AppendZerosOnto
import Derived.Laws.CopyOwn
namespace Go.Proofs.Ytchphcchpdekoaa
open Go.RowKit Go.Lib
set_option linter.unusedVariables false
section
variable {P : Program}
/-- a copy of elements of k cells into a row that is known whole -/
theorem run_copy_row8 (w : World) (dT sT ty elem : TypeId) (k g o dLen dCap : Nat) (a : Addr) (sLen sCap : Nat) (cur : Array Value) (t : TypeId) (cs : List Value)
    (hu : P.underlying dT = some (.slice elem)) (hs : (P.info? elem).map (·.size) = some k)
    (hg : w.heap[g]? = some (.cells cur t (0, 0))) (hn : cs.length = Nat.min sLen dLen * k)
    (hsrc : ∀ j v, cs[j]? = some v → w.cell? (a.add j) = some v) (hfit : o + cs.length ≤ cur.size) (h1 : ∀ v ∈ cs, v.oneCell' = true) :
    (Builtin.copy_ #[dT, sT] ty #[.slice (some ⟨g, o, none⟩) dLen dCap, .slice (some a) sLen sCap]).run P w =
      .ok (goInt (Nat.min sLen dLen)) (w.setRow g (cur.toList.take o ++ cs ++ cur.toList.drop (o + cs.length)).toArray) := by
  have hl := run_loadCells_list (P := P) w a cs hsrc
  have hst := run_storeCells_at P g o t cs 0 cur w hg (by simpa using hfit) h1
  cases hq : P.info? elem with
  | none => simp [hq] at hs
  | some i =>
    have hi : i.size = k := by simpa [hq] using hs
    rw [hn] at hl
    simp [Builtin.copy_, run_underlying hu, Builtin.lenOf, Builtin.firstCells, sizeOf, typeInfo, hq, hi, hl, hst]
end
/-- the row behind an insertion -/
theorem insV (l : List Ev) (i : Nat) (x : Ev) : evV (l.take i ++ x :: l.drop i) = (evV l).take (i * 7) ++ evC x ++ (evV l).drop (i * 7) := by
  have h1 : ∀ (l : List Ev) (i : Nat), evV (l.take i) = (evV l).take (i * 7) := by
    intro l
    induction l with
    | nil => intro i; simp [evV]
    | cons a r ih =>
      intro i
      cases i with
      | zero => simp [evV]
      | succ i =>
        have e : evV (a :: r) = evC a ++ evV r := rfl
        have e2 : evV ((a :: r).take (i + 1)) = evC a ++ evV (r.take i) := rfl
        rw [e, e2, ih i, List.take_append]
        have hl : (evC a).length = 7 := rfl
        rw [List.take_of_length_le (l := evC a) (show (evC a).length ≤ (i + 1) * 7 by omega), hl, show (i + 1) * 7 - 7 = i * 7 by omega]
  have h2 : ∀ (l : List Ev) (i : Nat), evV (l.drop i) = (evV l).drop (i * 7) := by
    intro l
    induction l with
    | nil => intro i; simp [evV]
    | cons a r ih =>
      intro i
      cases i with
      | zero => simp
      | succ i =>
        have e : evV (a :: r) = evC a ++ evV r := rfl
        rw [List.drop_succ_cons, ih i, e, List.drop_append]
        have hl : (evC a).length = 7 := rfl
        rw [List.drop_of_length_le (l := evC a) (show (evC a).length ≤ (i + 1) * 7 by omega), hl, show (i + 1) * 7 - 7 = i * 7 by omega, List.nil_append]
  rw [evV_app, h1]
  have e : evV (x :: l.drop i) = evC x ++ evV (l.drop i) := rfl
  rw [e, h2, List.append_assoc]

def AnsI (base : Nat) (R : List Ev) (w : World) (e : Ending) (w' : World) : Prop := ∃ (A' : Option Addr) (c' : Nat), R.length ≤ c' ∧ e = .returned (.slice A' R.length c') ∧ OR w' base 25 A' (evV R) ∧ Below base w w'
set_option maxRecDepth 100000 in
set_option maxHeartbeats 2000000 in
theorem insE_end (w : World) (base : Nat) (A : Option Addr) (c : Nat) (l : List Ev) (vb : Nat) (x0 x1 x2 x3 x4 x5 x6 : Int) (hown : w.ownsRow base 25 7 (.slice A l.length c) l.length (evV l)) (hb : base ≤ w.heap.size) (hl : l.length ≤ 60) (hv : Has w vb 25 #[.int .i64 x0, .int .i64 x1, .int .i64 x2, .int .i64 x3, .int .i64 x4, .int .i64 x5, .int .i64 x6]) : Calls Try.prog 37 #[.slice A l.length c, .int .i64 (l.length : Int), .slice (some ⟨vb, 0, none⟩) 1 1] w (AnsI base (l ++ [⟨x0, x1, x2, x3, x4, x5, x6⟩]) w) := by
  obtain ⟨i0, hi0, hz0, hz1, hz2⟩ := info_parts evInfo
  have HO := Lib.hid hown; have HV := Lib.hid hv; have I0 := Lib.hid hi0; have Z0 := Lib.hid hz0; have Z1 := Lib.hid hz1; have Z2 := Lib.hid hz2; clear hown hv hi0 hz0 hz1 hz2
  have key : (c = l.length ∨ ¬ c = l.length) := Classical.em _
  rcases key with rfl | hce
  · go_enter Try.func37, Try.ntmps37
    go_wp2_with (at_builtin; go_must (refine list_app rfl _ _ 31 rfl base 25 i0 (.agg #[.int .i64 0, .int .i64 0, .int .i64 0, .int .i64 0, .int .i64 0, .int .i64 0, .int .i64 0]) 7 56 Try.underlying31 I0.out Z0.out Z1.out Z2.out rfl (by decide) _ l.length (evV l) rfl HO.out _ 1 1 #[.int .i64 x0, .int .i64 x1, .int .i64 x2, .int .i64 x3, .int .i64 x4, .int .i64 x5, .int .i64 x6].toList rfl (src_has8 HV.out 7 rfl (by simp [Value.oneCell'])) (by unfold maxLen; omega) (by omega) hb ?_))
    intro A3 c3 w8 hown8 hgrow8 _
    have HB8 := Lib.hid ((Below.refl base w).grown hgrow8 hb (fun k hk => (HO.out.lt k hk).1)); have HO8 := Lib.hid hown8; clear hown8 hgrow8
    go_wp2_with fail
    go_ret
    refine ⟨A3, c3, ?_, ?_, ?_, HB8.out⟩
    · have := own_cap8 HO8.out; simpa using this
    · simp
    · obtain ⟨A9, c9, hv9, hor⟩ := or_own HO8.out
      injection hv9 with hv9; subst hv9
      rw [evV_app, evV_one]; exact hor
  · go_enter Try.func37, Try.ntmps37
    go_wp2_with (at_builtin; go_must (refine list_app rfl _ _ 31 rfl base 25 i0 (.agg #[.int .i64 0, .int .i64 0, .int .i64 0, .int .i64 0, .int .i64 0, .int .i64 0, .int .i64 0]) 7 56 Try.underlying31 I0.out Z0.out Z1.out Z2.out rfl (by decide) _ l.length (evV l) rfl HO.out _ 1 1 #[.int .i64 x0, .int .i64 x1, .int .i64 x2, .int .i64 x3, .int .i64 x4, .int .i64 x5, .int .i64 x6].toList rfl (src_has8 HV.out 7 rfl (by simp [Value.oneCell'])) (by unfold maxLen; omega) (by omega) hb ?_))
    intro A3 c3 w8 hown8 hgrow8 _
    have HB8 := Lib.hid ((Below.refl base w).grown hgrow8 hb (fun k hk => (HO.out.lt k hk).1)); have HO8 := Lib.hid hown8; clear hown8 hgrow8
    go_wp2_with fail
    go_ret
    refine ⟨A3, c3, ?_, ?_, ?_, HB8.out⟩
    · have := own_cap8 HO8.out; simpa using this
    · simp
    · obtain ⟨A9, c9, hv9, hor⟩ := or_own HO8.out
      injection hv9 with hv9; subst hv9
      rw [evV_app, evV_one]; exact hor
set_option maxRecDepth 100000 in
set_option maxHeartbeats 4000000 in
theorem insE_grow (w : World) (base : Nat) (A : Option Addr) (c : Nat) (l : List Ev) (vb : Nat) (x0 x1 x2 x3 x4 x5 x6 : Int) (hown : w.ownsRow base 25 7 (.slice A l.length c) l.length (evV l)) (hb : base ≤ w.heap.size) (hl : l.length ≤ 60) (hv : Has w vb 25 #[.int .i64 x0, .int .i64 x1, .int .i64 x2, .int .i64 x3, .int .i64 x4, .int .i64 x5, .int .i64 x6]) (i : Nat) (hi : i < l.length) (hroom : c < l.length + 1) : Calls Try.prog 37 #[.slice A l.length c, .int .i64 (i : Int), .slice (some ⟨vb, 0, none⟩) 1 1] w (AnsI base (l.take i ++ ⟨x0, x1, x2, x3, x4, x5, x6⟩ :: l.drop i) w) := by
  obtain ⟨i0, hi0, hz0, hz1, hz2⟩ := info_parts evInfo
  have hnc := own_cap8 hown
  obtain ⟨n, hn⟩ : ∃ n, l.length = n := ⟨_, rfl⟩
  obtain ⟨g, rfl⟩ : ∃ g, A = some ⟨g, 0, none⟩ := by
    obtain ⟨_, ⟨h1, h0⟩ | ⟨g, cap, cur, h1, _⟩⟩ := hown
    · omega
    · injection h1 with h1; exact ⟨g, h1⟩
  have hev : (evV l).length = 7 * n := by rw [evV_len, hn]
  have hcl : ∀ j v, (evV l)[j]? = some v → w.cell? ⟨g, j, none⟩ = some v := fun j v hj => by
    have h9 := (List.getElem?_eq_some_iff.1 hj).1
    rw [hown.cellAt j (by omega)]; exact hj
  rw [hn] at hi hroom hnc hl ⊢
  have hold : (Builtin.firstCells i0.size i (.slice (some ⟨g, 0, none⟩) i c)).run Try.prog w.drew = .ok ((evV l).take (i * 7)).toArray w.drew := by
    rw [hz1]
    exact run_firstCells_some w.drew 7 i ⟨g, 0, none⟩ i c ((evV l).take (i * 7)) (by rw [List.length_take]; omega) (fun j v hj => by
      rw [addr_ev, Nat.zero_add]
      rw [List.getElem?_take] at hj
      split at hj
      · exact hcl j v hj
      · cases hj)
  have hkk : (n : Int) + 1 - (i : Int) = ((n + 1 - i : Nat) : Int) := by omega
  have hik : i + (n + 1 - i) = n + 1 := by omega
  obtain ⟨G, hG⟩ : ∃ G, G = grownCap w (n + 1) c 25 := ⟨_, rfl⟩
  obtain ⟨ROW, hROW⟩ : ∃ ROW : Array Value, ROW = ((evV l).take (i * 7)).toArray ++ Builtin.zeroCells (.agg #[.int .i64 0, .int .i64 0, .int .i64 0, .int .i64 0, .int .i64 0, .int .i64 0, .int .i64 0] : Value).cells (n + 1 - i) ++ Builtin.zeroCells (.agg #[.int .i64 0, .int .i64 0, .int .i64 0, .int .i64 0, .int .i64 0, .int .i64 0, .int .i64 0] : Value).cells (G - (n + 1)) := ⟨_, rfl⟩
  have hrz : ∀ ty, (Builtin.append_ #[31, 3] ty #[.slice (some ⟨g, 0, none⟩) i c, .int .i64 ((n : Int) + 1 - (i : Int))]).run Try.prog w = .ok (.slice (some ⟨w.heap.size, 0, none⟩) (n + 1) G) (w.drew.alloc (.cells ROW 25)) := fun ty => by
    have h := Lib.run_append_grow_zeros w 31 3 ty 25 i0 _ .i64 .i64 Try.underlying31 Try.underlying3 hi0 hz0 (some ⟨g, 0, none⟩) i c ((evV l).take (i * 7)) hold (n + 1 - i) (by omega) (by rw [hz1]; decide) (by omega) (by omega) (by rw [hz2]; omega) (by rw [hz2, hik]; exact growslice_fits hroom (by omega))
    rw [hik] at h
    rw [hkk, hROW, hG]
    exact h
  have hGn : n + 1 ≤ G := by rw [hG]; exact grownCap_ge w _ _ _
  have hRl : (n + 1) * 7 ≤ ROW.size := by
    rw [hROW]
    simp [Builtin.zeroCells, Value.cells]
    omega
  have hRt : ROW.toList.take (i * 7) = (evV l).take (i * 7) := by
    rw [hROW]
    simp only [Array.toList_append, List.append_assoc]
    rw [List.take_append_of_le_length (by simp; omega), List.take_of_length_le (by rw [List.length_take]; exact Nat.min_le_left _ _)]
  have hz3 : ¬ ((i : Int) = (n : Int)) := by omega
  have hz4 : (c : Int) < (n : Int) + 1 := by omega
  have hG63 : G ≤ 9223372036854775807 := by
    have := grownCap_le_maxLen w (n + 1) c 25 (by unfold maxLen; omega)
    rw [← hG] at this
    unfold maxLen at this
    omega
  have hsz : (Try.prog.info? 25).map (·.size) = some 7 := by rw [hi0]; simp [hz1]
  obtain ⟨R2, hR2⟩ : ∃ R2 : Array Value, R2 = (ROW.toList.take (i * 7) ++ (#[.int .i64 x0, .int .i64 x1, .int .i64 x2, .int .i64 x3, .int .i64 x4, .int .i64 x5, .int .i64 x6] : Array Value).toList ++ ROW.toList.drop (i * 7 + 7)).toArray := ⟨_, rfl⟩
  have hmA : Nat.min 1 (n + 1 - i) = 1 := by simp only [Nat.min_def]; split <;> omega
  have hmB : Nat.min (n - i) (n + 1 - (i + 1)) = n - i := by simp only [Nat.min_def]; split <;> omega
  have hcpA : ∀ (W : World), W.heap[w.heap.size]? = some (.cells ROW 25 (0, 0)) → (∀ j, W.cell? ⟨vb, j, none⟩ = w.cell? ⟨vb, j, none⟩) → ∀ ty dc, (Builtin.copy_ #[31, 31] ty #[.slice (some ⟨w.heap.size, i * 7, none⟩) (n + 1 - i) dc, .slice (some ⟨vb, 0, none⟩) 1 1]).run Try.prog W = .ok (goInt 1) (W.setRow w.heap.size R2) := fun W hW hWc ty dc => by
    have := run_copy_row8 (P := Try.prog) W 31 31 ty 25 7 w.heap.size (i * 7) (n + 1 - i) dc ⟨vb, 0, none⟩ 1 1 ROW 25 (#[.int .i64 x0, .int .i64 x1, .int .i64 x2, .int .i64 x3, .int .i64 x4, .int .i64 x5, .int .i64 x6] : Array Value).toList Try.underlying31 hsz hW (by rw [hmA]; rfl)
      (fun j v hj => by rw [addr_ev, Nat.zero_add, hWc]; exact has_cell hv j (by simpa using hj)) (by simp; omega) (by simp [Value.oneCell'])
    rw [hmA] at this
    rw [this, hR2]; rfl
  obtain ⟨R3, hR3⟩ : ∃ R3 : Array Value, R3 = (R2.toList.take ((i + 1) * 7) ++ (evV l).drop (i * 7) ++ R2.toList.drop ((i + 1) * 7 + ((evV l).drop (i * 7)).length)).toArray := ⟨_, rfl⟩
  have hdl : ((evV l).drop (i * 7)).length = (n - i) * 7 := by rw [List.length_drop]; omega
  have hR2s : R2.size = ROW.size := by rw [hR2]; simp; omega
  have hcpB : ∀ (W : World), W.heap[w.heap.size]? = some (.cells R2 25 (0, 0)) → (∀ j, W.cell? ⟨g, j, none⟩ = w.cell? ⟨g, j, none⟩) → ∀ ty dc sc, (Builtin.copy_ #[31, 31] ty #[.slice (some ⟨w.heap.size, (i + 1) * 7, none⟩) (n + 1 - (i + 1)) dc, .slice (some ⟨g, i * 7, none⟩) (n - i) sc]).run Try.prog W = .ok (goInt ((n - i : Nat) : Int)) (W.setRow w.heap.size R3) := fun W hW hWc ty dc sc => by
    have := run_copy_row8 (P := Try.prog) W 31 31 ty 25 7 w.heap.size ((i + 1) * 7) (n + 1 - (i + 1)) dc ⟨g, i * 7, none⟩ (n - i) sc R2 25 ((evV l).drop (i * 7)) Try.underlying31 hsz hW (by rw [hmB, hdl])
      (fun j v hj => by rw [addr_ev, hWc]; rw [List.getElem?_drop] at hj; exact hcl _ v hj) (by rw [hdl]; omega) (fun v hm => ev_one v (List.mem_of_mem_drop hm))
    rw [hmB] at this
    rw [this, hR3]
  have hGi : ¬ (G = i) := by omega
  have hGim : ¬ (G = i + 1) := by omega
  have hci : ¬ (c = i) := by omega
  have mixed : Try.prog.follows Departure.mixedOrders = true := by kernel_rfl
  have hgl : g < w.heap.size := by obtain ⟨_, cur, hcur⟩ := own_has hown g rfl; exact has_lt hcur
  have hgB : base ≤ g := (own_has hown g rfl).1
  have hw1 : IntKind.i64.wrap ((i : Int) + 1) = (i : Int) + 1 := by rw [IntKind.wrap_i64]; omega
  have hb1 : (0 : Int) ≤ (i : Int) + 1 := by omega
  have hin : i ≤ n := by omega
  have htn : ((i : Int) + 1).toNat = i + 1 := by omega
  have hb3 : (i : Int) ≤ (n : Int) := by omega
  have HV := Lib.hid hv; have HO := Lib.hid hown; have HN := Lib.hid hn; have HR2 := Lib.hid hR2; have HR3 := Lib.hid hR3; have HRT := Lib.hid hRt; have HDL := Lib.hid hdl; have HR2S := Lib.hid hR2s; have HEV := Lib.hid hev; have HRL := Lib.hid hRl; have HCL := Lib.hid hcl; clear hv hown hn hold hkk hik hROW hG hi0 hz0 hz1 hz2 hR2 hR3 hRt hdl hR2s hev hRl hcl hmA hmB hsz
  go_enter Try.func37, Try.ntmps37
  have HCB := Lib.hid hcpB; clear hcpB
  have hA := fun ty dc => hcpA (w.alloc (.cells ROW 25)).drew (has_new w 25 ROW) (fun j => World.cell?_alloc_past (w := w) _ vb j (has_lt HV.out)) ty dc
  clear hcpA
  go_wp2_with (at_builtin; refine Lib.wpList_append_run _ rfl _ _ _ _ rfl _ _ rfl rfl _ _ (hrz _) ?_)
  go_region_law_o (refine step_copy_runI rfl _ _ 31 31 rfl (.slice (some ⟨w.heap.size, (i + 1) * 7, none⟩) (n + 1 - (i + 1)) (G - (i + 1))) (.slice (some ⟨g, i * 7, none⟩) (n - i) (c - i)) (by simp [Act.eval, Act.put]) (by simp [Act.eval, Act.put]) (HCB.out ((w.alloc (.cells ROW 25)).drew.setRow w.heap.size R2).drew (setRow_heap (w.alloc (.cells ROW 25)).drew w.heap.size ROW R2 25 (0, 0) (has_new w 25 ROW)) (fun j => (cell_setRow_other (w.alloc (.cells ROW 25)).drew w.heap.size R2 ⟨g, j, none⟩ (by show g ≠ w.heap.size; omega)).trans (World.cell?_alloc_past (w := w) _ g j hgl)) _ _ _) ?_)
  go_wp2
  go_ret
  have hev := HEV.out; have hRl := HRL.out; have hn := HN.out
  have hlen : (l.take i ++ ⟨x0, x1, x2, x3, x4, x5, x6⟩ :: l.drop i).length = n + 1 := by simp; omega
  have hlt : ((evV l).take (i * 7)).length = i * 7 := by rw [List.length_take]; omega
  have hT : R2.toList.take ((i + 1) * 7) = (evV l).take (i * 7) ++ evC ⟨x0, x1, x2, x3, x4, x5, x6⟩ := by
    rw [HR2.out, HRT.out]
    exact List.take_left' (by rw [List.length_append, hlt]; simp; omega)
  have hH2 := setRow_heap (w.alloc (.cells ROW 25)).drew w.heap.size ROW R2 25 (0, 0) (has_new w 25 ROW)
  refine ⟨some ⟨w.heap.size, 0, none⟩, G, by rw [hlen]; exact hGn, by rw [hlen]; rfl, .inr ⟨w.heap.size, R3, rfl, hb, setRow_heap ((w.alloc (.cells ROW 25)).drew.setRow w.heap.size R2).drew w.heap.size R2 R3 25 (0, 0) hH2, fun j u hu => ?_⟩, below_setRow (below_setRow ((Below.refl base w).alloc hb _).drew hb _).drew hb _⟩
  rw [insV] at hu
  rw [HR3.out, hT, List.getElem?_toArray]
  rw [List.getElem?_append_left (List.getElem?_eq_some_iff.1 hu).1]
  exact hu
set_option maxRecDepth 100000 in
set_option maxHeartbeats 4000000 in
theorem insE_room (w : World) (base : Nat) (A : Option Addr) (c : Nat) (l : List Ev) (vb : Nat) (x0 x1 x2 x3 x4 x5 x6 : Int) (hown : w.ownsRow base 25 7 (.slice A l.length c) l.length (evV l)) (hb : base ≤ w.heap.size) (hl : l.length ≤ 60) (hv : Has w vb 25 #[.int .i64 x0, .int .i64 x1, .int .i64 x2, .int .i64 x3, .int .i64 x4, .int .i64 x5, .int .i64 x6]) (i : Nat) (hi : i < l.length) (hroom : l.length + 1 ≤ c) (hvb : ∀ g, A = some ⟨g, 0, none⟩ → vb ≠ g) : Calls Try.prog 37 #[.slice A l.length c, .int .i64 (i : Int), .slice (some ⟨vb, 0, none⟩) 1 1] w (AnsI base (l.take i ++ ⟨x0, x1, x2, x3, x4, x5, x6⟩ :: l.drop i) w) := by
  obtain ⟨i0, hi0, hz0, hz1, hz2⟩ := info_parts evInfo
  obtain ⟨n, hn⟩ : ∃ n, l.length = n := ⟨_, rfl⟩
  have hev : (evV l).length = 7 * n := by rw [evV_len, hn]
  obtain ⟨g, cur, rfl, hgB, hH, hcm, hcs, htk⟩ : ∃ g cur, A = some ⟨g, 0, none⟩ ∧ base ≤ g ∧ Has w g 25 cur ∧ c ≤ maxLen ∧ cur.size = c * 7 ∧ cur.toList.take (n * 7) = evV l := by
    obtain ⟨_, ⟨h1, h0⟩ | ⟨g, cap, cur, h1, h2, h3, h4, h5, h6, h7⟩⟩ := hown
    · omega
    · injection h1 with h1 _ h8; subst h8; rw [hn] at h7; exact ⟨g, cur, h1, h2, h3, h5, h6, h7⟩
  have hvg : vb ≠ g := hvb g rfl
  have hcl : ∀ j v, (evV l)[j]? = some v → w.cell? ⟨g, j, none⟩ = some v := fun j v hj => by
    have h9 := (List.getElem?_eq_some_iff.1 hj).1
    rw [hown.cellAt j (by omega)]; exact hj
  rw [hn] at hi hroom hl ⊢
  unfold maxLen at hcm
  have hsz : (Try.prog.info? 25).map (·.size) = some 7 := by rw [hi0]; simp [hz1]
  have hgl : g < w.heap.size := has_lt hH
  have hmB : Nat.min (n + 1 - i) (n + 1 - (i + 1)) = n - i := by simp only [Nat.min_def]; split <;> omega
  have hmA : Nat.min 1 (n + 1 - i) = 1 := by simp only [Nat.min_def]; split <;> omega
  have hdl : ((evV l).drop (i * 7)).length = (n - i) * 7 := by rw [List.length_drop]; omega
  obtain ⟨R2, hR2⟩ : ∃ R2 : Array Value, R2 = (cur.toList.take ((i + 1) * 7) ++ (evV l).drop (i * 7) ++ cur.toList.drop ((i + 1) * 7 + ((evV l).drop (i * 7)).length)).toArray := ⟨_, rfl⟩
  have hcpB : ∀ (W : World), W.heap[g]? = some (.cells cur 25 (0, 0)) → (∀ j, W.cell? ⟨g, j, none⟩ = w.cell? ⟨g, j, none⟩) → ∀ ty dc sc, (Builtin.copy_ #[31, 31] ty #[.slice (some ⟨g, (i + 1) * 7, none⟩) (n + 1 - (i + 1)) dc, .slice (some ⟨g, i * 7, none⟩) (n + 1 - i) sc]).run Try.prog W = .ok (goInt ((n - i : Nat) : Int)) (W.setRow g R2) := fun W hW hWc ty dc sc => by
    have := run_copy_row8 (P := Try.prog) W 31 31 ty 25 7 g ((i + 1) * 7) (n + 1 - (i + 1)) dc ⟨g, i * 7, none⟩ (n + 1 - i) sc cur 25 ((evV l).drop (i * 7)) Try.underlying31 hsz hW (by rw [hmB, hdl])
      (fun j v hj => by rw [addr_ev, hWc]; rw [List.getElem?_drop] at hj; exact hcl _ v hj) (by rw [hdl, hcs]; omega) (fun v hm => ev_one v (List.mem_of_mem_drop hm))
    rw [hmB] at this
    rw [this, hR2]
  have hR2s : R2.size = c * 7 := by rw [hR2]; simp; omega
  obtain ⟨R3, hR3⟩ : ∃ R3 : Array Value, R3 = (R2.toList.take (i * 7) ++ (#[.int .i64 x0, .int .i64 x1, .int .i64 x2, .int .i64 x3, .int .i64 x4, .int .i64 x5, .int .i64 x6] : Array Value).toList ++ R2.toList.drop (i * 7 + 7)).toArray := ⟨_, rfl⟩
  have hcpA : ∀ (W : World), W.heap[g]? = some (.cells R2 25 (0, 0)) → (∀ j, W.cell? ⟨vb, j, none⟩ = w.cell? ⟨vb, j, none⟩) → ∀ ty dc, (Builtin.copy_ #[31, 31] ty #[.slice (some ⟨g, i * 7, none⟩) (n + 1 - i) dc, .slice (some ⟨vb, 0, none⟩) 1 1]).run Try.prog W = .ok (goInt 1) (W.setRow g R3) := fun W hW hWc ty dc => by
    have := run_copy_row8 (P := Try.prog) W 31 31 ty 25 7 g (i * 7) (n + 1 - i) dc ⟨vb, 0, none⟩ 1 1 R2 25 (#[.int .i64 x0, .int .i64 x1, .int .i64 x2, .int .i64 x3, .int .i64 x4, .int .i64 x5, .int .i64 x6] : Array Value).toList Try.underlying31 hsz hW (by rw [hmA]; rfl)
      (fun j v hj => by rw [addr_ev, Nat.zero_add, hWc]; exact has_cell hv j (by simpa using hj)) (by simp; omega) (by simp [Value.oneCell'])
    rw [hmA] at this
    rw [this, hR3]; rfl
  obtain ⟨tA, kA, hsa, _, _⟩ := World.shape?_of_cell? (has_cell hv 0 rfl)
  obtain ⟨tB, kB, hsb, hkB, _⟩ := World.shape?_of_cell? (hcl 0 _ (List.getElem?_eq_getElem (show 0 < (evV l).length by omega)))
  have hov : ∀ lb cb, (callFunc 41 #[.slice (some ⟨vb, 0, none⟩) 1 1, .slice (some ⟨g, (i + 1) * 7, none⟩) lb cb]).run Try.prog w = .ok (.value (.bool false)) w := fun lb cb => by
    rw [run_callFunc_extern Try.func41 (by kernel_rfl) (by kernel_rfl) (by kernel_rfl) (e := Extern.SlicesOverlaps.overlaps #[31, 31] #[4]) (by kernel_rfl),
      Lib.run_overlaps_apart w 31 4 25 Try.underlying31 7 (fun w => by kernel_rfl) ⟨vb, 0, none⟩ ⟨g, (i + 1) * 7, none⟩ 1 1 lb cb hvg tA tB kA kB hsa hsb (by omega) (frozen_of_row w vb 0 _ _ hv) (frozen_of_row w vb kA _ _ hv)]
    rfl
  have mixed : Try.prog.follows Departure.mixedOrders = true := by kernel_rfl
  have hz3 : ¬ ((i : Int) = (n : Int)) := by omega
  have hz4 : ¬ ((c : Int) < (n : Int) + 1) := by omega
  have hw1 : IntKind.i64.wrap ((i : Int) + 1) = (i : Int) + 1 := by rw [IntKind.wrap_i64]; omega
  have hb1 : (0 : Int) ≤ (i : Int) + 1 := by omega
  have hin : i ≤ n := by omega
  have htn : ((i : Int) + 1).toNat = i + 1 := by omega
  have hb2 : ¬ (c = i + 1) := by omega
  have hb3 : (i : Int) ≤ (n : Int) + 1 := by omega
  have hb5 : (i : Int) ≤ (n : Int) := by omega
  have hb4 : ¬ (c = i) := by omega
  have HB := hcpB w.drew hH (fun _ => rfl)
  have hH2 := setRow_heap w.drew g cur R2 25 (0, 0) hH
  have hA := hcpA (w.drew.setRow g R2) hH2 (fun j => cell_setRow_other w.drew g R2 ⟨vb, j, none⟩ hvg)
  have HV := Lib.hid hv; have HO := Lib.hid hown; have HN := Lib.hid hn; have HR2 := Lib.hid hR2; have HR3 := Lib.hid hR3; have HTK := Lib.hid htk; have HDL := Lib.hid hdl; have HR2S := Lib.hid hR2s; have HEV := Lib.hid hev; have HCS := Lib.hid hcs; have HHH := Lib.hid hH; have HH2 := Lib.hid hH2
  clear hv hown hn hR2 hR3 htk hdl hR2s hev hcs hcl hcpA hcpB hi0 hz0 hz1 hz2 hmA hmB hsz hsa hsb hH hH2
  go_enter Try.func37, Try.ntmps37
  go_wp2_with (simp only [hov])
  go_region_law_o (refine step_copy_runI rfl _ _ 31 31 rfl (.slice (some ⟨g, (i + 1) * 7, none⟩) (n + 1 - (i + 1)) (c - (i + 1))) (.slice (some ⟨g, i * 7, none⟩) (n + 1 - i) (c - i)) (by simp [Act.eval, Act.put]) (by simp [Act.eval, Act.put]) (HB _ _ _) ?_)
  go_wp2
  go_ret
  have hev := HEV.out; have hn := HN.out; have hcs := HCS.out; have hdl := HDL.out
  have hlen : (l.take i ++ ⟨x0, x1, x2, x3, x4, x5, x6⟩ :: l.drop i).length = n + 1 := by simp; omega
  have hc1 : (cur.toList.take ((i + 1) * 7)).length = (i + 1) * 7 := by rw [List.length_take]; simp; omega
  have hT : R2.toList.take (i * 7) = (evV l).take (i * 7) := by
    rw [HR2.out, ← HTK.out]
    simp only [List.append_assoc]
    rw [List.take_append_of_le_length (by omega), List.take_take, List.take_take, Nat.min_eq_left (by omega), Nat.min_eq_left (by omega)]
  have hD : R2.toList.drop (i * 7 + 7) = (evV l).drop (i * 7) ++ cur.toList.drop ((i + 1) * 7 + ((evV l).drop (i * 7)).length) := by
    rw [HR2.out]
    simp only [List.append_assoc]
    rw [show i * 7 + 7 = (i + 1) * 7 by omega]
    exact List.drop_left' hc1
  refine ⟨some ⟨g, 0, none⟩, c, by rw [hlen]; exact hroom, by rw [hlen]; rfl, .inr ⟨g, R3, rfl, hgB, setRow_heap (w.drew.setRow g R2) g R2 R3 25 (0, 0) HH2.out, fun j u hu => ?_⟩, below_setRow (below_setRow (Below.refl base w).drew hgB _) hgB _⟩
  rw [insV] at hu
  rw [HR3.out, hT, hD, List.getElem?_toArray, ← List.append_assoc]
  exact (List.getElem?_append_left (l₂ := cur.toList.drop ((i + 1) * 7 + ((evV l).drop (i * 7)).length)) (List.getElem?_eq_some_iff.1 hu).1).trans hu
theorem insE_any (w : World) (base : Nat) (A : Option Addr) (c : Nat) (l : List Ev) (vb : Nat) (x0 x1 x2 x3 x4 x5 x6 : Int) (hown : w.ownsRow base 25 7 (.slice A l.length c) l.length (evV l)) (hb : base ≤ w.heap.size) (hl : l.length ≤ 60) (hv : Has w vb 25 #[.int .i64 x0, .int .i64 x1, .int .i64 x2, .int .i64 x3, .int .i64 x4, .int .i64 x5, .int .i64 x6]) (i : Nat) (hi : i ≤ l.length) (hvb : ∀ g, A = some ⟨g, 0, none⟩ → vb ≠ g) : Calls Try.prog 37 #[.slice A l.length c, .int .i64 (i : Int), .slice (some ⟨vb, 0, none⟩) 1 1] w (AnsI base (l.take i ++ ⟨x0, x1, x2, x3, x4, x5, x6⟩ :: l.drop i) w) := by
  rcases Nat.lt_or_ge i l.length with h | h
  · rcases Nat.lt_or_ge c (l.length + 1) with h2 | h2
    · exact insE_grow w base A c l vb x0 x1 x2 x3 x4 x5 x6 hown hb hl hv i h h2
    · exact insE_room w base A c l vb x0 x1 x2 x3 x4 x5 x6 hown hb hl hv i h h2 hvb
  · have e : i = l.length := by omega
    subst e
    rw [List.take_length, List.drop_length]
    exact insE_end w base A c l vb x0 x1 x2 x3 x4 x5 x6 hown hb hl hv
end Go.Proofs.Ytchphcchpdekoaa
