/- Chapter 8: KnownOf, both sides (gen_evz.py). -/
import Derived.Test.YtdcejkompdbliaaDoorEvY
import Derived.Test.YtdcejkompdbliaaDoorEvW
namespace Go.Proofs.YtdcejkompdbliaaDoor
open Go.RowKit
set_option linter.unusedVariables false
def knK (l : List Ev) (nd : Int) (k : Nat) : Int := (l.take k).foldl (fun s e => if e.nod = nd ∧ e.seq = s + 1 then e.seq else s) 0
theorem knK_succ {l : List Ev} {nd : Int} {k : Nat} {x : Ev} (h : l[k]? = some x) : knK l nd (k + 1) = if x.nod = nd ∧ x.seq = knK l nd k + 1 then x.seq else knK l nd k := by
  unfold knK; rw [List.take_add_one, h]; simp [List.foldl_append]
/-- all up to it are there, and the next is not -/
theorem knK_is {l : List Ev} (h : jrnB l = true) (nd : Int) : ∀ k, k ≤ l.length → 0 ≤ knK l nd k ∧ knK l nd k ≤ 999 ∧ (∀ j, 1 ≤ j → j ≤ knK l nd k → ∃ x ∈ l.take k, x.nod = nd ∧ x.seq = j) ∧ ¬ ∃ x ∈ l.take k, x.nod = nd ∧ x.seq = knK l nd k + 1
  | 0, _ => ⟨by simp [knK], by simp [knK], fun j h1 h2 => by simp [knK] at h2; omega, by simp⟩
  | k + 1, hk => by
    obtain ⟨h0, h9, h1, h2⟩ := knK_is h nd k (by omega)
    obtain ⟨x, hx⟩ : ∃ x, l[k]? = some x := ⟨_, List.getElem?_eq_getElem (by omega)⟩
    have hev := (evB_facts (jrn_at h hx)).2.1
    have htk : l.take (k + 1) = l.take k ++ [x] := by rw [List.take_add_one, hx]; rfl
    have hasc : ∀ y ∈ l.take k, folB y x = true := fun y hy => by
      have hp := jrn_pair h
      have h3 : (l.take (k + 1)).Pairwise (fun a b => folB a b = true) := hp.sublist (List.take_sublist _ _)
      rw [htk] at h3
      exact (List.pairwise_append.1 h3).2.2 y hy x (by simp)
    rw [knK_succ hx, htk]
    by_cases hc : x.nod = nd ∧ x.seq = knK l nd k + 1
    · rw [if_pos hc]
      refine ⟨by omega, by omega, fun j j1 j2 => ?_, ?_⟩
      · by_cases hj : j = x.seq
        · exact ⟨x, by simp, hc.1, hj.symm⟩
        · obtain ⟨y, hy, h4⟩ := h1 j j1 (by omega)
          exact ⟨y, by simp [hy], h4⟩
      · rintro ⟨y, hy, h4, h5⟩
        rcases List.mem_append.1 hy with hy | hy
        · have := folB_iff.1 (hasc y hy); omega
        · simp at hy; subst hy; omega
    · rw [if_neg hc]
      refine ⟨h0, h9, fun j j1 j2 => ?_, ?_⟩
      · obtain ⟨y, hy, h4⟩ := h1 j j1 j2
        exact ⟨y, by simp [hy], h4⟩
      · rintro ⟨y, hy, h4, h5⟩
        rcases List.mem_append.1 hy with hy | hy
        · exact h2 ⟨y, hy, h4, h5⟩
        · simp at hy; subst hy; exact hc ⟨h4, h5⟩
def knL (l : List Ev) (k : Nat) : List Int := (List.range 6).map fun (i : Nat) => knK l (i : Int) k
theorem knL_len (l : List Ev) (k : Nat) : (knL l k).length = 6 := by simp [knL]
theorem knL_at (l : List Ev) (k : Nat) {i : Nat} (h : i < 6) : (knL l k)[i]? = some (knK l (i : Int) k) := by simp [knL, h]
def knownE (l : List Ev) : List Int := if jrnB l then knL l l.length else []
theorem knownE_bad {l : List Ev} (h : jrnB l = false) : knownE l = [] := by unfold knownE; rw [h]; rfl
theorem knownE_good {l : List Ev} (h : jrnB l = true) : knownE l = knL l l.length := by unfold knownE; rw [h]; rfl
theorem knownE_len (l : List Ev) : (knownE l).length ≤ 6 := by
  unfold knownE; split
  · rw [knL_len]; exact Nat.le_refl _
  · exact Nat.zero_le _
theorem make6 : ∀ W : World, (Instr.makeSlice 30 (.int .i64 6) (.int .i64 6)).run Tryd.prog W = .ok (.slice (some ⟨W.heap.size, 0, none⟩) 6 6) (W.alloc (.cells #[.int .i64 0, .int .i64 0, .int .i64 0, .int .i64 0, .int .i64 0, .int .i64 0] 3)) := by
  intro W
  obtain ⟨i, hi, hz0, hz1, hz2⟩ := info_parts intInfo
  have := run_make (P := Tryd.prog) W 30 3 i _ Tryd.underlying30 hi hz0 .i64 .i64 6 6 (by omega) (by omega) (by rw [hz2]; omega) (by omega)
  have hm : madeCells #[.int .i64 0] 6 = #[.int .i64 0, .int .i64 0, .int .i64 0, .int .i64 0, .int .i64 0, .int .i64 0] := by kernel_rfl
  rw [← hm]
  simpa [hz1, Value.cells] using this
theorem own6 (w : World) : (w.alloc (.cells #[.int .i64 0, .int .i64 0, .int .i64 0, .int .i64 0, .int .i64 0, .int .i64 0] 3)).ownsRow w.heap.size 3 1 (.slice (some ⟨w.heap.size, 0, none⟩) 6 6) 6 #[.int .i64 0, .int .i64 0, .int .i64 0, .int .i64 0, .int .i64 0, .int .i64 0].toList := World.ownsRow_lit w _ _ (Nat.le_refl _) (by decide) rfl
set_option maxRecDepth 100000 in
set_option maxHeartbeats 4000000 in
theorem known_any (w : World) (bm n0 : Nat) (l : List Ev) (nd : Nat) (hnd : nd ≤ 5) (hM : ME w bm n0 (mapE l)) (hq : jrnB l = true) : Calls Tryd.prog 20 #[.map (some bm), .int .i64 (nd : Int)] w fun e w' => e = .returned (.int .i64 (knK l (nd : Int) l.length)) ∧ Below w.heap.size w w' := by
  obtain ⟨k0, k9, k1, k2⟩ := knK_is hq (nd : Int) l.length (Nat.le_refl _)
  rw [List.take_length] at k1 k2
  obtain ⟨m, hm⟩ := Int.eq_ofNat_of_zero_le k0
  rw [hm] at k1 k2 k9 ⊢
  have K1 := Lib.hid k1; have K2 := Lib.hid k2; have HM0 := Lib.hid hM; clear k1 k2 hM hm k0
  go_enter Tryd.func20, Tryd.ntmps20
  go_wp2
  go_loopw [5] (fun v wr => ∃ n : Nat, n ≤ m ∧ v = .int .i64 n ∧ Below w.heap.size w wr) (fun v _ => m - (intOf v).toNat)
  case atStart => exact ⟨0, Nat.zero_le _, rfl, Below.refl _ _⟩
  case round =>
    obtain ⟨n, hn, rfl, hb⟩ := hrel
    have hsz := hb.size
    have HB := Lib.hid hb; have HM := Lib.hid (HM0.out.call hb); clear hb
    have hlook := me_look HM.out (a := (nd : Int)) (b := (n : Int) + 1) (by unfold InN; omega)
    obtain ⟨⟨z0, z1, z2, z3, z4, z5, z6⟩, hz⟩ : ∃ z, (mapE l (nd : Int) ((n : Int) + 1)).getD zeroE = z := ⟨_, rfl⟩
    rw [hz] at hlook; dsimp only [Ev.A] at hlook; clear hz
    by_cases hlt : n < m
    · have hsome : (mapE l (nd : Int) ((n : Int) + 1)).isSome = true := mapE_isSome.2 (K1.out _ (by omega) (by omega))
      rw [hsome] at hlook; clear hsome
      go_wp2
      go_roundw
      case rel => exact ⟨n + 1, by omega, by go_num, HB.out.alloc hsz _⟩
      case measure => simp [intOf]; omega
    · have hnm : n = m := by omega
      have hsome : (mapE l (nd : Int) ((n : Int) + 1)).isSome = false := by
        rw [Bool.eq_false_iff]; intro h
        exact K2.out (by rw [← hnm]; exact mapE_isSome.1 h)
      rw [hsome] at hlook; clear hsome
      have HNM := Lib.hid hnm; clear hnm
      go_wp2
      go_ret
      exact ⟨rint (by rw [HNM.out]), HB.out.alloc hsz _⟩
set_option maxRecDepth 100000 in
set_option maxHeartbeats 2000000 in
theorem knownI_bad (w : World) (B : Nat) (A : Option Addr) (c : Nat) (l : List Ev) (hl : l.length ≤ 1048576) (hB : B ≤ w.heap.size) (hS : evL w B A l) (hq : jrnB l = false) : Calls Tryd.prog 8 #[.slice A l.length c] w (AnsO (knownE l) w) := by
  have HQ := Lib.hid hq; clear hq
  have hlm : l.length ≤ maxLen := by unfold maxLen; omega
  have HLM := Lib.hid hlm; unfold maxLen at hlm
  have HS := Lib.hid hS; clear hS
  go_enter Tryd.func8, Tryd.ntmps8
  go_wp2_with (go_at_call 18; refine (jrnI_any w B A c l HLM.out hB HS.out).mono ?_; rintro e w1 ⟨rfl, hb1⟩; rw [HQ.out])
  go_ret
  exact ⟨_, _, retv (by rw [knownE_bad HQ.out]; rfl), .inl (by rw [knownE_bad HQ.out]; rfl), bthen hb1 (balloc _ _)⟩
set_option maxRecDepth 100000 in
set_option maxHeartbeats 8000000 in
theorem knownI_good (w : World) (B : Nat) (A : Option Addr) (c : Nat) (l : List Ev) (hl : l.length ≤ 1048576) (hB : B ≤ w.heap.size) (hS : evL w B A l) (hq : jrnB l = true) : Calls Tryd.prog 8 #[.slice A l.length c] w (AnsO (knownE l) w) := by
  have HQ := Lib.hid hq; clear hq
  have hlm : l.length ≤ maxLen := by unfold maxLen; omega
  have HLM := Lib.hid hlm; unfold maxLen at hlm
  have HS := Lib.hid hS; clear hS
  have hmk := make6
  go_enter Tryd.func8, Tryd.ntmps8
  go_wp2_with (first | (go_at_call 18; refine (jrnI_any w B A c l HLM.out hB HS.out).mono ?_; rintro e w1 ⟨rfl, hb1⟩; rw [HQ.out]) | (go_at_call 19; refine (byName_any w1 B A c l hl (by have := hb1.size; omega) (HS.out.later hB hb1) (fun x hx => jrn_ev HQ.out hx)).mono ?_; rintro e w2 ⟨rfl, hme, hb2⟩; have hmlt := hme.lt; have HM := Lib.hid hme; have HB2 := Lib.hid (bthen hb1 hb2); have hs1 := hb1.size; have hs2 := hb2.size; clear hme hb1 hb2))
  clear hmk
  generalize hX : (w2.alloc (.cells #[.int .i64 0, .int .i64 0, .int .i64 0, .int .i64 0, .int .i64 0, .int .i64 0] 3)) = w3
  have hb3 : Below w2.heap.size w2 w3 := by rw [← hX]; exact balloc _ _
  have hown : w3.ownsRow w2.heap.size 3 1 (.slice (some ⟨w2.heap.size, 0, none⟩) 6 6) 6 #[.int .i64 0, .int .i64 0, .int .i64 0, .int .i64 0, .int .i64 0, .int .i64 0].toList := by rw [← hX]; exact own6 w2
  clear hX
  have HM3 := Lib.hid (HM.out.call hb3); have HB3 := Lib.hid (bthen HB2.out hb3); have hs3 := hb3.size; clear hb3 HM HB2
  obtain ⟨g, hg⟩ : ∃ g, w2.heap.size = g := ⟨_, rfl⟩
  rw [hg] at hown hs2 hs3 hmlt ⊢
  have HO3 := Lib.hid hown; have hgw : w.heap.size ≤ g := by omega
  have hml := HM3.out.lt
  clear hg hown
  go_loopw [15] (fun i wr => ∃ (k : Nat) (cs : List Value), k ≤ 6 ∧ i = .int .i64 k ∧ cs.length = 6 ∧ wr.ownsRow g 3 1 (.slice (some ⟨g, 0, none⟩) 6 6) 6 cs ∧ (∀ j, j < k → cs[j]? = some (.int .i64 (knK l (j : Int) l.length))) ∧ ME wr w1.heap.size l.length (mapE l) ∧ Below w.heap.size w wr) (fun i _ => 6 - (intOf i).toNat)
  case atStart => exact ⟨0, _, Nat.zero_le _, rfl, rfl, HO3.out, fun j hj => absurd hj (by omega), HM3.out, HB3.out⟩
  case round =>
    clear HO3 HM3 HB3 hs3
    obtain ⟨k, cs, hk, rfl, hcl, hown, hcs, hme, hb⟩ := hrel
    have hsz := hb.size
    by_cases hlt : k < 6
    · have hg2 : g < wr.heap.size := (hown.lt g rfl).2
      have HO := Lib.hid hown; have HM := Lib.hid hme; have HB := Lib.hid hb; have HCS := Lib.hid hcs; have HCL := Lib.hid hcl; clear hown hme hb hcs hcl
      go_wp2_with (go_at_call 20; refine (known_any wr w1.heap.size l.length l k (by omega) HM.out HQ.out).mono ?_; rintro e w5 ⟨rfl, hb5⟩; obtain ⟨kv, hkv⟩ : ∃ v, knK l (k : Int) l.length = v := ⟨_, rfl⟩; rw [hkv]; have HKV := Lib.hid hkv; clear hkv; have HO5 := Lib.hid (own_kept HO.out hb5); have HM5 := Lib.hid (HM.out.call hb5); have HB5 := Lib.hid (HB.out.trans (hb5.mono hsz)); have hs5 := hb5.size; clear hb5; obtain ⟨u, hu⟩ : ∃ u, cs[k]? = some u := ⟨_, List.getElem?_eq_getElem (by rw [HCL.out]; exact hlt)⟩; have hc0 := (HO5.out.cellAt k (by omega)).trans hu; have hf0 := HO5.out.frozenAt k; clear hu)
      go_roundw
      case rel => exact ⟨k + 1, _, by omega, by go_num, by rw [List.length_set]; exact HCL.out, (HO5.out.stored k (.int .i64 kv)).1, (fun j hj => by
        by_cases e : k = j
        · subst e; rw [List.getElem?_set_self (by rw [HCL.out]; exact hlt), HKV.out]
        · rw [List.getElem?_set_ne e]; exact HCS.out j (by omega)), HM5.out.kept (row := some g) (HO5.out.stored k (.int .i64 kv)).2 (by simp; omega), HB5.out.setCell (by simp; omega) _⟩
      case measure => simp [intOf]; omega
    · have hkl : k = 6 := by omega
      subst hkl
      have hce : cs = intV (knL l l.length) := List.ext_getElem? fun j => by
        rcases Nat.lt_or_ge j 6 with hj | hj
        · rw [hcs j hj, intV_at (knL_at l l.length hj)]
        · rw [List.getElem?_eq_none (by omega), List.getElem?_eq_none (by rw [intV_len, knL_len]; exact hj)]
      rw [hce] at hown
      have HO := Lib.hid hown; have HB := Lib.hid hb; clear hown hb hcs hme hce hcl
      go_wp2
      go_ret
      exact ⟨_, _, retv (by rw [knownE_good HQ.out, knL_len]; rfl), by rw [knownE_good HQ.out]; exact (own_or HO.out).more hgw, HB.out⟩
theorem knownI_any (w : World) (B : Nat) (A : Option Addr) (c : Nat) (l : List Ev) (hl : l.length ≤ 1048576) (hB : B ≤ w.heap.size) (hS : evL w B A l) : Calls Tryd.prog 8 #[.slice A l.length c] w (AnsO (knownE l) w) := by
  cases hq : jrnB l
  · exact knownI_bad w B A c l hl hB hS hq
  · exact knownI_good w B A c l hl hB hS hq
set_option maxRecDepth 100000 in
set_option maxHeartbeats 2000000 in
theorem knownS_bad (w : World) (B : Nat) (A : Option Addr) (c : Nat) (l : List Ev) (hl : l.length ≤ 1048576) (hB : B ≤ w.heap.size) (hS : evL w B A l) (hq : jrnB l = false) : Calls Tryd.prog 11 #[.slice A l.length c] w (AnsO (knownE l) w) := by
  have HQ := Lib.hid hq; clear hq
  have hlm : l.length ≤ maxLen := by unfold maxLen; omega
  have HLM := Lib.hid hlm; unfold maxLen at hlm
  have HS := Lib.hid hS; clear hS
  go_enter Tryd.func11, Tryd.ntmps11
  go_wp2_with (go_at_call 16; refine (jrnS_any w B A c l HLM.out hB HS.out).mono ?_; rintro e w1 ⟨rfl, hb1⟩; rw [HQ.out])
  go_ret
  exact ⟨_, _, retv (by rw [knownE_bad HQ.out]; rfl), .inl (by rw [knownE_bad HQ.out]; rfl), bthen hb1 (balloc _ _)⟩
set_option maxRecDepth 100000 in
set_option maxHeartbeats 8000000 in
theorem knownS_good (w : World) (B : Nat) (A : Option Addr) (c : Nat) (l : List Ev) (hl : l.length ≤ 1048576) (hB : B ≤ w.heap.size) (hS : evL w B A l) (hq : jrnB l = true) : Calls Tryd.prog 11 #[.slice A l.length c] w (AnsO (knownE l) w) := by
  have HQ := Lib.hid hq; clear hq
  have hlm : l.length ≤ maxLen := by unfold maxLen; omega
  have HLM := Lib.hid hlm; unfold maxLen at hlm
  have HS := Lib.hid hS; clear hS
  have hmk := make6
  go_enter Tryd.func11, Tryd.ntmps11
  go_wp2_with (go_at_call 16; refine (jrnS_any w B A c l HLM.out hB HS.out).mono ?_; rintro e w1 ⟨rfl, hb1⟩; rw [HQ.out])
  clear hmk
  generalize hX : (w1.alloc (.cells #[.int .i64 0, .int .i64 0, .int .i64 0, .int .i64 0, .int .i64 0, .int .i64 0] 3)) = w3
  have hb3 : Below w1.heap.size w1 w3 := by rw [← hX]; exact balloc _ _
  have hown : w3.ownsRow w1.heap.size 3 1 (.slice (some ⟨w1.heap.size, 0, none⟩) 6 6) 6 #[.int .i64 0, .int .i64 0, .int .i64 0, .int .i64 0, .int .i64 0, .int .i64 0].toList := by rw [← hX]; exact own6 w1
  clear hX
  have HB3 := Lib.hid (bthen hb1 hb3); have hs1 := hb1.size; have hs3 := hb3.size; clear hb3 hb1
  obtain ⟨g, hg⟩ : ∃ g, w1.heap.size = g := ⟨_, rfl⟩
  rw [hg] at hown hs1 hs3 ⊢
  have HO3 := Lib.hid (show w3.ownsRow g 3 1 (.slice (some ⟨g, 0, none⟩) 6 6) 6 (intV (knL l 0)) from hown)
  clear hg hown
  go_loopw [4] (fun i wr => ∃ k : Nat, k ≤ l.length ∧ i = .int .i64 k ∧ wr.ownsRow g 3 1 (.slice (some ⟨g, 0, none⟩) 6 6) 6 (intV (knL l k)) ∧ Below w.heap.size w wr) (fun i _ => l.length - (intOf i).toNat)
  case atStart => exact ⟨0, Nat.zero_le _, rfl, HO3.out, HB3.out⟩
  case round =>
    clear HO3 HB3
    obtain ⟨k, hk, rfl, hown, hb⟩ := hrel
    have hsz := hb.size
    have hg2 : g < wr.heap.size := (hown.lt g rfl).2
    have HO := Lib.hid hown; have HB := Lib.hid hb; clear hown hb
    by_cases hlt : k < l.length
    · obtain ⟨b, off, ⟨x0, x1, x2, x3, x4, x5, x6⟩, rfl, hbB, hx, hc0, hc1, hc2, hc3, hc4, hc5, hc6⟩ := (HS.out.below (HB.out.mono hB)).at_ hlt
      dsimp only at hc0 hc1 hc2 hc3 hc4 hc5 hc6
      have hev := evB_facts (jrn_at HQ.out hx); dsimp only at hev
      obtain ⟨⟨n0, n5⟩, ⟨v10, v11⟩, _⟩ := hev
      obtain ⟨i, rfl⟩ := Int.eq_ofNat_of_zero_le n0
      have hi6 : i < 6 := by omega
      have hi6' : (i : Int) < 6 := by omega
      obtain ⟨kk0, kk9, _, _⟩ := knK_is HQ.out (i : Int) k (by omega)
      have hr0 := (HO.out.cellAt i (by omega)).trans (intV_at (knL_at l k hi6)); have hf0 := HO.out.frozenAt i
      obtain ⟨s, hs⟩ : ∃ s, knK l (i : Int) k = s := ⟨_, rfl⟩
      rw [hs] at hr0 kk0 kk9
      have hw9 : IntKind.i64.wrap (s + 1) = s + 1 := IntWalk.i64_in _ (by omega)
      have HSS := Lib.hid hs; have HX := Lib.hid hx; clear hs hx
      by_cases hne : x1 = s + 1
      · have hnd : (x1 == s + 1) = true := by simp [hne]
        have HNE := Lib.hid hne; clear hne
        have HKN := Lib.hid (show (intV (knL l k)).set i (.int .i64 x1) = intV (knL l (k + 1)) from List.ext_getElem? fun j => by
          rcases Nat.lt_or_ge j 6 with hj | hj
          · by_cases e : i = j
            · subst e
              rw [List.getElem?_set_self (by rw [intV_len, knL_len]; exact hj), intV_at (knL_at l (k + 1) hj), knK_succ HX.out, if_pos ⟨rfl, by rw [HSS.out]; exact HNE.out⟩]
            · rw [List.getElem?_set_ne e, intV_at (knL_at l k hj), intV_at (knL_at l (k + 1) hj), knK_succ HX.out, if_neg (by dsimp only; omega)]
          · rw [List.getElem?_eq_none (by rw [List.length_set, intV_len, knL_len]; exact hj), List.getElem?_eq_none (by rw [intV_len, knL_len]; exact hj)])
        go_wp2_with fail
        go_quiet (fail)
        rename Nat => nq0
        go_wp2_with fail
        go_region
        go_wp2_with fail
        go_roundw
        case rel => exact ⟨k + 1, by omega, by go_num, by rw [← HKN.out]; exact (HO.out.stored i (.int .i64 x1)).1, (below_drewN HB.out (nq0 + 1)).setCell (p := ⟨g, i, none⟩) (by simp; omega) (.int .i64 x1)⟩
        case measure => simp [intOf]; omega
      · have hnd : (x1 == s + 1) = false := by simp [hne]
        have HNE := Lib.hid hne; clear hne
        have HKN := Lib.hid (show knL l (k + 1) = knL l k by
          unfold knL; apply List.map_congr_left; intro j hj
          rw [knK_succ HX.out, if_neg]; dsimp only
          rintro ⟨e1, e2⟩
          rw [← e1, HSS.out] at e2; exact HNE.out e2)
        go_wp2_with fail
        go_quiet (fail)
        rename Nat => nq0
        go_wp2_with fail
        go_roundw
        case rel => exact ⟨k + 1, by omega, by go_num, by rw [HKN.out]; exact HO.out, below_drewN HB.out nq0⟩
        case measure => simp [intOf]; omega
    · have hkl : k = l.length := by omega
      subst hkl
      go_wp2
      go_ret
      exact ⟨_, _, retv (by rw [knownE_good HQ.out, knL_len]; rfl), by rw [knownE_good HQ.out]; exact (own_or HO.out).more hs1, HB.out⟩
theorem knownS_any (w : World) (B : Nat) (A : Option Addr) (c : Nat) (l : List Ev) (hl : l.length ≤ 1048576) (hB : B ≤ w.heap.size) (hS : evL w B A l) : Calls Tryd.prog 11 #[.slice A l.length c] w (AnsO (knownE l) w) := by
  cases hq : jrnB l
  · exact knownS_bad w B A c l hl hB hS hq
  · exact knownS_good w B A c l hl hB hS hq
end Go.Proofs.YtdcejkompdbliaaDoor
