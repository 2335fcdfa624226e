/- Chapter 8: ParcelsIn, both sides (gen_evv.py). -/
import Derived.Test.YtnimdbmcpbpoiaaEvU
import Derived.Test.YtnimdbmcpbpoiaaEvW
import Derived.Test.YtnimdbmcpbpoiaaShelfO
namespace Go.Proofs.Ytnimdbmcpbpoiaa
open Go.RowKit
set_option linter.unusedVariables false
theorem src_boxE (w : World) (e : TypeId) (cs : Array Value) (size : Nat) (hs : cs.size = size) (h1 : ∀ u ∈ cs.toList, u.oneCell' = true) {g : Nat} (hg : g = w.heap.size) : Src (w.alloc (.cells cs e)) (some ⟨g, 0, none⟩) 1 size cs.toList := by
  subst hg; exact src_box w e cs size hs h1
theorem compact_any (w : World) (base : Nat) (A : Option Addr) (c : Nat) (L : List Int) (h : OR w base 3 A (intV L)) (hcap : L.length ≤ c) (hl : L.length ≤ 1000000) (hb : base ≤ w.heap.size) :
    Calls Try.prog 33 #[.slice A L.length c] w fun e w' => e = .returned (.slice A (Lib.compact L).length c) ∧ OR w' base 3 A (intV (Lib.compact L)) ∧ Below base w w' := by
  rcases h with h | ⟨g, cs, rfl, hg, hH, hc⟩
  · have hnil : L = [] := intV_nil h
    subst hnil
    refine (Try.slices_Compact_int_empty A c w).mono ?_
    rintro e w' ⟨rfl, rfl⟩
    exact ⟨rfl, .inl rfl, Below.refl _ _⟩
  · have hcell : ∀ j, j < L.length → cs[j]? = some (.int .i64 L[j]!) := fun j hj => by
      refine hc j _ ?_
      rw [intV_at (List.getElem?_eq_getElem hj), getElem!_pos L j hj]
    have hHo : Sort.Holds (Value.int .i64) w g 0 L.toArray := fun j hj => by
      have hj' : j < L.length := by simpa using hj
      refine ⟨?_, by rw [Nat.zero_add]; exact has_free hH j⟩
      rw [Nat.zero_add]
      refine (has_cell hH j (hcell j hj')).trans ?_
      rw [getElem!_pos L.toArray j hj, getElem!_pos L j hj']; simp
    refine (Try.slices_Compact_int g 0 c L w hHo (by omega) hcap).mono ?_
    rintro e w' ⟨rfl, q, rfl⟩
    have hle := Lib.compact_length_le L
    obtain ⟨d, hd⟩ : ∃ d, (Lib.compact L ++ List.replicate (L.length - (Lib.compact L).length) 0).toArray = d := ⟨_, rfl⟩
    rw [hd]
    have hp := has_putRow hH q d #[]
    have hq := below_putRow w base g q d #[] hg hb
    rw [Sort.grow_empty] at hp hq
    refine ⟨rfl, .inr ⟨g, _, rfl, hg, hp, fun j u hu => ?_⟩, hq⟩
    have hj : j < (Lib.compact L).length := by have := (List.getElem?_eq_some_iff.1 hu).1; rwa [intV_len] at this
    rw [intV_at (List.getElem?_eq_getElem hj)] at hu
    rw [← hu]
    refine putCells_at (by rw [← hd, List.getElem?_toArray, List.getElem?_append_left hj]; exact List.getElem?_eq_getElem hj) ?_
    have := (Array.getElem?_eq_some_iff.1 (hcell j (by omega))).1
    exact this
set_option maxRecDepth 100000 in
set_option maxHeartbeats 2000000 in
theorem parcS_bad (w : World) (B : Nat) (A : Option Addr) (c : Nat) (l : List Ev) (hl : l.length ≤ 1048576) (hB : B ≤ w.heap.size) (hS : evL w B A l) (hq : jrnB l = false) : Calls Try.prog 19 #[.slice A l.length c] w (AnsO (parcE l) w) := by
  have HQ := Lib.hid hq; clear hq
  have hlm : l.length ≤ maxLen := by unfold maxLen; omega
  have HLM := Lib.hid hlm; unfold maxLen at hlm
  have HS := Lib.hid hS; clear hS
  go_enter Try.func19, Try.ntmps19
  go_wp2
  go_loopw [3, 4] (fun v i wr => v = .slice (some ⟨w.heap.size, 0, none⟩) 0 0 ∧ i = .int .i64 1 ∧ wr = w.alloc (.cells #[] 3)) (fun _ i _ => 0)
  case atStart => exact ⟨rfl, rfl, rfl⟩
  case round =>
    obtain ⟨rfl, rfl, rfl⟩ := hrel
    go_wp2_with (go_at_call 23; refine (jrnS_any _ B A c l HLM.out (by simp; omega) (HS.out.later hB (balloc _ _))).mono ?_; rintro e w1 ⟨rfl, hb1⟩; rw [HQ.out])
    go_ret
    exact ⟨_, _, retv (by rw [parcE_bad HQ.out]; rfl), .inl (by rw [parcE_bad HQ.out]; rfl), bthen (balloc _ _) hb1⟩
set_option maxRecDepth 100000 in
set_option maxHeartbeats 8000000 in
theorem parcS_good (w : World) (B : Nat) (A : Option Addr) (c : Nat) (l : List Ev) (hl : l.length ≤ 1048576) (hB : B ≤ w.heap.size) (hS : evL w B A l) (hq : jrnB l = true) : Calls Try.prog 19 #[.slice A l.length c] w (AnsO (parcE l) w) := by
  have HQ := Lib.hid hq; clear hq
  have hlm : l.length ≤ maxLen := by unfold maxLen; omega
  have HLM := Lib.hid hlm; unfold maxLen at hlm
  have HS := Lib.hid hS; clear hS
  obtain ⟨i0, hi0, hz0, hz1, hz2⟩ := info_parts intInfo
  have I0 := Lib.hid hi0; have Z0 := Lib.hid hz0; have Z1 := Lib.hid hz1; have Z2 := Lib.hid hz2; clear hi0 hz0 hz1 hz2
  go_enter Try.func19, Try.ntmps19
  go_wp2
  go_loopw [3, 4] (fun v i wr => ∃ k : Nat, k ≤ 999 ∧ i = .int .i64 ((k : Int) + 1) ∧ wr.ownsRow w.heap.size 3 1 v (parcN l k).length (intV (parcN l k)) ∧ Below w.heap.size w wr) (fun _ i _ => 1000 - (intOf i).toNat)
  case atStart => exact ⟨0, Nat.zero_le _, rfl, owns_new w w.heap.size 3 1 (Nat.le_refl _), balloc _ _⟩
  case round =>
    obtain ⟨k, hk, rfl, hown, hb⟩ := hrel
    have hsz := hb.size
    have HO := Lib.hid hown; have HB := Lib.hid hb; clear hown hb
    by_cases hlt : k < 999
    · have hpl := parcN_len l k
      have hk1 : (k : Int) + 1 ≤ 999 := by omega
      go_wp2_with (go_at_call 23; refine (jrnS_any _ B A c l HLM.out (by omega) (HS.out.below (HB.out.mono hB))).mono ?_; rintro e w1 ⟨rfl, hb1⟩; rw [HQ.out]; have HO1 := Lib.hid (own_kept HO.out hb1); have HB1 := Lib.hid (HB.out.trans (hb1.mono hsz)); have hs1 := HB1.out.size; clear HO HB hb1)
      rename_i uu
      obtain ⟨A2, c2, hvv, _⟩ := or_own HO1.out
      subst hvv
      go_loopw [3, 5] (fun v i wz => v = .slice A2 (parcN l k).length c2 ∧ wz = w1 ∧ ∃ j : Nat, j ≤ l.length ∧ i = .int .i64 j ∧ ∀ x ∈ l.take j, x.par ≠ (k : Int) + 1) (fun _ i _ => l.length - (intOf i).toNat)
      case atStart => exact ⟨rfl, (by first | trivial | rfl), 0, Nat.zero_le _, rfl, fun x hx => by simp at hx⟩
      case round =>
        obtain ⟨rfl, rfl, j, hj, rfl, hno⟩ := hrel
        have HNO := Lib.hid hno; clear hno
        by_cases hjl : j < l.length
        · obtain ⟨b, off, ⟨x0, x1, x2, x3, x4, x5, x6⟩, rfl, hbB, hx, hc0, hc1, hc2, hc3, hc4, hc5, hc6⟩ := (HS.out.below (HB1.out.mono hB)).at_ hjl
          dsimp only at hc0 hc1 hc2 hc3 hc4 hc5 hc6
          have HX := Lib.hid hx; clear hx
          by_cases hp : x4 = (k : Int) + 1
          · have hpd : (x4 == (k : Int) + 1) = true := by simp [hp]
            have HH := Lib.hid (show hasP l ((k : Int) + 1) = true from hasP_iff.2 ⟨_, List.mem_of_getElem? HX.out, hp⟩)
            have HPL := Lib.hid (show (parcN l (k + 1)) = parcN l k ++ [(k : Int) + 1] by rw [parcN_succ, HH.out]; rfl)
            clear hp
            go_wp2_with (at_builtin; go_must (refine list_app rfl _ _ 24 rfl w.heap.size 3 i0 (.int .i64 0) 1 8 Try.underlying24 I0.out Z0.out Z1.out Z2.out rfl (by decide) _ _ _ rfl (HO1.out.alloc _) _ 1 1 (#[.int .i64 ((k : Int) + 1)] : Array Value).toList rfl (src_box _ _ #[.int .i64 ((k : Int) + 1)] 1 rfl (by simp [Value.oneCell'])) (by unfold maxLen; omega) (by omega) (by simp; omega) ?_); intro A3 c3 w4 hown4 hgrow _; have hb4 : Below w.heap.size w w4 := (HB1.out.alloc hs1 _).grown hgrow (by simp; omega) (fun k hk => (HO1.out.lt k hk).1); have HO4 := Lib.hid hown4; have HB4 := Lib.hid hb4; clear hown4 hgrow hb4)
            go_roundw
            case rel => exact ⟨k + 1, by omega, by go_num, by rw [HPL.out]; simpa [intV] using HO4.out, HB4.out⟩
            case measure => simp [intOf]; omega
          · have hpd : (x4 == (k : Int) + 1) = false := by simp [hp]
            have HPN := Lib.hid hp; clear hp
            go_wp2_with fail
            go_roundw
            case rel => exact ⟨rfl, (by first | trivial | rfl), j + 1, by omega, by go_num, fun x hx => by
              rw [List.take_add_one, HX.out] at hx
              rcases List.mem_append.1 hx with hx | hx
              · exact HNO.out x hx
              · simp at hx; subst hx; exact HPN.out⟩
            case measure => simp [intOf]; omega
        · have hjj : j = l.length := by omega
          have HH := Lib.hid (show hasP l ((k : Int) + 1) = false by
            rw [Bool.eq_false_iff]; intro h
            obtain ⟨e, he, hpe⟩ := hasP_iff.1 h
            exact HNO.out e (by rw [hjj, List.take_length]; exact he) hpe)
          have HPL := Lib.hid (show (parcN l (k + 1)) = parcN l k by rw [parcN_succ, HH.out]; simp)
          clear hjj
          go_wp2_with fail
          go_roundw
          case rel => exact ⟨k + 1, by omega, by go_num, by rw [HPL.out]; exact HO1.out, HB1.out⟩
          case measure => simp [intOf]; omega
    · have hkl : k = 999 := by omega
      subst hkl
      obtain ⟨A2, c2, rfl, hor⟩ := or_own HO.out
      have HOR := Lib.hid hor; clear hor HO
      go_wp2
      go_ret
      exact ⟨A2, c2, retv (by rw [parcE_good HQ.out]; rfl), by rw [parcE_good HQ.out]; exact HOR.out, HB.out⟩
theorem parcS_any (w : World) (B : Nat) (A : Option Addr) (c : Nat) (l : List Ev) (hl : l.length ≤ 1048576) (hB : B ≤ w.heap.size) (hS : evL w B A l) : Calls Try.prog 19 #[.slice A l.length c] w (AnsO (parcE l) w) := by
  cases hq : jrnB l
  · exact parcS_bad w B A c l hl hB hS hq
  · exact parcS_good w B A c l hl hB hS hq
set_option maxRecDepth 100000 in
set_option maxHeartbeats 2000000 in
theorem parcI_bad (w : World) (B : Nat) (A : Option Addr) (c : Nat) (l : List Ev) (hl : l.length ≤ 1048576) (hB : B ≤ w.heap.size) (hS : evL w B A l) (hq : jrnB l = false) : Calls Try.prog 20 #[.slice A l.length c] w (AnsO (parcE l) w) := by
  have HQ := Lib.hid hq; clear hq
  have hlm : l.length ≤ maxLen := by unfold maxLen; omega
  have HLM := Lib.hid hlm; unfold maxLen at hlm
  have HS := Lib.hid hS; clear hS
  go_enter Try.func20, Try.ntmps20
  go_wp2_with (go_at_call 25; refine (jrnI_any _ B A c l HLM.out (by simp; omega) (HS.out.later hB (balloc _ _))).mono ?_; rintro e w1 ⟨rfl, hb1⟩; rw [HQ.out])
  go_ret
  exact ⟨_, _, retv (by rw [parcE_bad HQ.out]; rfl), .inl (by rw [parcE_bad HQ.out]; rfl), bthen (balloc _ _) hb1⟩
set_option maxRecDepth 100000 in
set_option maxHeartbeats 8000000 in
theorem parcI_good (w : World) (B : Nat) (A : Option Addr) (c : Nat) (l : List Ev) (hl : l.length ≤ 1048576) (hB : B ≤ w.heap.size) (hS : evL w B A l) (hq : jrnB l = true) : Calls Try.prog 20 #[.slice A l.length c] w (AnsO (parcE l) w) := by
  have hl60 := jrn_len hq
  have HQ := Lib.hid hq; clear hq
  have hlm : l.length ≤ maxLen := by unfold maxLen; omega
  have HLM := Lib.hid hlm; unfold maxLen at hlm
  have HS := Lib.hid hS; clear hS
  obtain ⟨i0, hi0, hz0, hz1, hz2⟩ := info_parts intInfo
  have I0 := Lib.hid hi0; have Z0 := Lib.hid hz0; have Z1 := Lib.hid hz1; have Z2 := Lib.hid hz2; clear hi0 hz0 hz1 hz2
  go_enter Try.func20, Try.ntmps20
  go_wp2_with (go_at_call 25; refine (jrnI_any _ B A c l HLM.out (by simp; omega) (HS.out.later hB (balloc _ _))).mono ?_; rintro e w1 ⟨rfl, hb1⟩; rw [HQ.out])
  have HB1 := Lib.hid (bthen (balloc w (.cells #[] 3)) hb1)
  have HO1 := Lib.hid (own_kept (owns_new w w.heap.size 3 1 (Nat.le_refl _)) hb1); clear hb1
  go_loopw [3, 13] (fun v i wr => ∃ k : Nat, k ≤ l.length ∧ i = .int .i64 k ∧ wr.ownsRow w.heap.size 3 1 v k (intV ((l.take k).map Ev.par)) ∧ Below w.heap.size w wr) (fun _ i _ => l.length - (intOf i).toNat)
  case atStart => exact ⟨0, Nat.zero_le _, rfl, HO1.out, HB1.out⟩
  case round =>
    clear HO1 HB1
    obtain ⟨k, hk, rfl, hown, hb⟩ := hrel
    have hsz := hb.size
    have HO := Lib.hid hown; have HB := Lib.hid hb; clear hown hb
    by_cases hlt : k < l.length
    · obtain ⟨b, off, ⟨x0, x1, x2, x3, x4, x5, x6⟩, rfl, hbB, hx, hc0, hc1, hc2, hc3, hc4, hc5, hc6⟩ := (HS.out.below (HB.out.mono hB)).at_ hlt
      dsimp only at hc0 hc1 hc2 hc3 hc4 hc5 hc6
      have HX := Lib.hid hx; clear hx
      have HO1 := Lib.hid (own_kept HO.out (balloc wr (.cells #[.int .i64 x0, .int .i64 x1, .int .i64 x2, .int .i64 x3, .int .i64 x4, .int .i64 x5, .int .i64 x6] 41))); have HB1 := Lib.hid (HB.out.alloc hsz (.cells #[.int .i64 x0, .int .i64 x1, .int .i64 x2, .int .i64 x3, .int .i64 x4, .int .i64 x5, .int .i64 x6] 41)); clear HO HB
      have hs1 : w.heap.size ≤ (wr.alloc (.cells #[.int .i64 x0, .int .i64 x1, .int .i64 x2, .int .i64 x3, .int .i64 x4, .int .i64 x5, .int .i64 x6] 41)).heap.size := HB1.out.size
      have hXT := Lib.hid (show (l.take (k + 1)).map Ev.par = (l.take k).map Ev.par ++ [x4] by rw [List.take_add_one, HX.out]; simp)
      go_wp2_with (at_builtin; go_must (refine list_app rfl _ _ 24 rfl w.heap.size 3 i0 (.int .i64 0) 1 8 Try.underlying24 I0.out Z0.out Z1.out Z2.out rfl (by decide) _ _ _ rfl (HO1.out.alloc _) _ 1 1 (#[.int .i64 x4] : Array Value).toList rfl (src_boxE (wr.alloc (.cells #[.int .i64 x0, .int .i64 x1, .int .i64 x2, .int .i64 x3, .int .i64 x4, .int .i64 x5, .int .i64 x6] 41)) _ #[.int .i64 x4] 1 rfl (by simp [Value.oneCell']) (by simp)) (by unfold maxLen; omega) (by omega) (by simp; omega) ?_); intro A3 c3 w4 hown4 hgrow _; have hb4 : Below w.heap.size w w4 := (HB1.out.alloc hs1 _).grown hgrow (by simp; omega) (fun k hk => (HO1.out.lt k hk).1); have HO4 := Lib.hid hown4; have HB4 := Lib.hid hb4; clear hown4 hgrow hb4)
      go_roundw
      case rel => exact ⟨k + 1, by omega, by go_num, by rw [hXT.out]; simpa [intV] using HO4.out, HB4.out⟩
      case measure => simp [intOf]; omega
    · have hkl : k = l.length := by omega
      subst hkl
      have hown2 : wr.ownsRow w.heap.size 3 1 u3 (l.map Ev.par).length (intV (l.map Ev.par)) := by have h := HO.out; rw [List.take_length] at h; rw [List.length_map]; exact h
      obtain ⟨A2, c2, hvv, _⟩ := or_own hown2
      subst hvv
      have hcap : (l.map Ev.par).length ≤ c2 := by
        rcases hown2.2 with ⟨e, h0⟩ | ⟨g, cap, cur, e, _, _, hcap, _⟩
        · rw [h0]; exact Nat.zero_le _
        · injection e with _ _ e3; rw [e3]; exact hcap
      have hml : (l.map Ev.par).length = l.length := List.length_map _
      have HO2 := Lib.hid hown2; have HCP := Lib.hid hcap; have HML := Lib.hid hml; clear hown2 hcap HO
      rw [hml]
      clear hml
      go_wp2_with fail
      have hso := sort_any wr w.heap.size A2 c2 (l.map Ev.par) HO2.out (by rw [HML.out]; omega) hsz
      rw [HML.out] at hso
      refine hso.mono ?_
      rintro e w2 ⟨rfl, hor, hb2⟩
      have HOR := Lib.hid hor; have HB2 := Lib.hid (HB.out.trans hb2); have hs2 := HB2.out.size; clear hor hb2 hso
      go_wp2_with fail
      have hco := compact_any w2 w.heap.size A2 c2 (sortL (l.map Ev.par)) HOR.out (by rw [sortL_len]; exact HCP.out) (by rw [sortL_len, HML.out]; omega) hs2
      rw [sortL_len, HML.out, parc_compact HQ.out] at hco
      refine hco.mono ?_
      rintro e w3 ⟨rfl, hor, hb3⟩
      have HOR3 := Lib.hid hor; have HB3 := Lib.hid (HB2.out.trans hb3); clear hor hb3 hco
      go_wp2
      go_ret
      exact ⟨A2, c2, retv (by rw [parcE_good HQ.out]; rfl), by rw [parcE_good HQ.out]; exact HOR3.out, HB3.out⟩
theorem parcI_any (w : World) (B : Nat) (A : Option Addr) (c : Nat) (l : List Ev) (hl : l.length ≤ 1048576) (hB : B ≤ w.heap.size) (hS : evL w B A l) : Calls Try.prog 20 #[.slice A l.length c] w (AnsO (parcE l) w) := by
  cases hq : jrnB l
  · exact parcI_bad w B A c l hl hB hS hq
  · exact parcI_good w B A c l hl hB hS hq
end Go.Proofs.Ytnimdbmcpbpoiaa
