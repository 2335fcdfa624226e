/- Chapter 8: contracts of DeltaFor, both sides (gen_evd.py). -/
import Derived.Test.YtdcejkompdbliaaDoorEvA
import Derived.Test.YtdcejkompdbliaaDoorEvK
import Derived.Test.YtdcejkompdbliaaDoorGraC
namespace Go.Proofs.YtdcejkompdbliaaDoor
open Go.RowKit
set_option linter.unusedVariables false
/-- the answer is a list of events -/
def AnsE (R : List Ev) (w : World) (e : Ending) (w' : World) : Prop := ∃ A' c', e = .returned (.slice A' R.length c') ∧ OR w' w.heap.size 40 A' (evV R) ∧ Below w.heap.size w w'
theorem src_ev {w : World} {B : Nat} {A : Option Addr} {l : List Ev} (h : evL w B A l) : Src w A l.length 7 (evV l) where
  len := by rw [evV_len]; omega
  one := ev_one
  nil := fun e => by subst e; rw [ev_none h]; rfl
  at_ := fun ad e j u hu => by subst e; exact ev_news h j u hu
def newE (ks : List Int) (e : Ev) : Bool := decide ((ks[e.nod.toNat]?).getD 0 < e.seq)
def delN (l : List Ev) (ks : List Int) (k : Nat) : List Ev := (l.take k).filter (newE ks)
def deltaE (l : List Ev) (ks : List Int) : List Ev := if jrnB l && (ks.length == 6) then l.filter (newE ks) else []
theorem delN_yes {l : List Ev} {ks : List Int} {k : Nat} {x : Ev} (hx : l[k]? = some x) (h : newE ks x = true) : delN l ks (k + 1) = delN l ks k ++ [x] := by
  unfold delN; rw [List.take_add_one, hx]; simp [h]
theorem delN_no {l : List Ev} {ks : List Int} {k : Nat} {x : Ev} (hx : l[k]? = some x) (h : newE ks x = false) : delN l ks (k + 1) = delN l ks k := by
  unfold delN; rw [List.take_add_one, hx]; simp [h]
theorem delN_len (l : List Ev) (ks : List Int) (k : Nat) : (delN l ks k).length ≤ k := by
  unfold delN; exact Nat.le_trans (List.length_filter_le _ _) (List.length_take_le _ _)
theorem deltaE_len (l : List Ev) (ks : List Int) : (deltaE l ks).length ≤ l.length := by
  unfold deltaE; split
  · exact List.length_filter_le _ _
  · exact Nat.zero_le _
theorem deltaE_bad {l : List Ev} {ks : List Int} (h : jrnB l = false ∨ ks.length ≠ 6) : deltaE l ks = [] := by
  unfold deltaE; rw [if_neg]; rcases h with h | h <;> simp [h]
theorem deltaE_good {l : List Ev} {ks : List Int} (h : jrnB l = true) (h6 : ks.length = 6) : deltaE l ks = delN l ks l.length := by
  unfold deltaE delN; rw [if_pos (by simp [h, h6]), List.take_length]
theorem deltaE_sub {l : List Ev} {ks : List Int} : (deltaE l ks).Sublist l := by
  unfold deltaE; split
  · exact List.filter_sublist
  · exact List.nil_sublist _
theorem ev_own_new (w : World) (base : Nat) (h : base ≤ w.heap.size) : (w.alloc (.cells #[] 40)).ownsRow base 40 7 (.slice (some ⟨w.heap.size, 0, none⟩) 0 0) 0 (evV []) := owns_new w base _ 7 h

theorem own_drewN {w : World} {base size n : Nat} {e : TypeId} {v : Value} {xs : List Value} (h : w.ownsRow base e size v n xs) (m : Nat) : (w.drewN m).ownsRow base e size v n xs := h
set_option maxRecDepth 100000 in
set_option maxHeartbeats 2000000 in
theorem deltaI_a (w : World) (B B2 : Nat) (A A2 : Option Addr) (c c2 : Nat) (l : List Ev) (ks : List Int) (hl : l.length ≤ 1048576) (hk6 : ks.length ≤ maxLen) (hB : B ≤ w.heap.size) (hB2 : B2 ≤ w.heap.size) (hS : evL w B A l) (hK : IL w B2 A2 ks) (hq : jrnB l = false) : Calls Tryd.prog 7 #[.slice A l.length c, .slice A2 ks.length c2] w (AnsE (deltaE l ks) w) := by
  have HQ := Lib.hid hq; clear hq
  have hlm : l.length ≤ maxLen := by unfold maxLen; omega
  have HS := Lib.hid hS; clear hS
  have HLM := Lib.hid hlm; unfold maxLen at hlm hk6
  go_enter Tryd.func7, Tryd.ntmps7
  go_wp2_with (go_at_call 18; refine (jrnI_any _ B A c l HLM.out (by simp; omega) (HS.out.later hB (balloc _ _))).mono ?_; rintro e w1 ⟨rfl, hb1⟩; rw [HQ.out])
  go_ret
  exact ⟨_, _, retv (by rw [deltaE_bad (.inl HQ.out)]; rfl), .inl (by rw [deltaE_bad (.inl HQ.out)]; rfl), bthen (balloc _ _) hb1⟩
set_option maxRecDepth 100000 in
set_option maxHeartbeats 2000000 in
theorem deltaI_b (w : World) (B B2 : Nat) (A A2 : Option Addr) (c c2 : Nat) (l : List Ev) (ks : List Int) (hl : l.length ≤ 1048576) (hk6 : ks.length ≤ maxLen) (hB : B ≤ w.heap.size) (hB2 : B2 ≤ w.heap.size) (hS : evL w B A l) (hK : IL w B2 A2 ks) (hq : jrnB l = true) (h6 : ks.length ≠ 6) : Calls Tryd.prog 7 #[.slice A l.length c, .slice A2 ks.length c2] w (AnsE (deltaE l ks) w) := by
  have HQ := Lib.hid hq; clear hq
  have e6 : ((ks.length : Int) == 6) = false := by simp; omega
  have e6b : ((ks.length : Int) != 6) = true := by simp; omega
  have H6 := Lib.hid h6; clear h6
  have hlm : l.length ≤ maxLen := by unfold maxLen; omega
  have HS := Lib.hid hS; clear hS
  have HLM := Lib.hid hlm; unfold maxLen at hlm hk6
  go_enter Tryd.func7, Tryd.ntmps7
  go_wp2_with (go_at_call 18; refine (jrnI_any _ B A c l HLM.out (by simp; omega) (HS.out.later hB (balloc _ _))).mono ?_; rintro e w1 ⟨rfl, hb1⟩; rw [HQ.out])
  go_ret
  exact ⟨_, _, retv (by rw [deltaE_bad (.inr H6.out)]; rfl), .inl (by rw [deltaE_bad (.inr H6.out)]; rfl), bthen (balloc _ _) hb1⟩
set_option maxRecDepth 100000 in
set_option maxHeartbeats 8000000 in
theorem deltaI_c (w : World) (B B2 : Nat) (A A2 : Option Addr) (c c2 : Nat) (l : List Ev) (ks : List Int) (hl : l.length ≤ 1048576) (hk6 : ks.length ≤ maxLen) (hB : B ≤ w.heap.size) (hB2 : B2 ≤ w.heap.size) (hS : evL w B A l) (hK : IL w B2 A2 ks) (hq : jrnB l = true) (h6 : ks.length = 6) : Calls Tryd.prog 7 #[.slice A l.length c, .slice A2 ks.length c2] w (AnsE (deltaE l ks) w) := by
  have HQ := Lib.hid hq
  have e6 : ((ks.length : Int) == 6) = true := by simp; omega
  have e6b : ((ks.length : Int) != 6) = false := by simp; omega
  have H6 := Lib.hid h6; clear h6
  have hlm : l.length ≤ maxLen := by unfold maxLen; omega
  have HS := Lib.hid hS; have HK := Lib.hid hK; clear hS hK hq
  have HLM := Lib.hid hlm; unfold maxLen at hlm hk6
  obtain ⟨i0, hi0, hz0, hz1, hz2⟩ := info_parts evInfo
  have I0 := Lib.hid hi0; have Z0 := Lib.hid hz0; have Z1 := Lib.hid hz1; have Z2 := Lib.hid hz2; clear hi0 hz0 hz1 hz2
  go_enter Tryd.func7, Tryd.ntmps7
  go_wp2_with (go_at_call 18; refine (jrnI_any _ B A c l HLM.out (by simp; omega) (HS.out.later hB (balloc _ _))).mono ?_; rintro e w1 ⟨rfl, hb1⟩; rw [HQ.out])
  have HB1 := Lib.hid (bthen (balloc w (.cells #[] 40)) hb1)
  have HO1 := Lib.hid (own_kept (ev_own_new w w.heap.size (Nat.le_refl _)) hb1); clear hb1
  clear e6 e6b
  go_loopw [5, 20] (fun v i wr => ∃ k : Nat, k ≤ l.length ∧ i = .int .i64 k ∧ wr.ownsRow w.heap.size 40 7 v (delN l ks k).length (evV (delN l ks k)) ∧ Below w.heap.size w wr) (fun _ i _ => l.length - (intOf i).toNat)
  case atStart => exact ⟨0, Nat.zero_le _, rfl, HO1.out, HB1.out⟩
  case round =>
    clear HO1 HB1
    obtain ⟨k, hk, rfl, hown, hb⟩ := hrel
    have hsz := hb.size
    have HO := Lib.hid hown; have HB := Lib.hid hb; clear hown hb
    by_cases hlt : k < l.length
    · obtain ⟨b, off, ⟨x0, x1, x2, x3, x4, x5, x6⟩, hA, hbB, hx, hc0, hc1, hc2, hc3, hc4, hc5, hc6⟩ := (HS.out.below (HB.out.mono hB)).at_ hlt
      dsimp only at hc0 hc1 hc2 hc3 hc4 hc5 hc6
      have hev := evB_facts (jrn_at HQ.out hx)
      dsimp only at hev
      obtain ⟨⟨n0, n5⟩, _⟩ := hev
      obtain ⟨i, rfl⟩ := Int.eq_ofNat_of_zero_le n0
      have hi6 : i < ks.length := by rw [H6.out]; omega
      obtain ⟨b2, off2, y, hA2, hbB2, hy, hd⟩ := (HK.out.below (HB.out.mono hB2)).at_ hi6
      have HX := Lib.hid hx; have HY := Lib.hid hy; clear hx hy
      have hnew : newE ks ⟨i, x1, x2, x3, x4, x5, x6⟩ = decide (y < x1) := by show decide ((ks[(i : Int).toNat]?).getD 0 < x1) = _; rw [Int.toNat_natCast, HY.out]; rfl
      have HN := Lib.hid hnew; clear hnew
      have HSA := Lib.hid hA; have HSA2 := Lib.hid hA2; clear hA hA2
      have hA := HSA.out; have hA2 := HSA2.out; subst hA hA2; clear HSA HSA2
      have hlen := delN_len l ks k
      have hii : (i : Int) < ks.length := by omega
      have hi0 : (0 : Int) ≤ i := by omega
      go_wp2_with fail
      generalize hX : (wr.alloc (.cells #[.int .i64 (i : Int), .int .i64 x1, .int .i64 x2, .int .i64 x3, .int .i64 x4, .int .i64 x5, .int .i64 x6] 40)) = w1
      have hb1 : Below wr.heap.size wr w1 := by rw [← hX]; exact balloc _ _
      have za : Has w1 wr.heap.size 40 #[.int .i64 (i : Int), .int .i64 x1, .int .i64 x2, .int .i64 x3, .int .i64 x4, .int .i64 x5, .int .i64 x6] := by rw [← hX]; exact has_new _ _ _
      clear hX
      have q0 := has_cell za 0 rfl; have q1 := has_cell za 1 rfl; have q2 := has_cell za 2 rfl; have q3 := has_cell za 3 rfl; have q4 := has_cell za 4 rfl; have q5 := has_cell za 5 rfl; have q6 := has_cell za 6 rfl
      have HO1 := Lib.hid (own_kept HO.out hb1); have HB1 := Lib.hid (HB.out.trans (hb1.mono hsz)); have hs1 := HB1.out.size; clear HO HB
      replace hd := (bold hb1 _ _ (by omega)).trans hd; have hzl := has_lt za; clear hb1 za
      clear hc0 hc1 hc2 hc3 hc4 hc5 hc6
      go_quiet (fail)
      rename Nat => nq0
      have HB2 := Lib.hid (below_drewN HB1.out nq0); clear HB1
      by_cases hyx : y < x1
      · skip
        have HN2 := Lib.hid (HN.out.trans (decide_eq_true hyx)); clear HN
        go_wp2_with (at_builtin; go_must (refine list_app rfl _ _ 24 rfl w.heap.size 40 i0 (.agg #[.int .i64 0, .int .i64 0, .int .i64 0, .int .i64 0, .int .i64 0, .int .i64 0, .int .i64 0]) 7 56 Tryd.underlying24 I0.out Z0.out Z1.out Z2.out rfl (by decide) _ (delN l ks k).length (evV (delN l ks k)) rfl (own_drewN HO1.out nq0 |>.alloc _) _ 1 1 #[.int .i64 (i : Int), .int .i64 x1, .int .i64 x2, .int .i64 x3, .int .i64 x4, .int .i64 x5, .int .i64 x6].toList rfl (src_box _ _ #[.int .i64 (i : Int), .int .i64 x1, .int .i64 x2, .int .i64 x3, .int .i64 x4, .int .i64 x5, .int .i64 x6] 7 rfl (by simp [Value.oneCell'])) (by unfold maxLen; omega) (by omega) (by simp; omega) ?_))
        intro A3 c3 w4 hown4 hgrow _
        have hb4 : Below w.heap.size w w4 := (HB2.out.alloc (by simp; omega) _).grown hgrow (by simp; omega) (fun k hk => (HO1.out.lt k hk).1)
        have HO4 := Lib.hid hown4; have HB4 := Lib.hid hb4; clear hown4 hgrow hb4
        go_wp2_with fail
        go_roundw
        case rel => exact ⟨k + 1, by omega, by go_num, by rw [delN_yes HX.out HN2.out, evV_app, evV_one]; simpa using HO4.out, HB4.out⟩
        case measure => simp [intOf]; omega
      · skip
        have HN2 := Lib.hid (HN.out.trans (decide_eq_false hyx)); clear HN
        go_wp2_with fail
        go_roundw
        case rel => exact ⟨k + 1, by omega, by go_num, by rw [delN_no HX.out HN2.out]; exact own_drewN HO1.out nq0, HB2.out⟩
        case measure => simp [intOf]; omega
    · have hkl : k = l.length := by omega
      subst hkl
      obtain ⟨A3, c3, rfl, hor⟩ := or_own HO.out
      have HOR := Lib.hid hor; clear hor HO
      go_wp2
      go_ret
      exact ⟨A3, c3, retv (by rw [deltaE_good HQ.out H6.out]; rfl), by rw [deltaE_good HQ.out H6.out]; exact HOR.out, HB.out⟩
theorem deltaI_any (w : World) (B B2 : Nat) (A A2 : Option Addr) (c c2 : Nat) (l : List Ev) (ks : List Int) (hl : l.length ≤ 1048576) (hk6 : ks.length ≤ maxLen) (hB : B ≤ w.heap.size) (hB2 : B2 ≤ w.heap.size) (hS : evL w B A l) (hK : IL w B2 A2 ks) : Calls Tryd.prog 7 #[.slice A l.length c, .slice A2 ks.length c2] w (AnsE (deltaE l ks) w) := by
  cases hq : jrnB l
  · exact deltaI_a w B B2 A A2 c c2 l ks hl hk6 hB hB2 hS hK hq
  · by_cases h6 : ks.length = 6
    · exact deltaI_c w B B2 A A2 c c2 l ks hl hk6 hB hB2 hS hK hq h6
    · exact deltaI_b w B B2 A A2 c c2 l ks hl hk6 hB hB2 hS hK hq h6
set_option maxRecDepth 100000 in
set_option maxHeartbeats 2000000 in
theorem deltaS_a (w : World) (B B2 : Nat) (A A2 : Option Addr) (c c2 : Nat) (l : List Ev) (ks : List Int) (hl : l.length ≤ 1048576) (hk6 : ks.length ≤ maxLen) (hB : B ≤ w.heap.size) (hB2 : B2 ≤ w.heap.size) (hS : evL w B A l) (hK : IL w B2 A2 ks) (hq : jrnB l = false) : Calls Tryd.prog 10 #[.slice A l.length c, .slice A2 ks.length c2] w (AnsE (deltaE l ks) w) := by
  have HQ := Lib.hid hq; clear hq
  have hlm : l.length ≤ maxLen := by unfold maxLen; omega
  have HS := Lib.hid hS; clear hS
  have HLM := Lib.hid hlm; unfold maxLen at hlm hk6
  go_enter Tryd.func10, Tryd.ntmps10
  go_wp2
  go_loopw [5, 6] (fun v i wr => v = .slice (some ⟨w.heap.size, 0, none⟩) 0 0 ∧ i = .int .i64 0 ∧ wr = w.alloc (.cells #[] 40)) (fun _ i _ => 0)
  case atStart => exact ⟨rfl, rfl, rfl⟩
  case round =>
    obtain ⟨rfl, rfl, rfl⟩ := hrel
    by_cases h0 : 0 < l.length
    · go_wp2_with (go_at_call 16; refine (jrnS_any _ B A c l HLM.out (by simp; omega) (HS.out.later hB (balloc _ _))).mono ?_; rintro e w1 ⟨rfl, hb1⟩; rw [HQ.out])
      go_ret
      exact ⟨_, _, retv (by rw [deltaE_bad (.inl HQ.out)]; rfl), .inl (by rw [deltaE_bad (.inl HQ.out)]; rfl), bthen (balloc _ _) hb1⟩
    · go_wp2
      go_ret
      exact ⟨_, _, retv (by rw [deltaE_bad (.inl HQ.out)]; rfl), .inl (by rw [deltaE_bad (.inl HQ.out)]; rfl), balloc _ _⟩
set_option maxRecDepth 100000 in
set_option maxHeartbeats 2000000 in
theorem deltaS_b (w : World) (B B2 : Nat) (A A2 : Option Addr) (c c2 : Nat) (l : List Ev) (ks : List Int) (hl : l.length ≤ 1048576) (hk6 : ks.length ≤ maxLen) (hB : B ≤ w.heap.size) (hB2 : B2 ≤ w.heap.size) (hS : evL w B A l) (hK : IL w B2 A2 ks) (hq : jrnB l = true) (h6 : ks.length ≠ 6) : Calls Tryd.prog 10 #[.slice A l.length c, .slice A2 ks.length c2] w (AnsE (deltaE l ks) w) := by
  have HQ := Lib.hid hq; clear hq
  have e6 : ((ks.length : Int) == 6) = false := by simp; omega
  have e6b : ((ks.length : Int) != 6) = true := by simp; omega
  have H6 := Lib.hid h6; clear h6
  have hlm : l.length ≤ maxLen := by unfold maxLen; omega
  have HS := Lib.hid hS; clear hS
  have HLM := Lib.hid hlm; unfold maxLen at hlm hk6
  go_enter Tryd.func10, Tryd.ntmps10
  go_wp2
  go_loopw [5, 6] (fun v i wr => v = .slice (some ⟨w.heap.size, 0, none⟩) 0 0 ∧ i = .int .i64 0 ∧ wr = w.alloc (.cells #[] 40)) (fun _ i _ => 0)
  case atStart => exact ⟨rfl, rfl, rfl⟩
  case round =>
    obtain ⟨rfl, rfl, rfl⟩ := hrel
    by_cases h0 : 0 < l.length
    · go_wp2_with (go_at_call 16; refine (jrnS_any _ B A c l HLM.out (by simp; omega) (HS.out.later hB (balloc _ _))).mono ?_; rintro e w1 ⟨rfl, hb1⟩; rw [HQ.out])
      go_ret
      exact ⟨_, _, retv (by rw [deltaE_bad (.inr H6.out)]; rfl), .inl (by rw [deltaE_bad (.inr H6.out)]; rfl), bthen (balloc _ _) hb1⟩
    · go_wp2
      go_ret
      exact ⟨_, _, retv (by rw [deltaE_bad (.inr H6.out)]; rfl), .inl (by rw [deltaE_bad (.inr H6.out)]; rfl), balloc _ _⟩
set_option maxRecDepth 100000 in
set_option maxHeartbeats 8000000 in
theorem deltaS_c (w : World) (B B2 : Nat) (A A2 : Option Addr) (c c2 : Nat) (l : List Ev) (ks : List Int) (hl : l.length ≤ 1048576) (hk6 : ks.length ≤ maxLen) (hB : B ≤ w.heap.size) (hB2 : B2 ≤ w.heap.size) (hS : evL w B A l) (hK : IL w B2 A2 ks) (hq : jrnB l = true) (h6 : ks.length = 6) : Calls Tryd.prog 10 #[.slice A l.length c, .slice A2 ks.length c2] w (AnsE (deltaE l ks) w) := by
  have HQ := Lib.hid hq
  have e6 : ((ks.length : Int) == 6) = true := by simp; omega
  have e6b : ((ks.length : Int) != 6) = false := by simp; omega
  have H6 := Lib.hid h6; clear h6
  have hlm : l.length ≤ maxLen := by unfold maxLen; omega
  have HS := Lib.hid hS; have HK := Lib.hid hK; clear hS hK hq
  have HLM := Lib.hid hlm; unfold maxLen at hlm hk6
  obtain ⟨i0, hi0, hz0, hz1, hz2⟩ := info_parts evInfo
  have I0 := Lib.hid hi0; have Z0 := Lib.hid hz0; have Z1 := Lib.hid hz1; have Z2 := Lib.hid hz2; clear hi0 hz0 hz1 hz2
  go_enter Tryd.func10, Tryd.ntmps10
  go_wp2
  have HB1 := Lib.hid (balloc w (.cells #[] 40))
  have HO1 := Lib.hid (ev_own_new w w.heap.size (Nat.le_refl _))
  skip
  go_loopw [5, 6] (fun v i wr => ∃ k : Nat, k ≤ l.length ∧ i = .int .i64 k ∧ wr.ownsRow w.heap.size 40 7 v (delN l ks k).length (evV (delN l ks k)) ∧ Below w.heap.size w wr) (fun _ i _ => l.length - (intOf i).toNat)
  case atStart => exact ⟨0, Nat.zero_le _, rfl, HO1.out, HB1.out⟩
  case round =>
    clear HO1 HB1
    obtain ⟨k, hk, rfl, hown, hb⟩ := hrel
    have hsz := hb.size
    have HO := Lib.hid hown; have HB := Lib.hid hb; clear hown hb
    by_cases hlt : k < l.length
    · obtain ⟨b, off, ⟨x0, x1, x2, x3, x4, x5, x6⟩, hA, hbB, hx, hc0, hc1, hc2, hc3, hc4, hc5, hc6⟩ := (HS.out.below (HB.out.mono hB)).at_ hlt
      dsimp only at hc0 hc1 hc2 hc3 hc4 hc5 hc6
      have hev := evB_facts (jrn_at HQ.out hx)
      dsimp only at hev
      obtain ⟨⟨n0, n5⟩, _⟩ := hev
      obtain ⟨i, rfl⟩ := Int.eq_ofNat_of_zero_le n0
      have hi6 : i < ks.length := by rw [H6.out]; omega
      obtain ⟨b2, off2, y, hA2, hbB2, hy, hd⟩ := (HK.out.below (HB.out.mono hB2)).at_ hi6
      have HX := Lib.hid hx; have HY := Lib.hid hy; clear hx hy
      have hnew : newE ks ⟨i, x1, x2, x3, x4, x5, x6⟩ = decide (y < x1) := by show decide ((ks[(i : Int).toNat]?).getD 0 < x1) = _; rw [Int.toNat_natCast, HY.out]; rfl
      have HN := Lib.hid hnew; clear hnew
      have HSA := Lib.hid hA; have HSA2 := Lib.hid hA2; clear hA hA2
      have hA := HSA.out; have hA2 := HSA2.out; subst hA hA2; clear HSA HSA2
      have hlen := delN_len l ks k
      have hii : (i : Int) < ks.length := by omega
      have hi0 : (0 : Int) ≤ i := by omega
      go_wp2_with (go_at_call 16; refine (jrnS_any _ B _ c l HLM.out (by omega) (HS.out.below (HB.out.mono hB))).mono ?_; rintro e w1 ⟨rfl, hb1⟩; rw [HQ.out])
      have HO1 := Lib.hid (own_kept HO.out hb1); have HB1 := Lib.hid (HB.out.trans (hb1.mono hsz)); have hs1 := HB1.out.size; clear HO HB
      replace hc0 := (bold hb1 _ _ (by omega)).trans hc0; replace hc1 := (bold hb1 _ _ (by omega)).trans hc1; replace hc2 := (bold hb1 _ _ (by omega)).trans hc2; replace hc3 := (bold hb1 _ _ (by omega)).trans hc3; replace hc4 := (bold hb1 _ _ (by omega)).trans hc4; replace hc5 := (bold hb1 _ _ (by omega)).trans hc5; replace hc6 := (bold hb1 _ _ (by omega)).trans hc6; replace hd := (bold hb1 _ _ (by omega)).trans hd; clear hb1
      go_quiet (fail)
      rename Nat => nq0
      have HB2 := Lib.hid (below_drewN HB1.out nq0); clear HB1
      by_cases hyx : y < x1
      · skip
        have HN2 := Lib.hid (HN.out.trans (decide_eq_true hyx)); clear HN
        go_wp2_with (at_builtin; go_must (refine list_app rfl _ _ 24 rfl w.heap.size 40 i0 (.agg #[.int .i64 0, .int .i64 0, .int .i64 0, .int .i64 0, .int .i64 0, .int .i64 0, .int .i64 0]) 7 56 Tryd.underlying24 I0.out Z0.out Z1.out Z2.out rfl (by decide) _ (delN l ks k).length (evV (delN l ks k)) rfl (own_drewN HO1.out nq0 |>.alloc _) _ 1 1 #[.int .i64 (i : Int), .int .i64 x1, .int .i64 x2, .int .i64 x3, .int .i64 x4, .int .i64 x5, .int .i64 x6].toList rfl (src_box _ _ #[.int .i64 (i : Int), .int .i64 x1, .int .i64 x2, .int .i64 x3, .int .i64 x4, .int .i64 x5, .int .i64 x6] 7 rfl (by simp [Value.oneCell'])) (by unfold maxLen; omega) (by omega) (by simp; omega) ?_))
        intro A3 c3 w4 hown4 hgrow _
        have hb4 : Below w.heap.size w w4 := (HB2.out.alloc (by simp; omega) _).grown hgrow (by simp; omega) (fun k hk => (HO1.out.lt k hk).1)
        have HO4 := Lib.hid hown4; have HB4 := Lib.hid hb4; clear hown4 hgrow hb4
        go_wp2_with fail
        go_roundw
        case rel => exact ⟨k + 1, by omega, by go_num, by rw [delN_yes HX.out HN2.out, evV_app, evV_one]; simpa using HO4.out, HB4.out⟩
        case measure => simp [intOf]; omega
      · skip
        have HN2 := Lib.hid (HN.out.trans (decide_eq_false hyx)); clear HN
        go_wp2_with fail
        go_roundw
        case rel => exact ⟨k + 1, by omega, by go_num, by rw [delN_no HX.out HN2.out]; exact own_drewN HO1.out nq0, HB2.out⟩
        case measure => simp [intOf]; omega
    · have hkl : k = l.length := by omega
      subst hkl
      obtain ⟨A3, c3, rfl, hor⟩ := or_own HO.out
      have HOR := Lib.hid hor; clear hor HO
      go_wp2
      go_ret
      exact ⟨A3, c3, retv (by rw [deltaE_good HQ.out H6.out]; rfl), by rw [deltaE_good HQ.out H6.out]; exact HOR.out, HB.out⟩
theorem deltaS_any (w : World) (B B2 : Nat) (A A2 : Option Addr) (c c2 : Nat) (l : List Ev) (ks : List Int) (hl : l.length ≤ 1048576) (hk6 : ks.length ≤ maxLen) (hB : B ≤ w.heap.size) (hB2 : B2 ≤ w.heap.size) (hS : evL w B A l) (hK : IL w B2 A2 ks) : Calls Tryd.prog 10 #[.slice A l.length c, .slice A2 ks.length c2] w (AnsE (deltaE l ks) w) := by
  cases hq : jrnB l
  · exact deltaS_a w B B2 A A2 c c2 l ks hl hk6 hB hB2 hS hK hq
  · by_cases h6 : ks.length = 6
    · exact deltaS_c w B B2 A A2 c c2 l ks hl hk6 hB hB2 hS hK hq h6
    · exact deltaS_b w B B2 A A2 c c2 l ks hl hk6 hB hB2 hS hK hq h6
end Go.Proofs.YtdcejkompdbliaaDoor
