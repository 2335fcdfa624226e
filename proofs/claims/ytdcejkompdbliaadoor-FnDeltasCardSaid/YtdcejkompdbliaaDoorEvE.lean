/- Chapter 8: AddEvent of the model (gen_eve.py). -/
import Derived.Test.YtdcejkompdbliaaDoorEvD
import Derived.Test.YtdcejkompdbliaaDoorEvG
import Derived.Test.YtdcejkompdbliaaDoorAny
import Derived.Deep.DeepMust
namespace Go.Proofs.YtdcejkompdbliaaDoor
open Go.RowKit
set_option linter.unusedVariables false
/-- the answer is a list of events and a flag -/
def AnsE2 (R : List Ev × Bool) (w : World) (e : Ending) (w' : World) : Prop := ∃ A' c', R.1.length ≤ c' ∧ e = .returned (.tuple #[.slice A' R.1.length c', .bool R.2]) ∧ OR w' w.heap.size 40 A' (evV R.1) ∧ Below w.heap.size w w'
theorem oi_set8 {w : World} {lo hi b : Nat} {e : TypeId} {A : Option Addr} {xs : List Value} (h : OI w lo hi e A xs) (hb : b < lo ∨ hi ≤ b) (i : Nat) (v : Value) : OI (w.setCell ⟨b, i, none⟩ v) lo hi e A xs := by
  rcases h with h | ⟨g, cur, hA, h1, h2, hh, hc⟩
  · exact .inl h
  · exact .inr ⟨g, cur, hA, h1, h2, has_far hh (show g ≠ b by omega) _, hc⟩
theorem own_cap8 {w : World} {base size n m c : Nat} {e : TypeId} {A : Option Addr} {xs : List Value} (h : w.ownsRow base e size (.slice A n c) m xs) : n ≤ c := by
  rcases h.2 with ⟨e1, h0⟩ | ⟨g, cap, cur, e1, _, _, hcap, _⟩
  · injection e1 with _ e2 _; rw [e2]; exact Nat.zero_le _
  · injection e1 with _ e2 e3; rw [e2, e3]; exact hcap
theorem cells78 (W : World) : (sizeOf 40).run Tryd.prog W = .ok 7 W := by kernel_rfl
def dropA (A : Option Addr) (c q : Nat) : Option Addr := if c = q then A else A.map (fun a => a.add (q * 7))
/-- the piece of a list in front of a place, and the one behind it -/
theorem piece1 (A : Option Addr) (n c q : Nat) (hq : q ≤ c) (W : World) : (Instr.slice 24 (.slice A n c) none (some (.int .i64 (q : Int))) none).run Tryd.prog W = .ok (.slice A q c) W := by
  have h1 : (q : Int) ≤ c := by omega
  have h2 : (0 : Int) ≤ q := by omega
  simp [Instr.slice, Instr.sliceBounds, Instr.sliceBound, asIntOf, run_underlying Tryd.underlying24, cells78, go_sem, h1, h2]
  intro h; omega
theorem piece2 (A : Option Addr) (n c q : Nat) (hq : q ≤ n) (W : World) : (Instr.slice 24 (.slice A n c) (some (.int .i64 (q : Int))) none none).run Tryd.prog W = .ok (.slice (dropA A c q) (n - q) (c - q)) W := by
  have h1 : (q : Int) ≤ n := by omega
  have h2 : (0 : Int) ≤ q := by omega
  simp [Instr.slice, Instr.sliceBounds, Instr.sliceBound, asIntOf, run_underlying Tryd.underlying24, cells78, go_sem, h1, h2, dropA]
  intro h; omega
theorem src_evn {w : World} {B n : Nat} {A : Option Addr} {l : List Ev} (hn : l.length = n) (h : evL w B A l) : Src w A n 7 (evV l) := hn ▸ src_ev h
theorem own_kept9 {w w' : World} {base : Nat} {e : TypeId} {size n : Nat} {v : Value} {xs : List Value} (h : w.ownsRow base e size v n xs) (hb : Below w.heap.size w w') : w'.ownsRow base e size v n xs :=
  h.kept (row := none) ⟨hb.os, hb.tape, hb.output, hb.size, fun k hk _ => hb.block k hk⟩ (by cases v.ownBlock <;> simp)
theorem src_has8 {w : World} {gs : Nat} {e : TypeId} {cs : Array Value} (h : Has w gs e cs) (size : Nat) (hs : cs.size = size) (h1 : ∀ u ∈ cs.toList, u.oneCell' = true) : Src w (some ⟨gs, 0, none⟩) 1 size cs.toList where
  len := by simp [hs]
  one := h1
  nil := fun e => by cases e
  at_ := fun ad e j u hu => by
    injection e with e; subst e
    rw [addr_ev, Nat.zero_add]
    exact has_cell h j (by simpa using hu)
theorem below_grow8 {B : Nat} {w0 w w' : World} {row : Option Nat} (h : Below B w0 w) (hg : w.grownBy w' row) (hB : B ≤ w.heap.size) (hr : ∀ b, row = some b → B ≤ b) : Below B w0 w' := h.grown hg hB hr
theorem evL_take {w : World} {B : Nat} {A : Option Addr} {l : List Ev} (h : evL w B A l) (m : Nat) : evL w B A (l.take m) := by
  rcases h with h | ⟨b', off', e, hlt, hc⟩
  · exact .inl (by rw [h]; simp)
  · exact .inr ⟨b', off', e, hlt, fun k x hx => hc k x (by
      rw [List.getElem?_take] at hx; split at hx
      · exact hx
      · cases hx)⟩
theorem evL_drop {w : World} {B c m : Nat} {A : Option Addr} {l : List Ev} (h : evL w B A l) (hc9 : l.length ≤ c) : evL w B (dropA A c m) (l.drop m) := by
  rcases h with h | ⟨b, off, rfl, hlt, hc⟩
  · exact .inl (by rw [h]; simp)
  · by_cases hcm : c = m
    · exact .inl (List.drop_eq_nil_of_le (by omega))
    · unfold dropA; rw [if_neg hcm]
      refine .inr ⟨b, off + m * 7, by simp [addr_ev], hlt, fun k x hx => ?_⟩
      have := hc (m + k) x (by simpa using hx)
      rw [show off + m * 7 + k * 7 = off + (m + k) * 7 by omega]
      exact this
set_option maxRecDepth 100000 in
set_option maxHeartbeats 4000000 in
theorem addS_bad8 (w : World) (B : Nat) (A : Option Addr) (c : Nat) (l : List Ev) (nd kd pa a b9 : Int) (hl : l.length ≤ 1048576) (hcc : l.length ≤ c) (hB : B ≤ w.heap.size) (hS : evL w B A l) (hq : jrnB l = false) : Calls Tryd.prog 36 #[.slice A l.length c, .int .i64 nd, .int .i64 kd, .int .i64 pa, .int .i64 a, .int .i64 b9] w (AnsE2 (addE l nd kd pa a b9) w) := by
  have HQ := Lib.hid hq; clear hq
  have hlm : l.length ≤ maxLen := by unfold maxLen; omega
  have HLM := Lib.hid hlm; unfold maxLen at hlm
  have HS := Lib.hid hS; clear hS
  obtain ⟨i0, hi0, hz0, hz1, hz2⟩ := info_parts evInfo
  have I0 := Lib.hid hi0; have Z0 := Lib.hid hz0; have Z1 := Lib.hid hz1; have Z2 := Lib.hid hz2; clear hi0 hz0 hz1 hz2
  go_enter Tryd.func36, Tryd.ntmps36
  go_wp2_with (at_builtin; go_must (refine list_app rfl _ _ 24 rfl w.heap.size 40 i0 (.agg #[.int .i64 0, .int .i64 0, .int .i64 0, .int .i64 0, .int .i64 0, .int .i64 0, .int .i64 0]) 7 56 Tryd.underlying24 I0.out Z0.out Z1.out Z2.out rfl (by decide) _ 0 [] rfl (ev_own_new w w.heap.size (Nat.le_refl _)) A l.length c (evV l) rfl (src_ev (HS.out.later hB (balloc _ _))) (by unfold maxLen; omega) (by omega) (by simp) ?_))
  intro A1 c1 w1 hown hgrow _
  have hb1 : Below w.heap.size w w1 := (balloc w (.cells #[] 40)).grown hgrow (by simp) (fun k hk => by simp [Value.ownBlock] at hk ⊢; omega)
  obtain ⟨A1', c1', hform, hor⟩ := or_own hown
  injection hform with h1 h2 h3; subst h1 h3
  have hor2 : OR w1 w.heap.size 40 A1 (evV l) := by simpa using hor
  have HC1 := Lib.hid (show l.length ≤ c1 by have := own_cap8 hown; omega); have HOR1 := Lib.hid hor2; have HB1 := Lib.hid hb1; have hs1 := hb1.size; clear hown hgrow hor hor2 hb1 h2
  go_wp2_with fail
  refine (jrnS_any w1 B A c l HLM.out (by omega) (HS.out.later hB HB1.out)).mono ?_
  rintro e w2 ⟨rfl, hb2⟩
  rw [HQ.out]
  have HOR2 := Lib.hid (HOR1.out.below hb2); have HB2 := Lib.hid (bthen HB1.out hb2); have hs2 := hb2.size; clear hb2 HOR1 HB1
  go_wp2_with fail
  go_ret2
  rw [addE_bad HQ.out]
  exact ⟨A1, c1, HC1.out, by simp, HOR2.out, HB2.out⟩
set_option maxRecDepth 100000 in
set_option maxHeartbeats 16000000 in
theorem addS_good8 (w : World) (B : Nat) (A : Option Addr) (c : Nat) (l : List Ev) (nd kd pa a b9 : Int) (hl : l.length ≤ 1048576) (hcc : l.length ≤ c) (hB : B ≤ w.heap.size) (hS : evL w B A l) (hq : jrnB l = true) : Calls Tryd.prog 36 #[.slice A l.length c, .int .i64 nd, .int .i64 kd, .int .i64 pa, .int .i64 a, .int .i64 b9] w (AnsE2 (addE l nd kd pa a b9) w) := by
  have hl60 := jrn_len hq
  have HQ := Lib.hid hq; clear hq
  have hlm : l.length ≤ maxLen := by unfold maxLen; omega
  have HLM := Lib.hid hlm; unfold maxLen at hlm
  have HS := Lib.hid hS; clear hS
  obtain ⟨i0, hi0, hz0, hz1, hz2⟩ := info_parts evInfo
  have I0 := Lib.hid hi0; have Z0 := Lib.hid hz0; have Z1 := Lib.hid hz1; have Z2 := Lib.hid hz2; clear hi0 hz0 hz1 hz2
  go_enter Tryd.func36, Tryd.ntmps36
  go_wp2_with (at_builtin; go_must (refine list_app rfl _ _ 24 rfl w.heap.size 40 i0 (.agg #[.int .i64 0, .int .i64 0, .int .i64 0, .int .i64 0, .int .i64 0, .int .i64 0, .int .i64 0]) 7 56 Tryd.underlying24 I0.out Z0.out Z1.out Z2.out rfl (by decide) _ 0 [] rfl (ev_own_new w w.heap.size (Nat.le_refl _)) A l.length c (evV l) rfl (src_ev (HS.out.later hB (balloc _ _))) (by unfold maxLen; omega) (by omega) (by simp) ?_))
  intro A1 c1 w1 hown hgrow _
  have hb1 : Below w.heap.size w w1 := (balloc w (.cells #[] 40)).grown hgrow (by simp) (fun k hk => by simp [Value.ownBlock] at hk ⊢; omega)
  obtain ⟨A1', c1', hform, hor⟩ := or_own hown
  injection hform with h1 h2 h3; subst h1 h3
  have hor2 : OR w1 w.heap.size 40 A1 (evV l) := by simpa using hor
  have HC1 := Lib.hid (show l.length ≤ c1 by have := own_cap8 hown; omega); have HOR1 := Lib.hid hor2; have HB1 := Lib.hid hb1; have hs1 := hb1.size; clear hown hgrow hor hor2 hb1 h2
  go_wp2_with fail
  refine (jrnS_any w1 B A c l HLM.out (by omega) (HS.out.later hB HB1.out)).mono ?_
  rintro e w2 ⟨rfl, hb2⟩
  rw [HQ.out]
  have HOR2 := Lib.hid (HOR1.out.below hb2); have HB2 := Lib.hid (bthen HB1.out hb2); have hs2 := hb2.size; clear hb2 HOR1 HB1
  go_wp2_with fail
  generalize hX : (w2.alloc (.cells #[.int .i64 nd, .int .i64 1, .int .i64 1, .int .i64 kd, .int .i64 pa, .int .i64 a, .int .i64 b9] 40)) = w3
  have hb3 : Below w2.heap.size w2 w3 := by rw [← hX]; exact balloc _ _
  have ze : Has w3 w2.heap.size 40 #[.int .i64 nd, .int .i64 1, .int .i64 1, .int .i64 kd, .int .i64 pa, .int .i64 a, .int .i64 b9] := by rw [← hX]; exact has_new _ _ _
  clear hX
  obtain ⟨ge, hge⟩ : ∃ ge, w2.heap.size = ge := ⟨_, rfl⟩
  rw [hge] at ze ⊢
  have HOI := Lib.hid (show OI w3 w.heap.size ge 40 A1 (evV l) by rw [← hge]; exact (OI.of_or HOR2.out).call hb3)
  have HB3 := Lib.hid (bthen HB2.out hb3); have hgw : w.heap.size ≤ ge := by omega
  have ZE := Lib.hid ze
  clear hge ze hb3 HOR2 HB2 hs2 hs1
  go_loopw [16, 17] (fun at_ i wr => ∃ k : Nat, k ≤ l.length ∧ at_ = .int .i64 (atK l nd k) ∧ i = .int .i64 k ∧ Has wr ge 40 #[.int .i64 nd, .int .i64 (seqK l nd k + 1), .int .i64 (stmK l k + 1), .int .i64 kd, .int .i64 pa, .int .i64 a, .int .i64 b9] ∧ OI wr w.heap.size ge 40 A1 (evV l) ∧ Below w.heap.size w wr) (fun _ i _ => l.length - (intOf i).toNat)
  case atStart => exact ⟨0, Nat.zero_le _, rfl, rfl, ZE.out, HOI.out, HB3.out⟩
  case round =>
    clear ZE HOI HB3
    obtain ⟨k, hk, rfl, rfl, hze, hoi, hb⟩ := hrel
    have hsz := hb.size; have hgl := has_lt hze
    have ZE := Lib.hid hze; have HOI := Lib.hid hoi; have HB := Lib.hid hb; clear hze hoi hb
    have hsi := seqK_in HQ.out nd k; have hti := stmK_in HQ.out k; have hak := atK_le l nd k
    by_cases hlt : k < l.length
    · obtain ⟨b, off, ⟨x0, x1, x2, x3, x4, x5, x6⟩, rfl, hbB, hx, hc0, hc1, hc2, hc3, hc4, hc5, hc6⟩ := (HS.out.below (HB.out.mono hB)).at_ hlt
      dsimp only at hc0 hc1 hc2 hc3 hc4 hc5 hc6
      have hev := evB_facts (jrn_at HQ.out hx); dsimp only at hev
      obtain ⟨_, ⟨v10, v11⟩, ⟨v20, v21⟩, _⟩ := hev
      have hS1 := seqK_succ (nd := nd) hx; have hT1 := stmK_succ hx; have hA1 := atK_succ (nd := nd) hx
      dsimp only at hS1 hT1 hA1
      have HX := Lib.hid hx; clear hx
      have wq1 : IntKind.i64.wrap (x1 + 1) = x1 + 1 := IntWalk.i64_in _ (by omega)
      have wq2 : IntKind.i64.wrap (x2 + 1) = x2 + 1 := IntWalk.i64_in _ (by omega)
      obtain ⟨s, hs⟩ : ∃ s, seqK l nd k = s := ⟨_, rfl⟩; obtain ⟨t, ht⟩ : ∃ t, stmK l k = t := ⟨_, rfl⟩; obtain ⟨q, hq⟩ : ∃ q, atK l nd k = q := ⟨_, rfl⟩
      rw [hs, ht] at ZE; rw [hs] at hS1 hsi; rw [ht] at hT1 hti; rw [hq] at hA1 hak ⊢
      have HS1 := Lib.hid hS1; have HT1 := Lib.hid hT1; have HA1 := Lib.hid hA1; clear hS1 hT1 hA1 hs ht hq
      have hbw : b < wr.heap.size := by omega
      have hne : b ≠ ge := by omega
      have hcs : x0 = nd ∨ x0 < nd ∨ nd < x0 := by omega
      rcases hcs with hc | hc | hc
      · skip
        have d1 : (x0 == nd) = true := by simp; omega
        have d2 : decide (x0 ≤ nd) = true := by simp; omega
        have HC := Lib.hid hc; clear hc
        have t1 := has_cell ZE.out 1 rfl; have tf1 := has_free ZE.out 1; have t2 := has_cell ZE.out 2 rfl; have tf2 := has_free ZE.out 2
        go_wp2_with fail
        go_region
        go_wp2_with fail
        have HATN := Lib.hid (show atK l nd (k + 1) = k + 1 by rw [HA1.out]; exact if_pos (by have := HC.out; omega))
        have HSQN := Lib.hid (show seqK l nd (k + 1) = x1 by rw [HS1.out]; exact if_pos (by have := HC.out; omega))
        have HMX := Lib.hid (show (if t < x2 then x2 + 1 else t + 1) = stmK l (k + 1) + 1 by rw [HT1.out]; split <;> omega)
        have HBX := Lib.hid (show Has ((wr.setCell ⟨ge, 1, none⟩ (.int .i64 (x1 + 1))).setCell ⟨ge, 2, none⟩ (.int .i64 (if t < x2 then x2 + 1 else t + 1))).drew ge 40 #[.int .i64 nd, .int .i64 (seqK l nd (k + 1) + 1), .int .i64 (stmK l (k + 1) + 1), .int .i64 kd, .int .i64 pa, .int .i64 a, .int .i64 b9] by
          have h := has_set (has_set ZE.out 1 (.int .i64 (x1 + 1))) 2 (.int .i64 (if t < x2 then x2 + 1 else t + 1))
          simp only [List.setIfInBounds_toArray, List.set_cons_zero, List.set_cons_succ] at h
          rw [HSQN.out, ← HMX.out]; exact h)
        have HOI2 := Lib.hid (show OI ((wr.setCell ⟨ge, 1, none⟩ (.int .i64 (x1 + 1))).setCell ⟨ge, 2, none⟩ (.int .i64 (if t < x2 then x2 + 1 else t + 1))).drew w.heap.size ge 40 A1 (evV l) from oi_set8 (oi_set8 HOI.out (.inr (Nat.le_refl _)) 1 _) (.inr (Nat.le_refl _)) 2 _)
        have HB2 := Lib.hid (show Below w.heap.size w ((wr.setCell ⟨ge, 1, none⟩ (.int .i64 (x1 + 1))).setCell ⟨ge, 2, none⟩ (.int .i64 (if t < x2 then x2 + 1 else t + 1))).drew from ((HB.out.setCell (p := ⟨ge, 1, none⟩) hgw _).setCell (p := ⟨ge, 2, none⟩) hgw _).drew)
        go_roundw
        case rel => exact ⟨k + 1, by omega, by rw [HATN.out]; go_num, by go_num, HBX.out, HOI2.out, HB2.out⟩
        case measure => simp [intOf]; omega
      · skip
        have d1 : (x0 == nd) = false := by simp; omega
        have d2 : decide (x0 ≤ nd) = true := by simp; omega
        have HC := Lib.hid hc; clear hc
        have t1 := has_cell ZE.out 1 rfl; have tf1 := has_free ZE.out 1; have t2 := has_cell ZE.out 2 rfl; have tf2 := has_free ZE.out 2
        go_wp2_with fail
        go_region
        go_wp2_with fail
        have HATN := Lib.hid (show atK l nd (k + 1) = k + 1 by rw [HA1.out]; exact if_pos (by have := HC.out; omega))
        have HSQN := Lib.hid (show seqK l nd (k + 1) = s by rw [HS1.out]; exact if_neg (by have := HC.out; omega))
        have HMX := Lib.hid (show (if t < x2 then x2 + 1 else t + 1) = stmK l (k + 1) + 1 by rw [HT1.out]; split <;> omega)
        have HBX := Lib.hid (show Has (wr.setCell ⟨ge, 2, none⟩ (.int .i64 (if t < x2 then x2 + 1 else t + 1))).drew ge 40 #[.int .i64 nd, .int .i64 (seqK l nd (k + 1) + 1), .int .i64 (stmK l (k + 1) + 1), .int .i64 kd, .int .i64 pa, .int .i64 a, .int .i64 b9] by
          have h := has_set ZE.out 2 (.int .i64 (if t < x2 then x2 + 1 else t + 1))
          simp only [List.setIfInBounds_toArray, List.set_cons_zero, List.set_cons_succ] at h
          rw [HSQN.out, ← HMX.out]; exact h)
        have HOI2 := Lib.hid (show OI (wr.setCell ⟨ge, 2, none⟩ (.int .i64 (if t < x2 then x2 + 1 else t + 1))).drew w.heap.size ge 40 A1 (evV l) from oi_set8 HOI.out (.inr (Nat.le_refl _)) 2 _)
        have HB2 := Lib.hid (show Below w.heap.size w (wr.setCell ⟨ge, 2, none⟩ (.int .i64 (if t < x2 then x2 + 1 else t + 1))).drew from (HB.out.setCell (p := ⟨ge, 2, none⟩) hgw _).drew)
        go_roundw
        case rel => exact ⟨k + 1, by omega, by rw [HATN.out]; go_num, by go_num, HBX.out, HOI2.out, HB2.out⟩
        case measure => simp [intOf]; omega
      · skip
        have d1 : (x0 == nd) = false := by simp; omega
        have d2 : decide (x0 ≤ nd) = false := by simp; omega
        have HC := Lib.hid hc; clear hc
        have t1 := has_cell ZE.out 1 rfl; have tf1 := has_free ZE.out 1; have t2 := has_cell ZE.out 2 rfl; have tf2 := has_free ZE.out 2
        go_wp2_with fail
        go_region
        go_wp2_with fail
        have HATN := Lib.hid (show atK l nd (k + 1) = q by rw [HA1.out]; exact if_neg (by have := HC.out; omega))
        have HSQN := Lib.hid (show seqK l nd (k + 1) = s by rw [HS1.out]; exact if_neg (by have := HC.out; omega))
        have HMX := Lib.hid (show (if t < x2 then x2 + 1 else t + 1) = stmK l (k + 1) + 1 by rw [HT1.out]; split <;> omega)
        have HBX := Lib.hid (show Has (wr.setCell ⟨ge, 2, none⟩ (.int .i64 (if t < x2 then x2 + 1 else t + 1))).drew ge 40 #[.int .i64 nd, .int .i64 (seqK l nd (k + 1) + 1), .int .i64 (stmK l (k + 1) + 1), .int .i64 kd, .int .i64 pa, .int .i64 a, .int .i64 b9] by
          have h := has_set ZE.out 2 (.int .i64 (if t < x2 then x2 + 1 else t + 1))
          simp only [List.setIfInBounds_toArray, List.set_cons_zero, List.set_cons_succ] at h
          rw [HSQN.out, ← HMX.out]; exact h)
        have HOI2 := Lib.hid (show OI (wr.setCell ⟨ge, 2, none⟩ (.int .i64 (if t < x2 then x2 + 1 else t + 1))).drew w.heap.size ge 40 A1 (evV l) from oi_set8 HOI.out (.inr (Nat.le_refl _)) 2 _)
        have HB2 := Lib.hid (show Below w.heap.size w (wr.setCell ⟨ge, 2, none⟩ (.int .i64 (if t < x2 then x2 + 1 else t + 1))).drew from (HB.out.setCell (p := ⟨ge, 2, none⟩) hgw _).drew)
        go_roundw
        case rel => exact ⟨k + 1, by omega, by rw [HATN.out], by go_num, HBX.out, HOI2.out, HB2.out⟩
        case measure => simp [intOf]; omega
    · skip
      have hkl : k = l.length := by omega
      subst hkl
      obtain ⟨s9, hs9⟩ : ∃ s, seqK l nd l.length + 1 = s := ⟨_, rfl⟩; obtain ⟨t9, ht9⟩ : ∃ t, stmK l l.length + 1 = t := ⟨_, rfl⟩; obtain ⟨q, hq⟩ : ∃ q, atK l nd l.length = q := ⟨_, rfl⟩
      rw [hs9, ht9] at ZE; rw [hq] at hak ⊢
      obtain ⟨L2, hL2⟩ : ∃ L, insEv l nd kd pa a b9 = L := ⟨_, rfl⟩
      have hL3 : L2 = l.take q ++ ⟨nd, s9, t9, kd, pa, a, b9⟩ :: l.drop q := by rw [← hL2, ← hs9, ← ht9, ← hq]; rfl
      have hLl : L2.length = l.length + 1 := by rw [← hL2]; exact insEv_len _ _ _ _ _ _
      have HL2 := Lib.hid hL2; have HL3 := Lib.hid hL3; have HLl := Lib.hid hLl; clear hL2 hL3 hLl hs9 ht9 hq hsi hti
      have hp1 := piece1 A l.length c q (by omega); have hp2 := piece2 A l.length c q hak
      have HLR := Lib.hid (HS.out.below (HB.out.mono hB)); have hBr : B ≤ wr.heap.size := by omega
      go_wp2_with fail
      have t0 := has_cell ZE.out 0 rfl; have t1 := has_cell ZE.out 1 rfl; have t2 := has_cell ZE.out 2 rfl; have t3 := has_cell ZE.out 3 rfl; have t4 := has_cell ZE.out 4 rfl; have t5 := has_cell ZE.out 5 rfl; have t6 := has_cell ZE.out 6 rfl
      have S0 : (fun W : World => (W.cell? ⟨ge, 0, none⟩ = some (.int .i64 nd) ∧ W.cell? ⟨ge, 1, none⟩ = some (.int .i64 s9) ∧ W.cell? ⟨ge, 2, none⟩ = some (.int .i64 t9) ∧ W.cell? ⟨ge, 3, none⟩ = some (.int .i64 kd) ∧ W.cell? ⟨ge, 4, none⟩ = some (.int .i64 pa) ∧ W.cell? ⟨ge, 5, none⟩ = some (.int .i64 a) ∧ W.cell? ⟨ge, 6, none⟩ = some (.int .i64 b9)) ∧ Below wr.heap.size wr W) wr.drew := ⟨⟨t0, t1, t2, t3, t4, t5, t6⟩, (Below.refl _ _).drew⟩
      clear t0 t1 t2 t3 t4 t5 t6
      refine wp_region_held_drew (S := (fun W : World => (W.cell? ⟨ge, 0, none⟩ = some (.int .i64 nd) ∧ W.cell? ⟨ge, 1, none⟩ = some (.int .i64 s9) ∧ W.cell? ⟨ge, 2, none⟩ = some (.int .i64 t9) ∧ W.cell? ⟨ge, 3, none⟩ = some (.int .i64 kd) ∧ W.cell? ⟨ge, 4, none⟩ = some (.int .i64 pa) ∧ W.cell? ⟨ge, 5, none⟩ = some (.int .i64 a) ∧ W.cell? ⟨ge, 6, none⟩ = some (.int .i64 b9)) ∧ Below wr.heap.size wr W)) (by kernel_rfl) S0 (fun _ => ?_)
      refine any_take (i := 1) (some 72) (.slice A l.length c) rfl rfl (by kernel_rfl) (by kernel_rfl) (by kernel_rfl) (fun _ _ _ h => h) rfl (fun W hSw => ?_) (S0) ?_
      · (try dsimp only at hSw); go_simp <;> with_reducible rfl
      try simp only [Act.put, List.setIfInBounds_toArray, List.set_cons_zero, List.set_cons_succ]
      refine any_take (i := 2) (some 73) (.int .i64 (q : Int)) rfl rfl (by kernel_rfl) (by kernel_rfl) (by kernel_rfl) (fun _ _ _ h => h) rfl (fun W hSw => ?_) (S0) ?_
      · (try dsimp only at hSw); go_simp <;> with_reducible rfl
      try simp only [Act.put, List.setIfInBounds_toArray, List.set_cons_zero, List.set_cons_succ]
      refine any_take (i := 3) (some 74) (.slice A q c) rfl rfl (by kernel_rfl) (by kernel_rfl) (by kernel_rfl) (fun _ _ _ h => h) rfl (fun W hSw => ?_) (S0) ?_
      · (try dsimp only at hSw); go_simp <;> with_reducible rfl
      try simp only [Act.put, List.setIfInBounds_toArray, List.set_cons_zero, List.set_cons_succ]
      refine any_take (i := 5) (some 76) (.agg #[.int .i64 nd, .int .i64 s9, .int .i64 t9, .int .i64 kd, .int .i64 pa, .int .i64 a, .int .i64 b9]) rfl rfl (by kernel_rfl) (by kernel_rfl) (by kernel_rfl) (fun _ _ _ h => h) rfl (fun W hSw => ?_) (S0) ?_
      · (try dsimp only at hSw); go_simp <;> with_reducible rfl
      try simp only [Act.put, List.setIfInBounds_toArray, List.set_cons_zero, List.set_cons_succ]
      refine any_take (i := 8) (some 79) (.slice A l.length c) rfl rfl (by kernel_rfl) (by kernel_rfl) (by kernel_rfl) (fun _ _ _ h => h) rfl (fun W hSw => ?_) (S0) ?_
      · (try dsimp only at hSw); go_simp <;> with_reducible rfl
      try simp only [Act.put, List.setIfInBounds_toArray, List.set_cons_zero, List.set_cons_succ]
      refine any_take (i := 9) (some 80) (.int .i64 (q : Int)) rfl rfl (by kernel_rfl) (by kernel_rfl) (by kernel_rfl) (fun _ _ _ h => h) rfl (fun W hSw => ?_) (S0) ?_
      · (try dsimp only at hSw); go_simp <;> with_reducible rfl
      try simp only [Act.put, List.setIfInBounds_toArray, List.set_cons_zero, List.set_cons_succ]
      refine any_take (i := 10) (some 81) (.slice (dropA A c q) (l.length - q) (c - q)) rfl rfl (by kernel_rfl) (by kernel_rfl) (by kernel_rfl) (fun _ _ _ h => h) rfl (fun W hSw => ?_) (S0) ?_
      · (try dsimp only at hSw); go_simp <;> with_reducible rfl
      try simp only [Act.put, List.setIfInBounds_toArray, List.set_cons_zero, List.set_cons_succ]
      refine wpAnyH_ready (rs := [0, 6]) (by kernel_rfl) (by simp) ?_
      refine AllReadyH.cons rfl (fun K hK => ?_) (AllReadyH.cons rfl (fun K hK => ?_) AllReadyH.nil)
      · skip
        go_simp
        generalize hX : (wr.alloc (.cells #[] 40)).drew = v1
        have hbn : Below wr.drew.heap.size wr.drew v1 := by rw [← hX]; exact balloc _ _
        have hown : v1.ownsRow wr.heap.size 40 7 (.slice (some ⟨wr.heap.size, 0, none⟩) 0 0) 0 (evV []) := by rw [← hX]; exact ev_own_new wr.drew wr.heap.size (S0.2).size
        clear hX
        have hrl := (hown.lt _ rfl).2; dsimp only at hrl
        have HOW := Lib.hid hown; clear hown
        have hbx : Below wr.heap.size wr v1 := bthen S0.2 hbn
        have Sv1 : (fun W : World => (W.cell? ⟨ge, 0, none⟩ = some (.int .i64 nd) ∧ W.cell? ⟨ge, 1, none⟩ = some (.int .i64 s9) ∧ W.cell? ⟨ge, 2, none⟩ = some (.int .i64 t9) ∧ W.cell? ⟨ge, 3, none⟩ = some (.int .i64 kd) ∧ W.cell? ⟨ge, 4, none⟩ = some (.int .i64 pa) ∧ W.cell? ⟨ge, 5, none⟩ = some (.int .i64 a) ∧ W.cell? ⟨ge, 6, none⟩ = some (.int .i64 b9)) ∧ Below wr.heap.size wr W) v1 := ⟨⟨(bold hbx _ _ hgl).trans S0.1.1, (bold hbx _ _ hgl).trans S0.1.2.1, (bold hbx _ _ hgl).trans S0.1.2.2.1, (bold hbx _ _ hgl).trans S0.1.2.2.2.1, (bold hbx _ _ hgl).trans S0.1.2.2.2.2.1, (bold hbx _ _ hgl).trans S0.1.2.2.2.2.2.1, (bold hbx _ _ hgl).trans S0.1.2.2.2.2.2.2⟩, hbx⟩
        clear hbx
        have hsv1 := Sv1.2.size
        refine hK.out _ _ Sv1 (fun _ => ?_)
        clear hK K
        try simp only [Act.put, List.setIfInBounds_toArray, List.set_cons_zero, List.set_cons_succ]
        clear hbn
        refine wpAnyH_ready (rs := [4, 6]) (by kernel_rfl) (by simp) ?_
        refine AllReadyH.cons rfl (fun K hK => ?_) (AllReadyH.cons rfl (fun K hK => ?_) AllReadyH.nil)
        · skip
          refine step_app rfl _ _ 24 rfl wr.heap.size 40 i0 (.agg #[.int .i64 0, .int .i64 0, .int .i64 0, .int .i64 0, .int .i64 0, .int .i64 0, .int .i64 0]) 7 56 Tryd.underlying24 I0.out Z0.out Z1.out Z2.out rfl (by decide) (.slice (some ⟨wr.heap.size, 0, none⟩) 0 0) (0) (evV []) rfl HOW.out (A) (q) (c) (evV (l.take q)) rfl (src_evn (by rw [List.length_take]; omega) (evL_take (HLR.out.below ((Sv1.2).mono hBr)) q)) (by unfold maxLen; omega) (by omega) (Sv1.2).size ?_
          intro A5 cA5 v2 hown hgrow hrow
          have hbn2 : Below wr.heap.size wr v2 := below_grow8 Sv1.2 hgrow (Sv1.2).size (fun b7 hb7 => (hrow b7 hb7).1)
          rw [show 0 + (q) = q by omega] at hown ⊢
          clear HOW; have HOW := Lib.hid hown; clear hown hrow hgrow
          change K (Act.put _ (some 75) _) _
          have hbx : Below wr.heap.size wr v2 := hbn2
          have Sv2 : (fun W : World => (W.cell? ⟨ge, 0, none⟩ = some (.int .i64 nd) ∧ W.cell? ⟨ge, 1, none⟩ = some (.int .i64 s9) ∧ W.cell? ⟨ge, 2, none⟩ = some (.int .i64 t9) ∧ W.cell? ⟨ge, 3, none⟩ = some (.int .i64 kd) ∧ W.cell? ⟨ge, 4, none⟩ = some (.int .i64 pa) ∧ W.cell? ⟨ge, 5, none⟩ = some (.int .i64 a) ∧ W.cell? ⟨ge, 6, none⟩ = some (.int .i64 b9)) ∧ Below wr.heap.size wr W) v2 := ⟨⟨(bold hbx _ _ hgl).trans S0.1.1, (bold hbx _ _ hgl).trans S0.1.2.1, (bold hbx _ _ hgl).trans S0.1.2.2.1, (bold hbx _ _ hgl).trans S0.1.2.2.2.1, (bold hbx _ _ hgl).trans S0.1.2.2.2.2.1, (bold hbx _ _ hgl).trans S0.1.2.2.2.2.2.1, (bold hbx _ _ hgl).trans S0.1.2.2.2.2.2.2⟩, hbx⟩
          clear hbx
          have hsv2 := Sv2.2.size
          refine hK.out _ _ Sv2 (fun _ => ?_)
          clear hK K
          try simp only [Act.put, List.setIfInBounds_toArray, List.set_cons_zero, List.set_cons_succ]
          clear hbn2
          refine wpAnyH_ready (rs := [6]) (by kernel_rfl) (by simp) ?_
          refine AllReadyH.cons rfl (fun K hK => ?_) AllReadyH.nil
          go_simp
          generalize hX : (v2.alloc (.cells #[.int .i64 nd, .int .i64 s9, .int .i64 t9, .int .i64 kd, .int .i64 pa, .int .i64 a, .int .i64 b9] 40)) = v3
          have hbn : Below v2.heap.size v2 v3 := by rw [← hX]; exact balloc _ _
          have zs : Has v3 v2.heap.size 40 #[.int .i64 nd, .int .i64 s9, .int .i64 t9, .int .i64 kd, .int .i64 pa, .int .i64 a, .int .i64 b9] := by rw [← hX]; exact has_new v2 _ _
          clear hX
          have hzl := has_lt zs
          have kk9 := own_kept9 HOW.out hbn; clear HOW; have HOW := Lib.hid kk9; clear kk9
          have hbx : Below wr.heap.size wr v3 := bthen Sv2.2 hbn
          have Sv3 : (fun W : World => (W.cell? ⟨ge, 0, none⟩ = some (.int .i64 nd) ∧ W.cell? ⟨ge, 1, none⟩ = some (.int .i64 s9) ∧ W.cell? ⟨ge, 2, none⟩ = some (.int .i64 t9) ∧ W.cell? ⟨ge, 3, none⟩ = some (.int .i64 kd) ∧ W.cell? ⟨ge, 4, none⟩ = some (.int .i64 pa) ∧ W.cell? ⟨ge, 5, none⟩ = some (.int .i64 a) ∧ W.cell? ⟨ge, 6, none⟩ = some (.int .i64 b9)) ∧ Below wr.heap.size wr W) v3 := ⟨⟨(bold hbx _ _ hgl).trans S0.1.1, (bold hbx _ _ hgl).trans S0.1.2.1, (bold hbx _ _ hgl).trans S0.1.2.2.1, (bold hbx _ _ hgl).trans S0.1.2.2.2.1, (bold hbx _ _ hgl).trans S0.1.2.2.2.2.1, (bold hbx _ _ hgl).trans S0.1.2.2.2.2.2.1, (bold hbx _ _ hgl).trans S0.1.2.2.2.2.2.2⟩, hbx⟩
          clear hbx
          have hsv3 := Sv3.2.size
          refine hK.out _ _ Sv3 (fun _ => ?_)
          clear hK K
          try simp only [Act.put, List.setIfInBounds_toArray, List.set_cons_zero, List.set_cons_succ]
          clear hbn
          refine wpAnyH_ready (rs := [7]) (by kernel_rfl) (by simp) ?_
          refine AllReadyH.cons rfl (fun K hK => ?_) AllReadyH.nil
          refine step_app rfl _ _ 24 rfl wr.heap.size 40 i0 (.agg #[.int .i64 0, .int .i64 0, .int .i64 0, .int .i64 0, .int .i64 0, .int .i64 0, .int .i64 0]) 7 56 Tryd.underlying24 I0.out Z0.out Z1.out Z2.out rfl (by decide) (.slice A5 (q) cA5) (q) (evV [] ++ evV (l.take q)) rfl HOW.out (some ⟨v2.heap.size, 0, none⟩) (1) (1) (#[.int .i64 nd, .int .i64 s9, .int .i64 t9, .int .i64 kd, .int .i64 pa, .int .i64 a, .int .i64 b9].toList) rfl (src_has8 zs 7 rfl (by simp [Value.oneCell'])) (by unfold maxLen; omega) (by omega) (Sv3.2).size ?_
          intro A6 cA6 v4 hown hgrow hrow
          have hbn2 : Below wr.heap.size wr v4 := below_grow8 Sv3.2 hgrow (Sv3.2).size (fun b7 hb7 => (hrow b7 hb7).1)
          rw [show q + (1) = q + 1 by omega] at hown ⊢
          clear HOW; have HOW := Lib.hid hown; clear hown hrow hgrow
          change K (Act.put _ (some 78) _) _
          have hbx : Below wr.heap.size wr v4 := hbn2
          have Sv4 : (fun W : World => (W.cell? ⟨ge, 0, none⟩ = some (.int .i64 nd) ∧ W.cell? ⟨ge, 1, none⟩ = some (.int .i64 s9) ∧ W.cell? ⟨ge, 2, none⟩ = some (.int .i64 t9) ∧ W.cell? ⟨ge, 3, none⟩ = some (.int .i64 kd) ∧ W.cell? ⟨ge, 4, none⟩ = some (.int .i64 pa) ∧ W.cell? ⟨ge, 5, none⟩ = some (.int .i64 a) ∧ W.cell? ⟨ge, 6, none⟩ = some (.int .i64 b9)) ∧ Below wr.heap.size wr W) v4 := ⟨⟨(bold hbx _ _ hgl).trans S0.1.1, (bold hbx _ _ hgl).trans S0.1.2.1, (bold hbx _ _ hgl).trans S0.1.2.2.1, (bold hbx _ _ hgl).trans S0.1.2.2.2.1, (bold hbx _ _ hgl).trans S0.1.2.2.2.2.1, (bold hbx _ _ hgl).trans S0.1.2.2.2.2.2.1, (bold hbx _ _ hgl).trans S0.1.2.2.2.2.2.2⟩, hbx⟩
          clear hbx
          have hsv4 := Sv4.2.size
          refine hK.out _ _ Sv4 (fun _ => ?_)
          clear hK K
          try simp only [Act.put, List.setIfInBounds_toArray, List.set_cons_zero, List.set_cons_succ]
          clear hbn2
          refine wpAnyH_ready (rs := [11]) (by kernel_rfl) (by simp) ?_
          refine AllReadyH.cons rfl (fun K hK => ?_) AllReadyH.nil
          refine step_app rfl _ _ 24 rfl wr.heap.size 40 i0 (.agg #[.int .i64 0, .int .i64 0, .int .i64 0, .int .i64 0, .int .i64 0, .int .i64 0, .int .i64 0]) 7 56 Tryd.underlying24 I0.out Z0.out Z1.out Z2.out rfl (by decide) (.slice A6 (q + 1) cA6) (q + 1) (evV [] ++ evV (l.take q) ++ #[.int .i64 nd, .int .i64 s9, .int .i64 t9, .int .i64 kd, .int .i64 pa, .int .i64 a, .int .i64 b9].toList) rfl HOW.out (dropA A c q) (l.length - q) (c - q) (evV (l.drop q)) rfl (src_evn (by rw [List.length_drop]) (evL_drop (HLR.out.below ((Sv4.2).mono hBr)) hcc)) (by unfold maxLen; omega) (by omega) (Sv4.2).size ?_
          intro A7 cA7 v5 hown hgrow hrow
          have hbn2 : Below wr.heap.size wr v5 := below_grow8 Sv4.2 hgrow (Sv4.2).size (fun b7 hb7 => (hrow b7 hb7).1)
          rw [show q + 1 + (l.length - q) = l.length + 1 by omega] at hown ⊢
          clear HOW; have HOW := Lib.hid hown; clear hown hrow hgrow
          change K (Act.put _ (some 82) _) _
          have hbx : Below wr.heap.size wr v5 := hbn2
          have Sv5 : (fun W : World => (W.cell? ⟨ge, 0, none⟩ = some (.int .i64 nd) ∧ W.cell? ⟨ge, 1, none⟩ = some (.int .i64 s9) ∧ W.cell? ⟨ge, 2, none⟩ = some (.int .i64 t9) ∧ W.cell? ⟨ge, 3, none⟩ = some (.int .i64 kd) ∧ W.cell? ⟨ge, 4, none⟩ = some (.int .i64 pa) ∧ W.cell? ⟨ge, 5, none⟩ = some (.int .i64 a) ∧ W.cell? ⟨ge, 6, none⟩ = some (.int .i64 b9)) ∧ Below wr.heap.size wr W) v5 := ⟨⟨(bold hbx _ _ hgl).trans S0.1.1, (bold hbx _ _ hgl).trans S0.1.2.1, (bold hbx _ _ hgl).trans S0.1.2.2.1, (bold hbx _ _ hgl).trans S0.1.2.2.2.1, (bold hbx _ _ hgl).trans S0.1.2.2.2.2.1, (bold hbx _ _ hgl).trans S0.1.2.2.2.2.2.1, (bold hbx _ _ hgl).trans S0.1.2.2.2.2.2.2⟩, hbx⟩
          clear hbx
          have hsv5 := Sv5.2.size
          refine hK.out _ _ Sv5 (fun _ => ?_)
          clear hK K
          try simp only [Act.put, List.setIfInBounds_toArray, List.set_cons_zero, List.set_cons_succ]
          clear hbn2
          refine any_take (i := 12) (some 18) (.slice A7 (l.length + 1) cA7) rfl rfl (by kernel_rfl) (by kernel_rfl) (by kernel_rfl) (fun _ _ _ h => h) rfl (fun W hSw => ?_) (Sv5) ?_
          · (try dsimp only at hSw); go_simp <;> with_reducible rfl
          try simp only [Act.put, List.setIfInBounds_toArray, List.set_cons_zero, List.set_cons_succ]
          refine wpAnyH_done (by kernel_rfl) ?_ _
          have hown9 : v5.ownsRow wr.heap.size 40 7 (.slice A7 (l.length + 1) cA7) (l.length + 1) (evV L2) := by have h := HOW.out; rw [HL3.out, evV_app, show evV (⟨nd, s9, t9, kd, pa, a, b9⟩ :: l.drop q) = evV [⟨nd, s9, t9, kd, pa, a, b9⟩] ++ evV (l.drop q) from rfl, evV_one]; simpa [evV] using h
          have hcp := own_cap8 hown9
          have HO9 := Lib.hid (own_or hown9); have HB9 := Lib.hid (HB.out.trans (Sv5.2.mono hsz)); have HOI9 := Lib.hid (HOI.out.call Sv5.2); have hs9 := (Sv5.2).size
          clear hown9 HOW S0 Sv1 Sv2 Sv3 Sv4 Sv5 zs
          have hjr := jrnS_any v5 v5.heap.size A7 cA7 L2 (by rw [HLl.out]; unfold maxLen; omega) (Nat.le_refl _) HO9.out.ev
          rw [HLl.out] at hjr
          have HJR := Lib.hid hjr; clear hjr
          cases hv : jrnB L2
          · skip
            have HV := Lib.hid hv; clear hv
            go_wp2_with fail
            refine HJR.out.mono ?_
            rintro e w9 ⟨rfl, hb9⟩
            rw [HV.out]
            have HB10 := Lib.hid (HB9.out.trans (hb9.mono (by omega))); have HO10 := Lib.hid (HO9.out.below hb9); have HOI10 := Lib.hid (HOI9.out.call hb9); clear hb9
            go_wp2_with fail
            go_ret2
            rw [addE_no (by rw [HL2.out]; exact HV.out)]
            exact ⟨A1, c1, HC1.out, by simp, HOI10.out.or_, HB10.out⟩
          · skip
            have HV := Lib.hid hv; clear hv
            go_wp2_with fail
            refine HJR.out.mono ?_
            rintro e w9 ⟨rfl, hb9⟩
            rw [HV.out]
            have HB10 := Lib.hid (HB9.out.trans (hb9.mono (by omega))); have HO10 := Lib.hid (HO9.out.below hb9); have HOI10 := Lib.hid (HOI9.out.call hb9); clear hb9
            go_wp2_with fail
            go_ret2
            rw [addE_yes HQ.out (by rw [HL2.out]; exact HV.out), HL2.out]
            exact ⟨A7, cA7, by dsimp only; rw [HLl.out]; exact hcp, by simp [HLl.out], HO10.out.more (by omega), HB10.out⟩
        · skip
          go_simp
          generalize hX : (v1.alloc (.cells #[.int .i64 nd, .int .i64 s9, .int .i64 t9, .int .i64 kd, .int .i64 pa, .int .i64 a, .int .i64 b9] 40)) = v2
          have hbn : Below v1.heap.size v1 v2 := by rw [← hX]; exact balloc _ _
          have zs : Has v2 v1.heap.size 40 #[.int .i64 nd, .int .i64 s9, .int .i64 t9, .int .i64 kd, .int .i64 pa, .int .i64 a, .int .i64 b9] := by rw [← hX]; exact has_new v1 _ _
          clear hX
          have hzl := has_lt zs
          have kk9 := own_kept9 HOW.out hbn; clear HOW; have HOW := Lib.hid kk9; clear kk9
          have hbx : Below wr.heap.size wr v2 := bthen Sv1.2 hbn
          have Sv2 : (fun W : World => (W.cell? ⟨ge, 0, none⟩ = some (.int .i64 nd) ∧ W.cell? ⟨ge, 1, none⟩ = some (.int .i64 s9) ∧ W.cell? ⟨ge, 2, none⟩ = some (.int .i64 t9) ∧ W.cell? ⟨ge, 3, none⟩ = some (.int .i64 kd) ∧ W.cell? ⟨ge, 4, none⟩ = some (.int .i64 pa) ∧ W.cell? ⟨ge, 5, none⟩ = some (.int .i64 a) ∧ W.cell? ⟨ge, 6, none⟩ = some (.int .i64 b9)) ∧ Below wr.heap.size wr W) v2 := ⟨⟨(bold hbx _ _ hgl).trans S0.1.1, (bold hbx _ _ hgl).trans S0.1.2.1, (bold hbx _ _ hgl).trans S0.1.2.2.1, (bold hbx _ _ hgl).trans S0.1.2.2.2.1, (bold hbx _ _ hgl).trans S0.1.2.2.2.2.1, (bold hbx _ _ hgl).trans S0.1.2.2.2.2.2.1, (bold hbx _ _ hgl).trans S0.1.2.2.2.2.2.2⟩, hbx⟩
          clear hbx
          have hsv2 := Sv2.2.size
          refine hK.out _ _ Sv2 (fun _ => ?_)
          clear hK K
          try simp only [Act.put, List.setIfInBounds_toArray, List.set_cons_zero, List.set_cons_succ]
          clear hbn
          refine wpAnyH_ready (rs := [4]) (by kernel_rfl) (by simp) ?_
          refine AllReadyH.cons rfl (fun K hK => ?_) AllReadyH.nil
          refine step_app rfl _ _ 24 rfl wr.heap.size 40 i0 (.agg #[.int .i64 0, .int .i64 0, .int .i64 0, .int .i64 0, .int .i64 0, .int .i64 0, .int .i64 0]) 7 56 Tryd.underlying24 I0.out Z0.out Z1.out Z2.out rfl (by decide) (.slice (some ⟨wr.heap.size, 0, none⟩) 0 0) (0) (evV []) rfl HOW.out (A) (q) (c) (evV (l.take q)) rfl (src_evn (by rw [List.length_take]; omega) (evL_take (HLR.out.below ((Sv2.2).mono hBr)) q)) (by unfold maxLen; omega) (by omega) (Sv2.2).size ?_
          intro A5 cA5 v3 hown hgrow hrow
          have hbn2 : Below wr.heap.size wr v3 := below_grow8 Sv2.2 hgrow (Sv2.2).size (fun b7 hb7 => (hrow b7 hb7).1)
          have zs9 := has_grown zs hgrow (by simp [Value.ownBlock]; omega); clear zs; have zs := zs9; clear zs9
          rw [show 0 + (q) = q by omega] at hown ⊢
          clear HOW; have HOW := Lib.hid hown; clear hown hrow hgrow
          change K (Act.put _ (some 75) _) _
          have hbx : Below wr.heap.size wr v3 := hbn2
          have Sv3 : (fun W : World => (W.cell? ⟨ge, 0, none⟩ = some (.int .i64 nd) ∧ W.cell? ⟨ge, 1, none⟩ = some (.int .i64 s9) ∧ W.cell? ⟨ge, 2, none⟩ = some (.int .i64 t9) ∧ W.cell? ⟨ge, 3, none⟩ = some (.int .i64 kd) ∧ W.cell? ⟨ge, 4, none⟩ = some (.int .i64 pa) ∧ W.cell? ⟨ge, 5, none⟩ = some (.int .i64 a) ∧ W.cell? ⟨ge, 6, none⟩ = some (.int .i64 b9)) ∧ Below wr.heap.size wr W) v3 := ⟨⟨(bold hbx _ _ hgl).trans S0.1.1, (bold hbx _ _ hgl).trans S0.1.2.1, (bold hbx _ _ hgl).trans S0.1.2.2.1, (bold hbx _ _ hgl).trans S0.1.2.2.2.1, (bold hbx _ _ hgl).trans S0.1.2.2.2.2.1, (bold hbx _ _ hgl).trans S0.1.2.2.2.2.2.1, (bold hbx _ _ hgl).trans S0.1.2.2.2.2.2.2⟩, hbx⟩
          clear hbx
          have hsv3 := Sv3.2.size
          refine hK.out _ _ Sv3 (fun _ => ?_)
          clear hK K
          try simp only [Act.put, List.setIfInBounds_toArray, List.set_cons_zero, List.set_cons_succ]
          clear hbn2
          refine wpAnyH_ready (rs := [7]) (by kernel_rfl) (by simp) ?_
          refine AllReadyH.cons rfl (fun K hK => ?_) AllReadyH.nil
          refine step_app rfl _ _ 24 rfl wr.heap.size 40 i0 (.agg #[.int .i64 0, .int .i64 0, .int .i64 0, .int .i64 0, .int .i64 0, .int .i64 0, .int .i64 0]) 7 56 Tryd.underlying24 I0.out Z0.out Z1.out Z2.out rfl (by decide) (.slice A5 (q) cA5) (q) (evV [] ++ evV (l.take q)) rfl HOW.out (some ⟨v1.heap.size, 0, none⟩) (1) (1) (#[.int .i64 nd, .int .i64 s9, .int .i64 t9, .int .i64 kd, .int .i64 pa, .int .i64 a, .int .i64 b9].toList) rfl (src_has8 zs 7 rfl (by simp [Value.oneCell'])) (by unfold maxLen; omega) (by omega) (Sv3.2).size ?_
          intro A6 cA6 v4 hown hgrow hrow
          have hbn2 : Below wr.heap.size wr v4 := below_grow8 Sv3.2 hgrow (Sv3.2).size (fun b7 hb7 => (hrow b7 hb7).1)
          rw [show q + (1) = q + 1 by omega] at hown ⊢
          clear HOW; have HOW := Lib.hid hown; clear hown hrow hgrow
          change K (Act.put _ (some 78) _) _
          have hbx : Below wr.heap.size wr v4 := hbn2
          have Sv4 : (fun W : World => (W.cell? ⟨ge, 0, none⟩ = some (.int .i64 nd) ∧ W.cell? ⟨ge, 1, none⟩ = some (.int .i64 s9) ∧ W.cell? ⟨ge, 2, none⟩ = some (.int .i64 t9) ∧ W.cell? ⟨ge, 3, none⟩ = some (.int .i64 kd) ∧ W.cell? ⟨ge, 4, none⟩ = some (.int .i64 pa) ∧ W.cell? ⟨ge, 5, none⟩ = some (.int .i64 a) ∧ W.cell? ⟨ge, 6, none⟩ = some (.int .i64 b9)) ∧ Below wr.heap.size wr W) v4 := ⟨⟨(bold hbx _ _ hgl).trans S0.1.1, (bold hbx _ _ hgl).trans S0.1.2.1, (bold hbx _ _ hgl).trans S0.1.2.2.1, (bold hbx _ _ hgl).trans S0.1.2.2.2.1, (bold hbx _ _ hgl).trans S0.1.2.2.2.2.1, (bold hbx _ _ hgl).trans S0.1.2.2.2.2.2.1, (bold hbx _ _ hgl).trans S0.1.2.2.2.2.2.2⟩, hbx⟩
          clear hbx
          have hsv4 := Sv4.2.size
          refine hK.out _ _ Sv4 (fun _ => ?_)
          clear hK K
          try simp only [Act.put, List.setIfInBounds_toArray, List.set_cons_zero, List.set_cons_succ]
          clear hbn2
          refine wpAnyH_ready (rs := [11]) (by kernel_rfl) (by simp) ?_
          refine AllReadyH.cons rfl (fun K hK => ?_) AllReadyH.nil
          refine step_app rfl _ _ 24 rfl wr.heap.size 40 i0 (.agg #[.int .i64 0, .int .i64 0, .int .i64 0, .int .i64 0, .int .i64 0, .int .i64 0, .int .i64 0]) 7 56 Tryd.underlying24 I0.out Z0.out Z1.out Z2.out rfl (by decide) (.slice A6 (q + 1) cA6) (q + 1) (evV [] ++ evV (l.take q) ++ #[.int .i64 nd, .int .i64 s9, .int .i64 t9, .int .i64 kd, .int .i64 pa, .int .i64 a, .int .i64 b9].toList) rfl HOW.out (dropA A c q) (l.length - q) (c - q) (evV (l.drop q)) rfl (src_evn (by rw [List.length_drop]) (evL_drop (HLR.out.below ((Sv4.2).mono hBr)) hcc)) (by unfold maxLen; omega) (by omega) (Sv4.2).size ?_
          intro A7 cA7 v5 hown hgrow hrow
          have hbn2 : Below wr.heap.size wr v5 := below_grow8 Sv4.2 hgrow (Sv4.2).size (fun b7 hb7 => (hrow b7 hb7).1)
          rw [show q + 1 + (l.length - q) = l.length + 1 by omega] at hown ⊢
          clear HOW; have HOW := Lib.hid hown; clear hown hrow hgrow
          change K (Act.put _ (some 82) _) _
          have hbx : Below wr.heap.size wr v5 := hbn2
          have Sv5 : (fun W : World => (W.cell? ⟨ge, 0, none⟩ = some (.int .i64 nd) ∧ W.cell? ⟨ge, 1, none⟩ = some (.int .i64 s9) ∧ W.cell? ⟨ge, 2, none⟩ = some (.int .i64 t9) ∧ W.cell? ⟨ge, 3, none⟩ = some (.int .i64 kd) ∧ W.cell? ⟨ge, 4, none⟩ = some (.int .i64 pa) ∧ W.cell? ⟨ge, 5, none⟩ = some (.int .i64 a) ∧ W.cell? ⟨ge, 6, none⟩ = some (.int .i64 b9)) ∧ Below wr.heap.size wr W) v5 := ⟨⟨(bold hbx _ _ hgl).trans S0.1.1, (bold hbx _ _ hgl).trans S0.1.2.1, (bold hbx _ _ hgl).trans S0.1.2.2.1, (bold hbx _ _ hgl).trans S0.1.2.2.2.1, (bold hbx _ _ hgl).trans S0.1.2.2.2.2.1, (bold hbx _ _ hgl).trans S0.1.2.2.2.2.2.1, (bold hbx _ _ hgl).trans S0.1.2.2.2.2.2.2⟩, hbx⟩
          clear hbx
          have hsv5 := Sv5.2.size
          refine hK.out _ _ Sv5 (fun _ => ?_)
          clear hK K
          try simp only [Act.put, List.setIfInBounds_toArray, List.set_cons_zero, List.set_cons_succ]
          clear hbn2
          refine any_take (i := 12) (some 18) (.slice A7 (l.length + 1) cA7) rfl rfl (by kernel_rfl) (by kernel_rfl) (by kernel_rfl) (fun _ _ _ h => h) rfl (fun W hSw => ?_) (Sv5) ?_
          · (try dsimp only at hSw); go_simp <;> with_reducible rfl
          try simp only [Act.put, List.setIfInBounds_toArray, List.set_cons_zero, List.set_cons_succ]
          refine wpAnyH_done (by kernel_rfl) ?_ _
          have hown9 : v5.ownsRow wr.heap.size 40 7 (.slice A7 (l.length + 1) cA7) (l.length + 1) (evV L2) := by have h := HOW.out; rw [HL3.out, evV_app, show evV (⟨nd, s9, t9, kd, pa, a, b9⟩ :: l.drop q) = evV [⟨nd, s9, t9, kd, pa, a, b9⟩] ++ evV (l.drop q) from rfl, evV_one]; simpa [evV] using h
          have hcp := own_cap8 hown9
          have HO9 := Lib.hid (own_or hown9); have HB9 := Lib.hid (HB.out.trans (Sv5.2.mono hsz)); have HOI9 := Lib.hid (HOI.out.call Sv5.2); have hs9 := (Sv5.2).size
          clear hown9 HOW S0 Sv1 Sv2 Sv3 Sv4 Sv5 zs
          have hjr := jrnS_any v5 v5.heap.size A7 cA7 L2 (by rw [HLl.out]; unfold maxLen; omega) (Nat.le_refl _) HO9.out.ev
          rw [HLl.out] at hjr
          have HJR := Lib.hid hjr; clear hjr
          cases hv : jrnB L2
          · skip
            have HV := Lib.hid hv; clear hv
            go_wp2_with fail
            refine HJR.out.mono ?_
            rintro e w9 ⟨rfl, hb9⟩
            rw [HV.out]
            have HB10 := Lib.hid (HB9.out.trans (hb9.mono (by omega))); have HO10 := Lib.hid (HO9.out.below hb9); have HOI10 := Lib.hid (HOI9.out.call hb9); clear hb9
            go_wp2_with fail
            go_ret2
            rw [addE_no (by rw [HL2.out]; exact HV.out)]
            exact ⟨A1, c1, HC1.out, by simp, HOI10.out.or_, HB10.out⟩
          · skip
            have HV := Lib.hid hv; clear hv
            go_wp2_with fail
            refine HJR.out.mono ?_
            rintro e w9 ⟨rfl, hb9⟩
            rw [HV.out]
            have HB10 := Lib.hid (HB9.out.trans (hb9.mono (by omega))); have HO10 := Lib.hid (HO9.out.below hb9); have HOI10 := Lib.hid (HOI9.out.call hb9); clear hb9
            go_wp2_with fail
            go_ret2
            rw [addE_yes HQ.out (by rw [HL2.out]; exact HV.out), HL2.out]
            exact ⟨A7, cA7, by dsimp only; rw [HLl.out]; exact hcp, by simp [HLl.out], HO10.out.more (by omega), HB10.out⟩
      · skip
        go_simp
        generalize hX : (wr.alloc (.cells #[.int .i64 nd, .int .i64 s9, .int .i64 t9, .int .i64 kd, .int .i64 pa, .int .i64 a, .int .i64 b9] 40)).drew = v1
        have hbn : Below wr.drew.heap.size wr.drew v1 := by rw [← hX]; exact balloc _ _
        have zs : Has v1 wr.heap.size 40 #[.int .i64 nd, .int .i64 s9, .int .i64 t9, .int .i64 kd, .int .i64 pa, .int .i64 a, .int .i64 b9] := by rw [← hX]; exact has_new wr.drew _ _
        clear hX
        have hzl := has_lt zs
        have hbx : Below wr.heap.size wr v1 := bthen S0.2 hbn
        have Sv1 : (fun W : World => (W.cell? ⟨ge, 0, none⟩ = some (.int .i64 nd) ∧ W.cell? ⟨ge, 1, none⟩ = some (.int .i64 s9) ∧ W.cell? ⟨ge, 2, none⟩ = some (.int .i64 t9) ∧ W.cell? ⟨ge, 3, none⟩ = some (.int .i64 kd) ∧ W.cell? ⟨ge, 4, none⟩ = some (.int .i64 pa) ∧ W.cell? ⟨ge, 5, none⟩ = some (.int .i64 a) ∧ W.cell? ⟨ge, 6, none⟩ = some (.int .i64 b9)) ∧ Below wr.heap.size wr W) v1 := ⟨⟨(bold hbx _ _ hgl).trans S0.1.1, (bold hbx _ _ hgl).trans S0.1.2.1, (bold hbx _ _ hgl).trans S0.1.2.2.1, (bold hbx _ _ hgl).trans S0.1.2.2.2.1, (bold hbx _ _ hgl).trans S0.1.2.2.2.2.1, (bold hbx _ _ hgl).trans S0.1.2.2.2.2.2.1, (bold hbx _ _ hgl).trans S0.1.2.2.2.2.2.2⟩, hbx⟩
        clear hbx
        have hsv1 := Sv1.2.size
        refine hK.out _ _ Sv1 (fun _ => ?_)
        clear hK K
        try simp only [Act.put, List.setIfInBounds_toArray, List.set_cons_zero, List.set_cons_succ]
        clear hbn
        refine wpAnyH_ready (rs := [0]) (by kernel_rfl) (by simp) ?_
        refine AllReadyH.cons rfl (fun K hK => ?_) AllReadyH.nil
        go_simp
        generalize hX : (v1.alloc (.cells #[] 40)) = v2
        have hbn : Below v1.heap.size v1 v2 := by rw [← hX]; exact balloc _ _
        have hown : v2.ownsRow wr.heap.size 40 7 (.slice (some ⟨v1.heap.size, 0, none⟩) 0 0) 0 (evV []) := by rw [← hX]; exact ev_own_new v1 wr.heap.size (Sv1.2).size
        clear hX
        have hrl := (hown.lt _ rfl).2; dsimp only at hrl
        have zs9 := has_call zs hbn; clear zs; have zs := zs9; clear zs9
        have HOW := Lib.hid hown; clear hown
        have hbx : Below wr.heap.size wr v2 := bthen Sv1.2 hbn
        have Sv2 : (fun W : World => (W.cell? ⟨ge, 0, none⟩ = some (.int .i64 nd) ∧ W.cell? ⟨ge, 1, none⟩ = some (.int .i64 s9) ∧ W.cell? ⟨ge, 2, none⟩ = some (.int .i64 t9) ∧ W.cell? ⟨ge, 3, none⟩ = some (.int .i64 kd) ∧ W.cell? ⟨ge, 4, none⟩ = some (.int .i64 pa) ∧ W.cell? ⟨ge, 5, none⟩ = some (.int .i64 a) ∧ W.cell? ⟨ge, 6, none⟩ = some (.int .i64 b9)) ∧ Below wr.heap.size wr W) v2 := ⟨⟨(bold hbx _ _ hgl).trans S0.1.1, (bold hbx _ _ hgl).trans S0.1.2.1, (bold hbx _ _ hgl).trans S0.1.2.2.1, (bold hbx _ _ hgl).trans S0.1.2.2.2.1, (bold hbx _ _ hgl).trans S0.1.2.2.2.2.1, (bold hbx _ _ hgl).trans S0.1.2.2.2.2.2.1, (bold hbx _ _ hgl).trans S0.1.2.2.2.2.2.2⟩, hbx⟩
        clear hbx
        have hsv2 := Sv2.2.size
        refine hK.out _ _ Sv2 (fun _ => ?_)
        clear hK K
        try simp only [Act.put, List.setIfInBounds_toArray, List.set_cons_zero, List.set_cons_succ]
        clear hbn
        refine wpAnyH_ready (rs := [4]) (by kernel_rfl) (by simp) ?_
        refine AllReadyH.cons rfl (fun K hK => ?_) AllReadyH.nil
        refine step_app rfl _ _ 24 rfl wr.heap.size 40 i0 (.agg #[.int .i64 0, .int .i64 0, .int .i64 0, .int .i64 0, .int .i64 0, .int .i64 0, .int .i64 0]) 7 56 Tryd.underlying24 I0.out Z0.out Z1.out Z2.out rfl (by decide) (.slice (some ⟨v1.heap.size, 0, none⟩) 0 0) (0) (evV []) rfl HOW.out (A) (q) (c) (evV (l.take q)) rfl (src_evn (by rw [List.length_take]; omega) (evL_take (HLR.out.below ((Sv2.2).mono hBr)) q)) (by unfold maxLen; omega) (by omega) (Sv2.2).size ?_
        intro A5 cA5 v3 hown hgrow hrow
        have hbn2 : Below wr.heap.size wr v3 := below_grow8 Sv2.2 hgrow (Sv2.2).size (fun b7 hb7 => (hrow b7 hb7).1)
        have zs9 := has_grown zs hgrow (by simp [Value.ownBlock]; omega); clear zs; have zs := zs9; clear zs9
        rw [show 0 + (q) = q by omega] at hown ⊢
        clear HOW; have HOW := Lib.hid hown; clear hown hrow hgrow
        change K (Act.put _ (some 75) _) _
        have hbx : Below wr.heap.size wr v3 := hbn2
        have Sv3 : (fun W : World => (W.cell? ⟨ge, 0, none⟩ = some (.int .i64 nd) ∧ W.cell? ⟨ge, 1, none⟩ = some (.int .i64 s9) ∧ W.cell? ⟨ge, 2, none⟩ = some (.int .i64 t9) ∧ W.cell? ⟨ge, 3, none⟩ = some (.int .i64 kd) ∧ W.cell? ⟨ge, 4, none⟩ = some (.int .i64 pa) ∧ W.cell? ⟨ge, 5, none⟩ = some (.int .i64 a) ∧ W.cell? ⟨ge, 6, none⟩ = some (.int .i64 b9)) ∧ Below wr.heap.size wr W) v3 := ⟨⟨(bold hbx _ _ hgl).trans S0.1.1, (bold hbx _ _ hgl).trans S0.1.2.1, (bold hbx _ _ hgl).trans S0.1.2.2.1, (bold hbx _ _ hgl).trans S0.1.2.2.2.1, (bold hbx _ _ hgl).trans S0.1.2.2.2.2.1, (bold hbx _ _ hgl).trans S0.1.2.2.2.2.2.1, (bold hbx _ _ hgl).trans S0.1.2.2.2.2.2.2⟩, hbx⟩
        clear hbx
        have hsv3 := Sv3.2.size
        refine hK.out _ _ Sv3 (fun _ => ?_)
        clear hK K
        try simp only [Act.put, List.setIfInBounds_toArray, List.set_cons_zero, List.set_cons_succ]
        clear hbn2
        refine wpAnyH_ready (rs := [7]) (by kernel_rfl) (by simp) ?_
        refine AllReadyH.cons rfl (fun K hK => ?_) AllReadyH.nil
        refine step_app rfl _ _ 24 rfl wr.heap.size 40 i0 (.agg #[.int .i64 0, .int .i64 0, .int .i64 0, .int .i64 0, .int .i64 0, .int .i64 0, .int .i64 0]) 7 56 Tryd.underlying24 I0.out Z0.out Z1.out Z2.out rfl (by decide) (.slice A5 (q) cA5) (q) (evV [] ++ evV (l.take q)) rfl HOW.out (some ⟨wr.heap.size, 0, none⟩) (1) (1) (#[.int .i64 nd, .int .i64 s9, .int .i64 t9, .int .i64 kd, .int .i64 pa, .int .i64 a, .int .i64 b9].toList) rfl (src_has8 zs 7 rfl (by simp [Value.oneCell'])) (by unfold maxLen; omega) (by omega) (Sv3.2).size ?_
        intro A6 cA6 v4 hown hgrow hrow
        have hbn2 : Below wr.heap.size wr v4 := below_grow8 Sv3.2 hgrow (Sv3.2).size (fun b7 hb7 => (hrow b7 hb7).1)
        rw [show q + (1) = q + 1 by omega] at hown ⊢
        clear HOW; have HOW := Lib.hid hown; clear hown hrow hgrow
        change K (Act.put _ (some 78) _) _
        have hbx : Below wr.heap.size wr v4 := hbn2
        have Sv4 : (fun W : World => (W.cell? ⟨ge, 0, none⟩ = some (.int .i64 nd) ∧ W.cell? ⟨ge, 1, none⟩ = some (.int .i64 s9) ∧ W.cell? ⟨ge, 2, none⟩ = some (.int .i64 t9) ∧ W.cell? ⟨ge, 3, none⟩ = some (.int .i64 kd) ∧ W.cell? ⟨ge, 4, none⟩ = some (.int .i64 pa) ∧ W.cell? ⟨ge, 5, none⟩ = some (.int .i64 a) ∧ W.cell? ⟨ge, 6, none⟩ = some (.int .i64 b9)) ∧ Below wr.heap.size wr W) v4 := ⟨⟨(bold hbx _ _ hgl).trans S0.1.1, (bold hbx _ _ hgl).trans S0.1.2.1, (bold hbx _ _ hgl).trans S0.1.2.2.1, (bold hbx _ _ hgl).trans S0.1.2.2.2.1, (bold hbx _ _ hgl).trans S0.1.2.2.2.2.1, (bold hbx _ _ hgl).trans S0.1.2.2.2.2.2.1, (bold hbx _ _ hgl).trans S0.1.2.2.2.2.2.2⟩, hbx⟩
        clear hbx
        have hsv4 := Sv4.2.size
        refine hK.out _ _ Sv4 (fun _ => ?_)
        clear hK K
        try simp only [Act.put, List.setIfInBounds_toArray, List.set_cons_zero, List.set_cons_succ]
        clear hbn2
        refine wpAnyH_ready (rs := [11]) (by kernel_rfl) (by simp) ?_
        refine AllReadyH.cons rfl (fun K hK => ?_) AllReadyH.nil
        refine step_app rfl _ _ 24 rfl wr.heap.size 40 i0 (.agg #[.int .i64 0, .int .i64 0, .int .i64 0, .int .i64 0, .int .i64 0, .int .i64 0, .int .i64 0]) 7 56 Tryd.underlying24 I0.out Z0.out Z1.out Z2.out rfl (by decide) (.slice A6 (q + 1) cA6) (q + 1) (evV [] ++ evV (l.take q) ++ #[.int .i64 nd, .int .i64 s9, .int .i64 t9, .int .i64 kd, .int .i64 pa, .int .i64 a, .int .i64 b9].toList) rfl HOW.out (dropA A c q) (l.length - q) (c - q) (evV (l.drop q)) rfl (src_evn (by rw [List.length_drop]) (evL_drop (HLR.out.below ((Sv4.2).mono hBr)) hcc)) (by unfold maxLen; omega) (by omega) (Sv4.2).size ?_
        intro A7 cA7 v5 hown hgrow hrow
        have hbn2 : Below wr.heap.size wr v5 := below_grow8 Sv4.2 hgrow (Sv4.2).size (fun b7 hb7 => (hrow b7 hb7).1)
        rw [show q + 1 + (l.length - q) = l.length + 1 by omega] at hown ⊢
        clear HOW; have HOW := Lib.hid hown; clear hown hrow hgrow
        change K (Act.put _ (some 82) _) _
        have hbx : Below wr.heap.size wr v5 := hbn2
        have Sv5 : (fun W : World => (W.cell? ⟨ge, 0, none⟩ = some (.int .i64 nd) ∧ W.cell? ⟨ge, 1, none⟩ = some (.int .i64 s9) ∧ W.cell? ⟨ge, 2, none⟩ = some (.int .i64 t9) ∧ W.cell? ⟨ge, 3, none⟩ = some (.int .i64 kd) ∧ W.cell? ⟨ge, 4, none⟩ = some (.int .i64 pa) ∧ W.cell? ⟨ge, 5, none⟩ = some (.int .i64 a) ∧ W.cell? ⟨ge, 6, none⟩ = some (.int .i64 b9)) ∧ Below wr.heap.size wr W) v5 := ⟨⟨(bold hbx _ _ hgl).trans S0.1.1, (bold hbx _ _ hgl).trans S0.1.2.1, (bold hbx _ _ hgl).trans S0.1.2.2.1, (bold hbx _ _ hgl).trans S0.1.2.2.2.1, (bold hbx _ _ hgl).trans S0.1.2.2.2.2.1, (bold hbx _ _ hgl).trans S0.1.2.2.2.2.2.1, (bold hbx _ _ hgl).trans S0.1.2.2.2.2.2.2⟩, hbx⟩
        clear hbx
        have hsv5 := Sv5.2.size
        refine hK.out _ _ Sv5 (fun _ => ?_)
        clear hK K
        try simp only [Act.put, List.setIfInBounds_toArray, List.set_cons_zero, List.set_cons_succ]
        clear hbn2
        refine any_take (i := 12) (some 18) (.slice A7 (l.length + 1) cA7) rfl rfl (by kernel_rfl) (by kernel_rfl) (by kernel_rfl) (fun _ _ _ h => h) rfl (fun W hSw => ?_) (Sv5) ?_
        · (try dsimp only at hSw); go_simp <;> with_reducible rfl
        try simp only [Act.put, List.setIfInBounds_toArray, List.set_cons_zero, List.set_cons_succ]
        refine wpAnyH_done (by kernel_rfl) ?_ _
        have hown9 : v5.ownsRow wr.heap.size 40 7 (.slice A7 (l.length + 1) cA7) (l.length + 1) (evV L2) := by have h := HOW.out; rw [HL3.out, evV_app, show evV (⟨nd, s9, t9, kd, pa, a, b9⟩ :: l.drop q) = evV [⟨nd, s9, t9, kd, pa, a, b9⟩] ++ evV (l.drop q) from rfl, evV_one]; simpa [evV] using h
        have hcp := own_cap8 hown9
        have HO9 := Lib.hid (own_or hown9); have HB9 := Lib.hid (HB.out.trans (Sv5.2.mono hsz)); have HOI9 := Lib.hid (HOI.out.call Sv5.2); have hs9 := (Sv5.2).size
        clear hown9 HOW S0 Sv1 Sv2 Sv3 Sv4 Sv5 zs
        have hjr := jrnS_any v5 v5.heap.size A7 cA7 L2 (by rw [HLl.out]; unfold maxLen; omega) (Nat.le_refl _) HO9.out.ev
        rw [HLl.out] at hjr
        have HJR := Lib.hid hjr; clear hjr
        cases hv : jrnB L2
        · skip
          have HV := Lib.hid hv; clear hv
          go_wp2_with fail
          refine HJR.out.mono ?_
          rintro e w9 ⟨rfl, hb9⟩
          rw [HV.out]
          have HB10 := Lib.hid (HB9.out.trans (hb9.mono (by omega))); have HO10 := Lib.hid (HO9.out.below hb9); have HOI10 := Lib.hid (HOI9.out.call hb9); clear hb9
          go_wp2_with fail
          go_ret2
          rw [addE_no (by rw [HL2.out]; exact HV.out)]
          exact ⟨A1, c1, HC1.out, by simp, HOI10.out.or_, HB10.out⟩
        · skip
          have HV := Lib.hid hv; clear hv
          go_wp2_with fail
          refine HJR.out.mono ?_
          rintro e w9 ⟨rfl, hb9⟩
          rw [HV.out]
          have HB10 := Lib.hid (HB9.out.trans (hb9.mono (by omega))); have HO10 := Lib.hid (HO9.out.below hb9); have HOI10 := Lib.hid (HOI9.out.call hb9); clear hb9
          go_wp2_with fail
          go_ret2
          rw [addE_yes HQ.out (by rw [HL2.out]; exact HV.out), HL2.out]
          exact ⟨A7, cA7, by dsimp only; rw [HLl.out]; exact hcp, by simp [HLl.out], HO10.out.more (by omega), HB10.out⟩
theorem addS_any8 (w : World) (B : Nat) (A : Option Addr) (c : Nat) (l : List Ev) (nd kd pa a b9 : Int) (hl : l.length ≤ 1048576) (hcc : l.length ≤ c) (hB : B ≤ w.heap.size) (hS : evL w B A l) : Calls Tryd.prog 36 #[.slice A l.length c, .int .i64 nd, .int .i64 kd, .int .i64 pa, .int .i64 a, .int .i64 b9] w (AnsE2 (addE l nd kd pa a b9) w) := by
  cases hq : jrnB l
  · exact addS_bad8 w B A c l nd kd pa a b9 hl hcc hB hS hq
  · exact addS_good8 w B A c l nd kd pa a b9 hl hcc hB hS hq
end Go.Proofs.YtdcejkompdbliaaDoor
