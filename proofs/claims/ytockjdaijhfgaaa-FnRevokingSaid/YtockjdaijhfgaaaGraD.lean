/- Chapter 5: contracts of Revoke, both sides (gen_grr.py). -/
import Derived.Test.YtockjdaijhfgaaaGraC
namespace Go.Proofs.Ytockjdaijhfgaaa
open Go.RowKit
set_option linter.unusedVariables false
def offG (x : Gr) : Gr := { x with off := true }
def revG (l : List Gr) (i : Int) : List Gr × Bool :=
  if grantsB l && decide (0 ≤ i) && decide (i < (l.length : Int)) && !((l[i.toNat]?).getD zeroG).off then (l.set i.toNat (offG ((l[i.toNat]?).getD zeroG)), true) else (l, false)
theorem revG_no {l : List Gr} {i : Int} (h : grantsB l = false ∨ i < 0 ∨ (l.length : Int) ≤ i) : revG l i = (l, false) := by
  unfold revG; rw [if_neg]
  rcases h with h | h | h
  · simp [h]
  · have : decide (0 ≤ i) = false := by simp; omega
    simp [this]
  · have : decide (i < (l.length : Int)) = false := by simp; omega
    simp [this]
theorem revG_off {l : List Gr} {k : Nat} {x : Gr} (hx : l[k]? = some x) (h : x.off = true) : revG l (k : Int) = (l, false) := by
  unfold revG; rw [if_neg]; simp [hx, h]
theorem revG_yes {l : List Gr} {k : Nat} {x : Gr} (hx : l[k]? = some x) (hq : grantsB l = true) (h : x.off = false) : revG l (k : Int) = (l.set k (offG x), true) := by
  have hk : k < l.length := (List.getElem?_eq_some_iff.1 hx).1
  unfold revG; rw [if_pos]
  · simp [hx]
  · rw [hq, Int.toNat_natCast, hx, Option.getD_some, h]; simp [hk]
theorem revG_len (l : List Gr) (i : Int) : (revG l i).1.length = l.length := by unfold revG; split <;> simp
theorem grV_set : ∀ (l : List Gr) (k : Nat) (x : Gr), l[k]? = some x → grV (l.set k (offG x)) = (grV l).set (k * 7 + 6) (.bool true)
  | [], k, x, h => by simp at h
  | a :: r, 0, x, h => by simp at h; subst h; simp [grV, grC, offG]
  | a :: r, k + 1, x, h => by
    have ih := grV_set r k x (by simpa using h)
    have e : ∀ q : List Gr, grV (a :: q) = .int .i64 a.frm :: .int .i64 a.to :: .int .i64 a.par :: .int .i64 a.dep :: .int .i64 a.sta :: .int .i64 a.fin :: .bool a.off :: grV q := fun q => rfl
    rw [List.set_cons_succ, e, e, ih, show (k + 1) * 7 + 6 = (k * 7 + 6) + 1 + 1 + 1 + 1 + 1 + 1 + 1 by omega]
    simp only [List.set_cons_succ]

set_option maxRecDepth 100000 in
set_option maxHeartbeats 2000000 in
theorem revI_a (w : World) (B : Nat) (A : Option Addr) (c : Nat) (l : List Gr) (i : Int) (hl : l.length ≤ 1048576) (hB : B ≤ w.heap.size) (hS : grL w B A l) (hq : grantsB l = false) : Calls Try.prog 27 #[.slice A l.length c, .int .i64 i] w (AnsG (revG l i) w) := by
  have HS := Lib.hid hS; have HQ := Lib.hid hq; clear hS hq
  have hlm : l.length ≤ maxLen := by unfold maxLen; omega
  go_enter Try.func27, Try.ntmps27
  go_wp2_with fail
  refine (cloneGrant_any w B A c l hl hB HS.out).mono ?_
  rintro e w1 ⟨A1, m1, rfl, hown, hb⟩
  have b1 := hb; have OW := Lib.hid hown; clear hown hb
  have B1 := Lib.hid b1; have hs1 := b1.size; clear b1
  go_wp2_with fail
  refine (grantsI_any w1 B A c l hlm (by omega) (HS.out.later hB B1.out)).mono ?_
  rintro e w2 ⟨rfl, hb⟩
  rw [HQ.out]
  have b1 := bthen B1.out hb; have OW2 := Lib.hid (own_kept OW.out hb); clear OW B1 hb
  have B1 := Lib.hid b1; have hs2 := b1.size; clear b1
  go_wp2_with fail
  go_ret2
  rw [revG_no (.inl HQ.out)]
  exact ⟨A1, m1, rfl, own_or OW2.out, B1.out⟩
set_option maxRecDepth 100000 in
set_option maxHeartbeats 2000000 in
theorem revI_b (w : World) (B : Nat) (A : Option Addr) (c : Nat) (l : List Gr) (i : Int) (hl : l.length ≤ 1048576) (hB : B ≤ w.heap.size) (hS : grL w B A l) (hq : grantsB l = true) (hi : i < 0) : Calls Try.prog 27 #[.slice A l.length c, .int .i64 i] w (AnsG (revG l i) w) := by
  have HS := Lib.hid hS; have HQ := Lib.hid hq; clear hS hq
  have hlm : l.length ≤ maxLen := by unfold maxLen; omega
  go_enter Try.func27, Try.ntmps27
  go_wp2_with fail
  refine (cloneGrant_any w B A c l hl hB HS.out).mono ?_
  rintro e w1 ⟨A1, m1, rfl, hown, hb⟩
  have b1 := hb; have OW := Lib.hid hown; clear hown hb
  have B1 := Lib.hid b1; have hs1 := b1.size; clear b1
  go_wp2_with fail
  refine (grantsI_any w1 B A c l hlm (by omega) (HS.out.later hB B1.out)).mono ?_
  rintro e w2 ⟨rfl, hb⟩
  rw [HQ.out]
  have b1 := bthen B1.out hb; have OW2 := Lib.hid (own_kept OW.out hb); clear OW B1 hb
  have B1 := Lib.hid b1; have hs2 := b1.size; clear b1
  go_wp2_with fail
  go_ret2
  rw [revG_no (.inr (.inl hi))]
  exact ⟨A1, m1, rfl, own_or OW2.out, B1.out⟩
set_option maxRecDepth 100000 in
set_option maxHeartbeats 2000000 in
theorem revI_c (w : World) (B : Nat) (A : Option Addr) (c : Nat) (l : List Gr) (i : Int) (hl : l.length ≤ 1048576) (hB : B ≤ w.heap.size) (hS : grL w B A l) (hq : grantsB l = true) (h0 : 0 ≤ i) (hi : (l.length : Int) ≤ i) : Calls Try.prog 27 #[.slice A l.length c, .int .i64 i] w (AnsG (revG l i) w) := by
  have HS := Lib.hid hS; have HQ := Lib.hid hq; clear hS hq
  have hlm : l.length ≤ maxLen := by unfold maxLen; omega
  go_enter Try.func27, Try.ntmps27
  go_wp2_with fail
  refine (cloneGrant_any w B A c l hl hB HS.out).mono ?_
  rintro e w1 ⟨A1, m1, rfl, hown, hb⟩
  have b1 := hb; have OW := Lib.hid hown; clear hown hb
  have B1 := Lib.hid b1; have hs1 := b1.size; clear b1
  go_wp2_with fail
  refine (grantsI_any w1 B A c l hlm (by omega) (HS.out.later hB B1.out)).mono ?_
  rintro e w2 ⟨rfl, hb⟩
  rw [HQ.out]
  have b1 := bthen B1.out hb; have OW2 := Lib.hid (own_kept OW.out hb); clear OW B1 hb
  have B1 := Lib.hid b1; have hs2 := b1.size; clear b1
  go_wp2_with fail
  go_ret2
  rw [revG_no (.inr (.inr hi))]
  exact ⟨A1, m1, rfl, own_or OW2.out, B1.out⟩
set_option maxRecDepth 100000 in
set_option maxHeartbeats 2000000 in
theorem revI_d (w : World) (B : Nat) (A : Option Addr) (c : Nat) (l : List Gr) (k : Nat) (x0 x1 x2 x3 x4 x5 : Int) (hl : l.length ≤ 1048576) (hB : B ≤ w.heap.size) (hS : grL w B A l) (hq : grantsB l = true) (hx : l[k]? = some ⟨x0, x1, x2, x3, x4, x5, true⟩) : Calls Try.prog 27 #[.slice A l.length c, .int .i64 (k : Int)] w (AnsG (revG l (k : Int)) w) := by
  have hk : k < l.length := (List.getElem?_eq_some_iff.1 hx).1
  obtain ⟨b, off, x', rfl, hbB, hx', q0, q1, q2, q3, q4, q5, q6⟩ := hS.at_ hk
  rw [hx] at hx'; injection hx' with hx'; subst hx'
  dsimp only at q6
  have H6 := Lib.hid q6; clear q0 q1 q2 q3 q4 q5 q6
  have HX := Lib.hid hx; clear hx
  have HS := Lib.hid hS; have HQ := Lib.hid hq; clear hS hq
  have hlm : l.length ≤ maxLen := by unfold maxLen; omega
  go_enter Try.func27, Try.ntmps27
  go_wp2_with fail
  refine (cloneGrant_any w B (some ⟨b, off, none⟩) c l hl hB HS.out).mono ?_
  rintro e w1 ⟨A1, m1, rfl, hown, hb⟩
  have b1 := hb; have OW := Lib.hid hown; clear hown hb
  have B1 := Lib.hid b1; have hs1 := b1.size; clear b1
  go_wp2_with fail
  refine (grantsI_any w1 B (some ⟨b, off, none⟩) c l hlm (by omega) (HS.out.later hB B1.out)).mono ?_
  rintro e w2 ⟨rfl, hb⟩
  rw [HQ.out]
  have b1 := bthen B1.out hb; have OW2 := Lib.hid (own_kept OW.out hb); clear OW B1 hb
  have B1 := Lib.hid b1; have hs2 := b1.size; clear b1
  have q6 := (B1.out.cell (p := ⟨b, off + k * 7 + 6, none⟩) (by show b < w.heap.size; omega)).trans H6.out
  go_wp2_with fail
  go_ret2
  rw [revG_off HX.out rfl]
  exact ⟨A1, m1, rfl, own_or OW2.out, B1.out⟩
set_option maxRecDepth 100000 in
set_option maxHeartbeats 2000000 in
theorem revI_e (w : World) (B : Nat) (A : Option Addr) (c : Nat) (l : List Gr) (k : Nat) (x0 x1 x2 x3 x4 x5 : Int) (hl : l.length ≤ 1048576) (hB : B ≤ w.heap.size) (hS : grL w B A l) (hq : grantsB l = true) (hx : l[k]? = some ⟨x0, x1, x2, x3, x4, x5, false⟩) : Calls Try.prog 27 #[.slice A l.length c, .int .i64 (k : Int)] w (AnsG (revG l (k : Int)) w) := by
  have hk : k < l.length := (List.getElem?_eq_some_iff.1 hx).1
  obtain ⟨b, off, x', rfl, hbB, hx', q0, q1, q2, q3, q4, q5, q6⟩ := hS.at_ hk
  rw [hx] at hx'; injection hx' with hx'; subst hx'
  dsimp only at q6
  have H6 := Lib.hid q6; clear q0 q1 q2 q3 q4 q5 q6
  have HX := Lib.hid hx; clear hx
  have HS := Lib.hid hS; have HQ := Lib.hid hq; clear hS hq
  have hlm : l.length ≤ maxLen := by unfold maxLen; omega
  go_enter Try.func27, Try.ntmps27
  go_wp2_with fail
  refine (cloneGrant_any w B (some ⟨b, off, none⟩) c l hl hB HS.out).mono ?_
  rintro e w1 ⟨A1, m1, rfl, hown, hb⟩
  have b1 := hb; have OW := Lib.hid hown; clear hown hb
  have B1 := Lib.hid b1; have hs1 := b1.size; clear b1
  go_wp2_with fail
  refine (grantsI_any w1 B (some ⟨b, off, none⟩) c l hlm (by omega) (HS.out.later hB B1.out)).mono ?_
  rintro e w2 ⟨rfl, hb⟩
  rw [HQ.out]
  have b1 := bthen B1.out hb; have OW2 := Lib.hid (own_kept OW.out hb); clear OW B1 hb
  have B1 := Lib.hid b1; have hs2 := b1.size; clear b1
  have q6 := (B1.out.cell (p := ⟨b, off + k * 7 + 6, none⟩) (by show b < w.heap.size; omega)).trans H6.out
  have hpos : 0 < l.length := by omega
  obtain ⟨g, cap, hform, hg1, hg2⟩ := OW2.out.form hpos
  injection hform with hf1 hf2 hf3; subst hf1 hf3; clear hf2
  have hat := OW2.out.cellAt (k * 7 + 6) (by omega)
  rw [(grV_at HX.out).2.2.2.2.2.2] at hat
  have hfr := OW2.out.frozenAt (k * 7 + 6)
  have HST := Lib.hid (OW2.out.stored (k * 7 + 6) (.bool true)); clear OW2
  go_wp2_with fail
  go_ret2
  have hst := HST.out.1
  rw [revG_yes HX.out HQ.out rfl]
  exact ⟨some ⟨g, 0, none⟩, m1, by simp, by rw [grV_set _ _ _ HX.out]; exact own_or hst, B1.out.setCell hg1 _⟩
theorem revI_any (w : World) (B : Nat) (A : Option Addr) (c : Nat) (l : List Gr) (i : Int) (hl : l.length ≤ 1048576) (hB : B ≤ w.heap.size) (hS : grL w B A l) : Calls Try.prog 27 #[.slice A l.length c, .int .i64 i] w (AnsG (revG l i) w) := by
  cases hq : grantsB l
  · exact revI_a w B A c l i hl hB hS hq
  by_cases h0 : i < 0
  · exact revI_b w B A c l i hl hB hS hq h0
  by_cases h1 : (l.length : Int) ≤ i
  · exact revI_c w B A c l i hl hB hS hq (by omega) h1
  obtain ⟨k, rfl⟩ := Int.eq_ofNat_of_zero_le (Int.not_lt.1 h0)
  have hk : k < l.length := by omega
  obtain ⟨x, hx⟩ : ∃ x, l[k]? = some x := ⟨_, List.getElem?_eq_getElem hk⟩
  obtain ⟨x0, x1, x2, x3, x4, x5, x6⟩ := x
  cases x6
  · exact revI_e w B A c l k x0 x1 x2 x3 x4 x5 hl hB hS hq hx
  · exact revI_d w B A c l k x0 x1 x2 x3 x4 x5 hl hB hS hq hx
set_option maxRecDepth 100000 in
set_option maxHeartbeats 2000000 in
theorem revS_a (w : World) (B : Nat) (A : Option Addr) (c : Nat) (l : List Gr) (i : Int) (hl : l.length ≤ 1048576) (hB : B ≤ w.heap.size) (hS : grL w B A l) (hq : grantsB l = false) : Calls Try.prog 28 #[.slice A l.length c, .int .i64 i] w (AnsG (revG l i) w) := by
  have HS := Lib.hid hS; have HQ := Lib.hid hq; clear hS hq
  have hlm : l.length ≤ maxLen := by unfold maxLen; omega
  obtain ⟨i0, hi0, hz0, hz1, hz2⟩ := info_parts grInfo
  have I0 := Lib.hid hi0; have Z0 := Lib.hid hz0; have Z1 := Lib.hid hz1; have Z2 := Lib.hid hz2; clear hi0 hz0 hz1 hz2
  go_enter Try.func28, Try.ntmps28
  go_wp2_with (at_builtin; go_must (refine list_app rfl _ _ 24 rfl w.heap.size 35 i0 (.agg #[.int .i64 0, .int .i64 0, .int .i64 0, .int .i64 0, .int .i64 0, .int .i64 0, .bool false]) 7 56 Try.underlying24 I0.out Z0.out Z1.out Z2.out rfl (by decide) _ 0 [] rfl (owns_at _ _ _ _ w.heap.size (by simp) (Nat.le_refl _)) A l.length c (grV l) rfl (src_gr (HS.out.below ((balloc _ _).mono hB))) (by unfold maxLen; omega) (by omega) (by simp) ?_))
  intro A1 m1 w1 hown hgrow _
  have b1 : Below w.heap.size w w1 := (balloc w (.cells #[] 35)).grown hgrow (by simp) (fun k hk => by simp [Value.ownBlock] at hk ⊢; omega)
  have OW := Lib.hid hown; clear hown hgrow
  have B1 := Lib.hid b1; have hs1 := b1.size; clear b1
  go_wp2_with fail
  refine (grantsS_any w1 B A c l hlm (by omega) (HS.out.later hB B1.out)).mono ?_
  rintro e w2 ⟨rfl, hb⟩
  rw [HQ.out]
  have b1 := bthen B1.out hb; have OW2 := Lib.hid (own_kept OW.out hb); clear OW B1 hb
  have B1 := Lib.hid b1; have hs2 := b1.size; clear b1
  go_wp2_with fail
  go_ret2
  rw [revG_no (.inl HQ.out)]
  exact ⟨A1, m1, rfl, own_or OW2.out, B1.out⟩
set_option maxRecDepth 100000 in
set_option maxHeartbeats 2000000 in
theorem revS_b (w : World) (B : Nat) (A : Option Addr) (c : Nat) (l : List Gr) (i : Int) (hl : l.length ≤ 1048576) (hB : B ≤ w.heap.size) (hS : grL w B A l) (hq : grantsB l = true) (hi : i < 0) : Calls Try.prog 28 #[.slice A l.length c, .int .i64 i] w (AnsG (revG l i) w) := by
  have HS := Lib.hid hS; have HQ := Lib.hid hq; clear hS hq
  have hlm : l.length ≤ maxLen := by unfold maxLen; omega
  obtain ⟨i0, hi0, hz0, hz1, hz2⟩ := info_parts grInfo
  have I0 := Lib.hid hi0; have Z0 := Lib.hid hz0; have Z1 := Lib.hid hz1; have Z2 := Lib.hid hz2; clear hi0 hz0 hz1 hz2
  have HR := Lib.hid (show inR i 0 ((l.length : Int) - 1) = false by cases hr : inR i 0 ((l.length : Int) - 1) <;> first | rfl | (rw [inR_iff] at hr; omega))
  go_enter Try.func28, Try.ntmps28
  go_wp2_with (at_builtin; go_must (refine list_app rfl _ _ 24 rfl w.heap.size 35 i0 (.agg #[.int .i64 0, .int .i64 0, .int .i64 0, .int .i64 0, .int .i64 0, .int .i64 0, .bool false]) 7 56 Try.underlying24 I0.out Z0.out Z1.out Z2.out rfl (by decide) _ 0 [] rfl (owns_at _ _ _ _ w.heap.size (by simp) (Nat.le_refl _)) A l.length c (grV l) rfl (src_gr (HS.out.below ((balloc _ _).mono hB))) (by unfold maxLen; omega) (by omega) (by simp) ?_))
  intro A1 m1 w1 hown hgrow _
  have b1 : Below w.heap.size w w1 := (balloc w (.cells #[] 35)).grown hgrow (by simp) (fun k hk => by simp [Value.ownBlock] at hk ⊢; omega)
  have OW := Lib.hid hown; clear hown hgrow
  have B1 := Lib.hid b1; have hs1 := b1.size; clear b1
  go_wp2_with fail
  refine (grantsS_any w1 B A c l hlm (by omega) (HS.out.later hB B1.out)).mono ?_
  rintro e w2 ⟨rfl, hb⟩
  rw [HQ.out]
  have b1 := bthen B1.out hb; have OW2 := Lib.hid (own_kept OW.out hb); clear OW B1 hb
  have B1 := Lib.hid b1; have hs2 := b1.size; clear b1
  go_wp2_with fail
  refine (inR_any w2 _ _ _).mono ?_
  rintro e w3 ⟨rfl, hw⟩
  rw [hw, HR.out]; clear hw
  go_wp2_with fail
  go_ret2
  rw [revG_no (.inr (.inl hi))]
  exact ⟨A1, m1, rfl, own_or OW2.out, B1.out⟩
set_option maxRecDepth 100000 in
set_option maxHeartbeats 2000000 in
theorem revS_c (w : World) (B : Nat) (A : Option Addr) (c : Nat) (l : List Gr) (i : Int) (hl : l.length ≤ 1048576) (hB : B ≤ w.heap.size) (hS : grL w B A l) (hq : grantsB l = true) (h0 : 0 ≤ i) (hi : (l.length : Int) ≤ i) : Calls Try.prog 28 #[.slice A l.length c, .int .i64 i] w (AnsG (revG l i) w) := by
  have HS := Lib.hid hS; have HQ := Lib.hid hq; clear hS hq
  have hlm : l.length ≤ maxLen := by unfold maxLen; omega
  obtain ⟨i0, hi0, hz0, hz1, hz2⟩ := info_parts grInfo
  have I0 := Lib.hid hi0; have Z0 := Lib.hid hz0; have Z1 := Lib.hid hz1; have Z2 := Lib.hid hz2; clear hi0 hz0 hz1 hz2
  have HR := Lib.hid (show inR i 0 ((l.length : Int) - 1) = false by cases hr : inR i 0 ((l.length : Int) - 1) <;> first | rfl | (rw [inR_iff] at hr; omega))
  go_enter Try.func28, Try.ntmps28
  go_wp2_with (at_builtin; go_must (refine list_app rfl _ _ 24 rfl w.heap.size 35 i0 (.agg #[.int .i64 0, .int .i64 0, .int .i64 0, .int .i64 0, .int .i64 0, .int .i64 0, .bool false]) 7 56 Try.underlying24 I0.out Z0.out Z1.out Z2.out rfl (by decide) _ 0 [] rfl (owns_at _ _ _ _ w.heap.size (by simp) (Nat.le_refl _)) A l.length c (grV l) rfl (src_gr (HS.out.below ((balloc _ _).mono hB))) (by unfold maxLen; omega) (by omega) (by simp) ?_))
  intro A1 m1 w1 hown hgrow _
  have b1 : Below w.heap.size w w1 := (balloc w (.cells #[] 35)).grown hgrow (by simp) (fun k hk => by simp [Value.ownBlock] at hk ⊢; omega)
  have OW := Lib.hid hown; clear hown hgrow
  have B1 := Lib.hid b1; have hs1 := b1.size; clear b1
  go_wp2_with fail
  refine (grantsS_any w1 B A c l hlm (by omega) (HS.out.later hB B1.out)).mono ?_
  rintro e w2 ⟨rfl, hb⟩
  rw [HQ.out]
  have b1 := bthen B1.out hb; have OW2 := Lib.hid (own_kept OW.out hb); clear OW B1 hb
  have B1 := Lib.hid b1; have hs2 := b1.size; clear b1
  go_wp2_with fail
  refine (inR_any w2 _ _ _).mono ?_
  rintro e w3 ⟨rfl, hw⟩
  rw [hw, HR.out]; clear hw
  go_wp2_with fail
  go_ret2
  rw [revG_no (.inr (.inr hi))]
  exact ⟨A1, m1, rfl, own_or OW2.out, B1.out⟩
set_option maxRecDepth 100000 in
set_option maxHeartbeats 2000000 in
theorem revS_d (w : World) (B : Nat) (A : Option Addr) (c : Nat) (l : List Gr) (k : Nat) (x0 x1 x2 x3 x4 x5 : Int) (hl : l.length ≤ 1048576) (hB : B ≤ w.heap.size) (hS : grL w B A l) (hq : grantsB l = true) (hx : l[k]? = some ⟨x0, x1, x2, x3, x4, x5, true⟩) : Calls Try.prog 28 #[.slice A l.length c, .int .i64 (k : Int)] w (AnsG (revG l (k : Int)) w) := by
  have hk : k < l.length := (List.getElem?_eq_some_iff.1 hx).1
  obtain ⟨b, off, x', rfl, hbB, hx', q0, q1, q2, q3, q4, q5, q6⟩ := hS.at_ hk
  rw [hx] at hx'; injection hx' with hx'; subst hx'
  dsimp only at q6
  have H6 := Lib.hid q6; clear q0 q1 q2 q3 q4 q5 q6
  have HX := Lib.hid hx; clear hx
  have HS := Lib.hid hS; have HQ := Lib.hid hq; clear hS hq
  have hlm : l.length ≤ maxLen := by unfold maxLen; omega
  obtain ⟨i0, hi0, hz0, hz1, hz2⟩ := info_parts grInfo
  have I0 := Lib.hid hi0; have Z0 := Lib.hid hz0; have Z1 := Lib.hid hz1; have Z2 := Lib.hid hz2; clear hi0 hz0 hz1 hz2
  have HR := Lib.hid (show inR (k : Int) 0 ((l.length : Int) - 1) = true by rw [inR_iff]; omega)
  go_enter Try.func28, Try.ntmps28
  go_wp2_with (at_builtin; go_must (refine list_app rfl _ _ 24 rfl w.heap.size 35 i0 (.agg #[.int .i64 0, .int .i64 0, .int .i64 0, .int .i64 0, .int .i64 0, .int .i64 0, .bool false]) 7 56 Try.underlying24 I0.out Z0.out Z1.out Z2.out rfl (by decide) _ 0 [] rfl (owns_at _ _ _ _ w.heap.size (by simp) (Nat.le_refl _)) (some ⟨b, off, none⟩) l.length c (grV l) rfl (src_gr (HS.out.below ((balloc _ _).mono hB))) (by unfold maxLen; omega) (by omega) (by simp) ?_))
  intro A1 m1 w1 hown hgrow _
  have b1 : Below w.heap.size w w1 := (balloc w (.cells #[] 35)).grown hgrow (by simp) (fun k hk => by simp [Value.ownBlock] at hk ⊢; omega)
  have OW := Lib.hid hown; clear hown hgrow
  have B1 := Lib.hid b1; have hs1 := b1.size; clear b1
  go_wp2_with fail
  refine (grantsS_any w1 B (some ⟨b, off, none⟩) c l hlm (by omega) (HS.out.later hB B1.out)).mono ?_
  rintro e w2 ⟨rfl, hb⟩
  rw [HQ.out]
  have b1 := bthen B1.out hb; have OW2 := Lib.hid (own_kept OW.out hb); clear OW B1 hb
  have B1 := Lib.hid b1; have hs2 := b1.size; clear b1
  have q6 := (B1.out.cell (p := ⟨b, off + k * 7 + 6, none⟩) (by show b < w.heap.size; omega)).trans H6.out
  go_wp2_with fail
  refine (inR_any w2 _ _ _).mono ?_
  rintro e w3 ⟨rfl, hw⟩
  rw [hw, HR.out]; clear hw
  go_wp2_with fail
  go_ret2
  rw [revG_off HX.out rfl]
  exact ⟨A1, m1, rfl, own_or OW2.out, B1.out⟩
set_option maxRecDepth 100000 in
set_option maxHeartbeats 2000000 in
theorem revS_e (w : World) (B : Nat) (A : Option Addr) (c : Nat) (l : List Gr) (k : Nat) (x0 x1 x2 x3 x4 x5 : Int) (hl : l.length ≤ 1048576) (hB : B ≤ w.heap.size) (hS : grL w B A l) (hq : grantsB l = true) (hx : l[k]? = some ⟨x0, x1, x2, x3, x4, x5, false⟩) : Calls Try.prog 28 #[.slice A l.length c, .int .i64 (k : Int)] w (AnsG (revG l (k : Int)) w) := by
  have hk : k < l.length := (List.getElem?_eq_some_iff.1 hx).1
  obtain ⟨b, off, x', rfl, hbB, hx', q0, q1, q2, q3, q4, q5, q6⟩ := hS.at_ hk
  rw [hx] at hx'; injection hx' with hx'; subst hx'
  dsimp only at q6
  have H6 := Lib.hid q6; clear q0 q1 q2 q3 q4 q5 q6
  have HX := Lib.hid hx; clear hx
  have HS := Lib.hid hS; have HQ := Lib.hid hq; clear hS hq
  have hlm : l.length ≤ maxLen := by unfold maxLen; omega
  obtain ⟨i0, hi0, hz0, hz1, hz2⟩ := info_parts grInfo
  have I0 := Lib.hid hi0; have Z0 := Lib.hid hz0; have Z1 := Lib.hid hz1; have Z2 := Lib.hid hz2; clear hi0 hz0 hz1 hz2
  have HR := Lib.hid (show inR (k : Int) 0 ((l.length : Int) - 1) = true by rw [inR_iff]; omega)
  go_enter Try.func28, Try.ntmps28
  go_wp2_with (at_builtin; go_must (refine list_app rfl _ _ 24 rfl w.heap.size 35 i0 (.agg #[.int .i64 0, .int .i64 0, .int .i64 0, .int .i64 0, .int .i64 0, .int .i64 0, .bool false]) 7 56 Try.underlying24 I0.out Z0.out Z1.out Z2.out rfl (by decide) _ 0 [] rfl (owns_at _ _ _ _ w.heap.size (by simp) (Nat.le_refl _)) (some ⟨b, off, none⟩) l.length c (grV l) rfl (src_gr (HS.out.below ((balloc _ _).mono hB))) (by unfold maxLen; omega) (by omega) (by simp) ?_))
  intro A1 m1 w1 hown hgrow _
  have b1 : Below w.heap.size w w1 := (balloc w (.cells #[] 35)).grown hgrow (by simp) (fun k hk => by simp [Value.ownBlock] at hk ⊢; omega)
  have OW := Lib.hid hown; clear hown hgrow
  have B1 := Lib.hid b1; have hs1 := b1.size; clear b1
  go_wp2_with fail
  refine (grantsS_any w1 B (some ⟨b, off, none⟩) c l hlm (by omega) (HS.out.later hB B1.out)).mono ?_
  rintro e w2 ⟨rfl, hb⟩
  rw [HQ.out]
  have b1 := bthen B1.out hb; have OW2 := Lib.hid (own_kept OW.out hb); clear OW B1 hb
  have B1 := Lib.hid b1; have hs2 := b1.size; clear b1
  have q6 := (B1.out.cell (p := ⟨b, off + k * 7 + 6, none⟩) (by show b < w.heap.size; omega)).trans H6.out
  go_wp2_with fail
  refine (inR_any w2 _ _ _).mono ?_
  rintro e w3 ⟨rfl, hw⟩
  rw [hw, HR.out]; clear hw
  have hpos : 0 < l.length := by omega
  obtain ⟨g, cap, hform, hg1, hg2⟩ := OW2.out.form hpos
  injection hform with hf1 hf2 hf3; subst hf1 hf3; clear hf2
  have hat := OW2.out.cellAt (k * 7 + 6) (by omega)
  rw [(grV_at HX.out).2.2.2.2.2.2] at hat
  have hfr := OW2.out.frozenAt (k * 7 + 6)
  have HST := Lib.hid (OW2.out.stored (k * 7 + 6) (.bool true)); clear OW2
  go_wp2_with fail
  go_ret2
  have hst := HST.out.1
  rw [revG_yes HX.out HQ.out rfl]
  exact ⟨some ⟨g, 0, none⟩, m1, by simp, by rw [grV_set _ _ _ HX.out]; exact own_or hst, B1.out.setCell hg1 _⟩
theorem revS_any (w : World) (B : Nat) (A : Option Addr) (c : Nat) (l : List Gr) (i : Int) (hl : l.length ≤ 1048576) (hB : B ≤ w.heap.size) (hS : grL w B A l) : Calls Try.prog 28 #[.slice A l.length c, .int .i64 i] w (AnsG (revG l i) w) := by
  cases hq : grantsB l
  · exact revS_a w B A c l i hl hB hS hq
  by_cases h0 : i < 0
  · exact revS_b w B A c l i hl hB hS hq h0
  by_cases h1 : (l.length : Int) ≤ i
  · exact revS_c w B A c l i hl hB hS hq (by omega) h1
  obtain ⟨k, rfl⟩ := Int.eq_ofNat_of_zero_le (Int.not_lt.1 h0)
  have hk : k < l.length := by omega
  obtain ⟨x, hx⟩ : ∃ x, l[k]? = some x := ⟨_, List.getElem?_eq_getElem hk⟩
  obtain ⟨x0, x1, x2, x3, x4, x5, x6⟩ := x
  cases x6
  · exact revS_e w B A c l k x0 x1 x2 x3 x4 x5 hl hB hS hq hx
  · exact revS_d w B A c l k x0 x1 x2 x3 x4 x5 hl hB hS hq hx
end Go.Proofs.Ytockjdaijhfgaaa
