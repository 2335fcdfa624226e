/- Chapter 6: the walks of the exact laws of CanExtend and LeastExtensions (gen_feel.py). -/
import Derived.Test.YthdncneahdiieaaFeeD
import Derived.Test.YthdncneahdiieaaFeeR
import Derived.Deep.RegionHeld3
import Derived.Deep.DeepMust
namespace Go.Proofs.Ythdncneahdiieaa
open Go.RowKit
set_option linter.unusedVariables false
set_option maxRecDepth 100000 in
set_option maxHeartbeats 8000000 in
theorem cexLaw_walk (A A' : Option Addr) (n n' : Nat) (o c : List (Int × Int)) (t : Tm) (a : Int) (a1 : -9223372036854775808 ≤ a) (a2 : a ≤ 9223372036854775807) (k : Int) (k1 : -9223372036854775808 ≤ k) (k2 : k ≤ 9223372036854775807) (e : Int) (e1 : -9223372036854775808 ≤ e) (e2 : e ≤ 9223372036854775807) (w : World) (ho : o.length ≤ maxLen) (hc : c.length ≤ maxLen) (hS : SL w w.heap.size A o) (hS' : SL w w.heap.size A' c) : Calls Try.prog 4 #[.agg #[.slice A o.length n, .slice A' c.length n'], .agg #[.int .i64 t.keep, .int .i64 t.free, .int .i64 t.step, .int .i64 t.rate, .int .i64 t.cap, .int .i64 t.longer, .int .i64 t.price, .int .i64 t.most], .int .i64 a, .int .i64 k, .int .i64 e] w fun e w' => e = .returned (.bool true) ∧ Below w.heap.size w w' := by
  have HS := Lib.hid hS; clear hS
  have HS' := Lib.hid hS'; clear hS'
  obtain ⟨s0, hs0⟩ : ∃ s, szW 1048576 o.length c.length = s := ⟨_, rfl⟩
  by_cases hbig0 : s0 < 0
  · skip
    have Hs0 := Lib.hid hs0; clear hs0
    go_enter Try.func4, Try.ntmps4
    go_wp2_with fail
    generalize hX : (w.alloc (.cells #[.slice A o.length n, .slice A' c.length n'] 24)) = w1
    have hb : Below w.heap.size w w1 := by rw [← hX]; exact balloc _ _
    have hk : Has w1 w.heap.size 24 #[.slice A o.length n, .slice A' c.length n'] := by rw [← hX]; exact has_new _ _ _
    have hzw1 : w1.heap.size = w.heap.size + 1 := by rw [← hX]; simp
    clear hX
    have zb := hb; clear hb
    have za := hk; clear hk
    generalize hX : (w1.alloc (.cells #[.int .i64 t.keep, .int .i64 t.free, .int .i64 t.step, .int .i64 t.rate, .int .i64 t.cap, .int .i64 t.longer, .int .i64 t.price, .int .i64 t.most] 26)) = w2
    have hb : Below w1.heap.size w1 w2 := by rw [← hX]; exact balloc _ _
    have hk : Has w2 w1.heap.size 26 #[.int .i64 t.keep, .int .i64 t.free, .int .i64 t.step, .int .i64 t.rate, .int .i64 t.cap, .int .i64 t.longer, .int .i64 t.price, .int .i64 t.most] := by rw [← hX]; exact has_new _ _ _
    have hzw2 : w2.heap.size = w.heap.size + 2 := by rw [← hX]; simp [hzw1]
    clear hX
    rw [hzw1] at hk
    replace za := has_call za hb
    replace zb := bthen zb hb; clear hb
    have ta := hk; clear hk
    clear hzw1 hzw2
    have hsw0 := zb.size
    have zac0 := has_cell za 0 rfl; have zac1 := has_cell za 1 rfl
    have zalt := has_lt za
    have tac0 := has_cell ta 0 rfl; have tac1 := has_cell ta 1 rfl; have tac2 := has_cell ta 2 rfl; have tac3 := has_cell ta 3 rfl; have tac4 := has_cell ta 4 rfl; have tac5 := has_cell ta 5 rfl; have tac6 := has_cell ta 6 rfl; have tac7 := has_cell ta 7 rfl
    have talt := has_lt ta
    have ZAH := Lib.hid za; clear za
    have TAH := Lib.hid ta; clear ta
    have ZB := Lib.hid zb; clear zb
    go_wp2_with fail
    clear zac0 zac1 zalt tac0 tac1 tac2 tac3 tac4 tac5 tac6 tac7 talt
    have za := ZAH.out; clear ZAH
    have ta := TAH.out; clear TAH
    have zb := ZB.out; clear ZB
    refine (szW_any _ A A' o.length n c.length n' 1048576 ho hc (by omega) (by omega)).mono ?_
    rintro e w3 ⟨rfl, hb⟩
    rw [Hs0.out]
    have hsw3 := hb.size
    replace za := has_call za hb
    replace ta := has_call ta hb
    replace zb := bthen zb hb; clear hb
    have zac0 := has_cell za 0 rfl; have zac1 := has_cell za 1 rfl
    have zalt := has_lt za
    have tac0 := has_cell ta 0 rfl; have tac1 := has_cell ta 1 rfl; have tac2 := has_cell ta 2 rfl; have tac3 := has_cell ta 3 rfl; have tac4 := has_cell ta 4 rfl; have tac5 := has_cell ta 5 rfl; have tac6 := has_cell ta 6 rfl; have tac7 := has_cell ta 7 rfl
    have talt := has_lt ta
    have ZAH := Lib.hid za; clear za
    have TAH := Lib.hid ta; clear ta
    have ZB := Lib.hid zb; clear zb
    go_wp2_with fail
    clear zac0 zac1 zalt tac0 tac1 tac2 tac3 tac4 tac5 tac6 tac7 talt
    have za := ZAH.out; clear ZAH
    have ta := TAH.out; clear TAH
    have zb := ZB.out; clear ZB
    go_ret
    exact ⟨rfl, zb⟩
  have hlen : o.length ≤ 1048576 ∧ c.length ≤ 1048576 ∧ s0 ≤ 1048576 := by
    subst hs0
    unfold szW szI at hbig0 ⊢
    split at hbig0
    · omega
    · rename_i hq; rw [if_neg hq]; split at hbig0
      · omega
      · rename_i hq2; rw [if_neg hq2]; omega
  obtain ⟨lo, lc, ls0⟩ := hlen
  have Hs0 := Lib.hid hs0; clear hs0
  obtain ⟨V, hq⟩ : ∃ V, extB o c t a k e = V := ⟨_, rfl⟩
  have HV := Lib.hid hq; clear hq
  have nv : (V != V) = false := by simp
  go_enter Try.func4, Try.ntmps4
  go_wp2_with fail
  generalize hX : (w.alloc (.cells #[.slice A o.length n, .slice A' c.length n'] 24)) = w1
  have hb : Below w.heap.size w w1 := by rw [← hX]; exact balloc _ _
  have hk : Has w1 w.heap.size 24 #[.slice A o.length n, .slice A' c.length n'] := by rw [← hX]; exact has_new _ _ _
  have hzw1 : w1.heap.size = w.heap.size + 1 := by rw [← hX]; simp
  clear hX
  have zb := hb; clear hb
  have za := hk; clear hk
  generalize hX : (w1.alloc (.cells #[.int .i64 t.keep, .int .i64 t.free, .int .i64 t.step, .int .i64 t.rate, .int .i64 t.cap, .int .i64 t.longer, .int .i64 t.price, .int .i64 t.most] 26)) = w2
  have hb : Below w1.heap.size w1 w2 := by rw [← hX]; exact balloc _ _
  have hk : Has w2 w1.heap.size 26 #[.int .i64 t.keep, .int .i64 t.free, .int .i64 t.step, .int .i64 t.rate, .int .i64 t.cap, .int .i64 t.longer, .int .i64 t.price, .int .i64 t.most] := by rw [← hX]; exact has_new _ _ _
  have hzw2 : w2.heap.size = w.heap.size + 2 := by rw [← hX]; simp [hzw1]
  clear hX
  rw [hzw1] at hk
  replace za := has_call za hb
  replace zb := bthen zb hb; clear hb
  have ta := hk; clear hk
  clear hzw1 hzw2
  have hsw0 := zb.size
  have zac0 := has_cell za 0 rfl; have zac1 := has_cell za 1 rfl
  have zalt := has_lt za
  have tac0 := has_cell ta 0 rfl; have tac1 := has_cell ta 1 rfl; have tac2 := has_cell ta 2 rfl; have tac3 := has_cell ta 3 rfl; have tac4 := has_cell ta 4 rfl; have tac5 := has_cell ta 5 rfl; have tac6 := has_cell ta 6 rfl; have tac7 := has_cell ta 7 rfl
  have talt := has_lt ta
  have ZAH := Lib.hid za; clear za
  have TAH := Lib.hid ta; clear ta
  have ZB := Lib.hid zb; clear zb
  go_wp2_with fail
  clear zac0 zac1 zalt tac0 tac1 tac2 tac3 tac4 tac5 tac6 tac7 talt
  have za := ZAH.out; clear ZAH
  have ta := TAH.out; clear TAH
  have zb := ZB.out; clear ZB
  refine (szW_any _ A A' o.length n c.length n' 1048576 ho hc (by omega) (by omega)).mono ?_
  rintro e w3 ⟨rfl, hb⟩
  rw [Hs0.out]
  have hsw3 := hb.size
  replace za := has_call za hb
  replace ta := has_call ta hb
  replace zb := bthen zb hb; clear hb
  have zac0 := has_cell za 0 rfl; have zac1 := has_cell za 1 rfl
  have zalt := has_lt za
  have tac0 := has_cell ta 0 rfl; have tac1 := has_cell ta 1 rfl; have tac2 := has_cell ta 2 rfl; have tac3 := has_cell ta 3 rfl; have tac4 := has_cell ta 4 rfl; have tac5 := has_cell ta 5 rfl; have tac6 := has_cell ta 6 rfl; have tac7 := has_cell ta 7 rfl
  have talt := has_lt ta
  have ZAH := Lib.hid za; clear za
  have TAH := Lib.hid ta; clear ta
  have ZB := Lib.hid zb; clear zb
  go_wp2_with fail
  clear zac0 zac1 zalt tac0 tac1 tac2 tac3 tac4 tac5 tac6 tac7 talt
  have za := ZAH.out; clear ZAH
  have ta := TAH.out; clear TAH
  have zb := ZB.out; clear ZB
  have zac0 := has_cell za 0 rfl; have zac1 := has_cell za 1 rfl
  have zalt := has_lt za
  have tac0 := has_cell ta 0 rfl; have tac1 := has_cell ta 1 rfl; have tac2 := has_cell ta 2 rfl; have tac3 := has_cell ta 3 rfl; have tac4 := has_cell ta 4 rfl; have tac5 := has_cell ta 5 rfl; have tac6 := has_cell ta 6 rfl; have tac7 := has_cell ta 7 rfl
  have talt := has_lt ta
  have ZAH := Lib.hid za; clear za
  have TAH := Lib.hid ta; clear ta
  have ZB := Lib.hid zb; clear zb
  try go_wp2_with fail
  have S0 : (fun W : World => (W.cell? ⟨w.heap.size, 0, none⟩ = some (.slice A o.length n) ∧ W.cell? ⟨w.heap.size, 1, none⟩ = some (.slice A' c.length n') ∧ W.cell? ⟨w.heap.size + 1, 0, none⟩ = some (.int .i64 t.keep) ∧ W.cell? ⟨w.heap.size + 1, 1, none⟩ = some (.int .i64 t.free) ∧ W.cell? ⟨w.heap.size + 1, 2, none⟩ = some (.int .i64 t.step) ∧ W.cell? ⟨w.heap.size + 1, 3, none⟩ = some (.int .i64 t.rate) ∧ W.cell? ⟨w.heap.size + 1, 4, none⟩ = some (.int .i64 t.cap) ∧ W.cell? ⟨w.heap.size + 1, 5, none⟩ = some (.int .i64 t.longer) ∧ W.cell? ⟨w.heap.size + 1, 6, none⟩ = some (.int .i64 t.price) ∧ W.cell? ⟨w.heap.size + 1, 7, none⟩ = some (.int .i64 t.most)) ∧ Below w3.heap.size w3 W) w3.drew := ⟨⟨zac0, zac1, tac0, tac1, tac2, tac3, tac4, tac5, tac6, tac7⟩, (Below.refl _ _).drew⟩
  have zc := ZB.out; have zd : Below w.heap.size w w3.drew := zc.drew; have hzz := zc.size
  have hlza9 := zalt
  have hlta9 := talt
  clear zac0 zac1 zalt tac0 tac1 tac2 tac3 tac4 tac5 tac6 tac7 talt
  go_region_held3 (fun W : World => (W.cell? ⟨w.heap.size, 0, none⟩ = some (.slice A o.length n) ∧ W.cell? ⟨w.heap.size, 1, none⟩ = some (.slice A' c.length n') ∧ W.cell? ⟨w.heap.size + 1, 0, none⟩ = some (.int .i64 t.keep) ∧ W.cell? ⟨w.heap.size + 1, 1, none⟩ = some (.int .i64 t.free) ∧ W.cell? ⟨w.heap.size + 1, 2, none⟩ = some (.int .i64 t.step) ∧ W.cell? ⟨w.heap.size + 1, 3, none⟩ = some (.int .i64 t.rate) ∧ W.cell? ⟨w.heap.size + 1, 4, none⟩ = some (.int .i64 t.cap) ∧ W.cell? ⟨w.heap.size + 1, 5, none⟩ = some (.int .i64 t.longer) ∧ W.cell? ⟨w.heap.size + 1, 6, none⟩ = some (.int .i64 t.price) ∧ W.cell? ⟨w.heap.size + 1, 7, none⟩ = some (.int .i64 t.most)) ∧ Below w3.heap.size w3 W) (first | assumption) (first
    | (go_at_call 10; go_must (refine (toWeek_any w3.drew w.heap.size A A' n n' o c lo lc zd.size (HS.out.below zd) (HS'.out.below zd)).mono ?_); rintro e wr1 ⟨u1A, u1B, rfl, h5, h6, h1⟩; have T1 := Lib.hid h5; have T1k := Lib.hid h6; clear h5 h6; have hv1 : Below w3.heap.size w3 wr1 := ((Below.refl w3.heap.size w3).drew).trans h1; have hz1 := hv1.size; have hy1 := h1.size; have S1 : (fun W : World => (W.cell? ⟨w.heap.size, 0, none⟩ = some (.slice A o.length n) ∧ W.cell? ⟨w.heap.size, 1, none⟩ = some (.slice A' c.length n') ∧ W.cell? ⟨w.heap.size + 1, 0, none⟩ = some (.int .i64 t.keep) ∧ W.cell? ⟨w.heap.size + 1, 1, none⟩ = some (.int .i64 t.free) ∧ W.cell? ⟨w.heap.size + 1, 2, none⟩ = some (.int .i64 t.step) ∧ W.cell? ⟨w.heap.size + 1, 3, none⟩ = some (.int .i64 t.rate) ∧ W.cell? ⟨w.heap.size + 1, 4, none⟩ = some (.int .i64 t.cap) ∧ W.cell? ⟨w.heap.size + 1, 5, none⟩ = some (.int .i64 t.longer) ∧ W.cell? ⟨w.heap.size + 1, 6, none⟩ = some (.int .i64 t.price) ∧ W.cell? ⟨w.heap.size + 1, 7, none⟩ = some (.int .i64 t.most)) ∧ Below w3.heap.size w3 W) wr1 := ⟨⟨(bold hv1 _ _ (by omega)).trans S0.1.1, (bold hv1 _ _ (by omega)).trans S0.1.2.1, (bold hv1 _ _ (by omega)).trans S0.1.2.2.1, (bold hv1 _ _ (by omega)).trans S0.1.2.2.2.1, (bold hv1 _ _ (by omega)).trans S0.1.2.2.2.2.1, (bold hv1 _ _ (by omega)).trans S0.1.2.2.2.2.2.1, (bold hv1 _ _ (by omega)).trans S0.1.2.2.2.2.2.2.1, (bold hv1 _ _ (by omega)).trans S0.1.2.2.2.2.2.2.2.1, (bold hv1 _ _ (by omega)).trans S0.1.2.2.2.2.2.2.2.2.1, (bold hv1 _ _ (by omega)).trans S0.1.2.2.2.2.2.2.2.2.2⟩, hv1⟩)
    | (go_at_call 11; go_must (refine (toTerms_any t.keep t.free t.step t.rate t.cap t.longer t.price t.most wr1).mono ?_); rintro e wr2 ⟨rfl, h2⟩; have hv2 : Below w3.heap.size w3 wr2 := bthen hv1 h2; have hz2 := hv2.size; have hy2 := h2.size; have S2 : (fun W : World => (W.cell? ⟨w.heap.size, 0, none⟩ = some (.slice A o.length n) ∧ W.cell? ⟨w.heap.size, 1, none⟩ = some (.slice A' c.length n') ∧ W.cell? ⟨w.heap.size + 1, 0, none⟩ = some (.int .i64 t.keep) ∧ W.cell? ⟨w.heap.size + 1, 1, none⟩ = some (.int .i64 t.free) ∧ W.cell? ⟨w.heap.size + 1, 2, none⟩ = some (.int .i64 t.step) ∧ W.cell? ⟨w.heap.size + 1, 3, none⟩ = some (.int .i64 t.rate) ∧ W.cell? ⟨w.heap.size + 1, 4, none⟩ = some (.int .i64 t.cap) ∧ W.cell? ⟨w.heap.size + 1, 5, none⟩ = some (.int .i64 t.longer) ∧ W.cell? ⟨w.heap.size + 1, 6, none⟩ = some (.int .i64 t.price) ∧ W.cell? ⟨w.heap.size + 1, 7, none⟩ = some (.int .i64 t.most)) ∧ Below w3.heap.size w3 W) wr2 := ⟨⟨(bold hv2 _ _ (by omega)).trans S0.1.1, (bold hv2 _ _ (by omega)).trans S0.1.2.1, (bold hv2 _ _ (by omega)).trans S0.1.2.2.1, (bold hv2 _ _ (by omega)).trans S0.1.2.2.2.1, (bold hv2 _ _ (by omega)).trans S0.1.2.2.2.2.1, (bold hv2 _ _ (by omega)).trans S0.1.2.2.2.2.2.1, (bold hv2 _ _ (by omega)).trans S0.1.2.2.2.2.2.2.1, (bold hv2 _ _ (by omega)).trans S0.1.2.2.2.2.2.2.2.1, (bold hv2 _ _ (by omega)).trans S0.1.2.2.2.2.2.2.2.2.1, (bold hv2 _ _ (by omega)).trans S0.1.2.2.2.2.2.2.2.2.2⟩, hv2⟩)
    | (go_at_call 14; go_must (refine (extS_any wr2 wr2.heap.size u1A u1B o.length c.length o c t a k e e1 e2 ho hc (by omega) (SL.more ((T1.out).later (by omega) (h2)) (by omega)) (SL.more ((T1k.out).later (by omega) (h2)) (by omega)) ).mono ?_); rintro e wr3 ⟨rfl, h3⟩; rw [HV.out]; have hv3 : Below w3.heap.size w3 wr3 := bthen hv2 h3; have hz3 := hv3.size; have hy3 := h3.size; have S3 : (fun W : World => (W.cell? ⟨w.heap.size, 0, none⟩ = some (.slice A o.length n) ∧ W.cell? ⟨w.heap.size, 1, none⟩ = some (.slice A' c.length n') ∧ W.cell? ⟨w.heap.size + 1, 0, none⟩ = some (.int .i64 t.keep) ∧ W.cell? ⟨w.heap.size + 1, 1, none⟩ = some (.int .i64 t.free) ∧ W.cell? ⟨w.heap.size + 1, 2, none⟩ = some (.int .i64 t.step) ∧ W.cell? ⟨w.heap.size + 1, 3, none⟩ = some (.int .i64 t.rate) ∧ W.cell? ⟨w.heap.size + 1, 4, none⟩ = some (.int .i64 t.cap) ∧ W.cell? ⟨w.heap.size + 1, 5, none⟩ = some (.int .i64 t.longer) ∧ W.cell? ⟨w.heap.size + 1, 6, none⟩ = some (.int .i64 t.price) ∧ W.cell? ⟨w.heap.size + 1, 7, none⟩ = some (.int .i64 t.most)) ∧ Below w3.heap.size w3 W) wr3 := ⟨⟨(bold hv3 _ _ (by omega)).trans S0.1.1, (bold hv3 _ _ (by omega)).trans S0.1.2.1, (bold hv3 _ _ (by omega)).trans S0.1.2.2.1, (bold hv3 _ _ (by omega)).trans S0.1.2.2.2.1, (bold hv3 _ _ (by omega)).trans S0.1.2.2.2.2.1, (bold hv3 _ _ (by omega)).trans S0.1.2.2.2.2.2.1, (bold hv3 _ _ (by omega)).trans S0.1.2.2.2.2.2.2.1, (bold hv3 _ _ (by omega)).trans S0.1.2.2.2.2.2.2.2.1, (bold hv3 _ _ (by omega)).trans S0.1.2.2.2.2.2.2.2.2.1, (bold hv3 _ _ (by omega)).trans S0.1.2.2.2.2.2.2.2.2.2⟩, hv3⟩))
  have hb : Below w3.heap.size w3 wr3 := hv3
  clear S0 S1 S2 S3 zc zd hzz hlza9 hlta9 hz1 hy1 hz2 hy2 hz3 hy3
  clear T1 T1k
  clear hv3 h3 hv2 h2 hv1 h1
  have za := ZAH.out; clear ZAH
  have ta := TAH.out; clear TAH
  have zb := ZB.out; clear ZB
  have hswr3 := hb.size
  replace za := has_call za hb
  replace ta := has_call ta hb
  replace zb := bthen zb hb; clear hb
  skip
  have zac0 := has_cell za 0 rfl; have zac1 := has_cell za 1 rfl
  have zalt := has_lt za
  have tac0 := has_cell ta 0 rfl; have tac1 := has_cell ta 1 rfl; have tac2 := has_cell ta 2 rfl; have tac3 := has_cell ta 3 rfl; have tac4 := has_cell ta 4 rfl; have tac5 := has_cell ta 5 rfl; have tac6 := has_cell ta 6 rfl; have tac7 := has_cell ta 7 rfl
  have talt := has_lt ta
  have ZAH := Lib.hid za; clear za
  have TAH := Lib.hid ta; clear ta
  have ZB := Lib.hid zb; clear zb
  go_wp2_with fail
  clear zac0 zac1 zalt tac0 tac1 tac2 tac3 tac4 tac5 tac6 tac7 talt
  have za := ZAH.out; clear ZAH
  have ta := TAH.out; clear TAH
  have zb := ZB.out; clear ZB
  refine (toWeek_any _ w.heap.size A A' n n' o c lo lc zb.size (HS.out.below zb) (HS'.out.below zb)).mono ?_
  rintro e w5 ⟨xxA, xxB, rfl, h5, h6, hb⟩
  have hsw5 := hb.size
  replace za := has_call za hb
  replace ta := has_call ta hb
  replace zb := bthen zb hb; clear hb
  have SL_xx := Lib.hid h5; have SL_xxk := Lib.hid h6; clear h5 h6
  have zac0 := has_cell za 0 rfl; have zac1 := has_cell za 1 rfl
  have zalt := has_lt za
  have tac0 := has_cell ta 0 rfl; have tac1 := has_cell ta 1 rfl; have tac2 := has_cell ta 2 rfl; have tac3 := has_cell ta 3 rfl; have tac4 := has_cell ta 4 rfl; have tac5 := has_cell ta 5 rfl; have tac6 := has_cell ta 6 rfl; have tac7 := has_cell ta 7 rfl
  have talt := has_lt ta
  have ZAH := Lib.hid za; clear za
  have TAH := Lib.hid ta; clear ta
  have ZB := Lib.hid zb; clear zb
  go_wp2_with fail
  clear zac0 zac1 zalt tac0 tac1 tac2 tac3 tac4 tac5 tac6 tac7 talt
  have za := ZAH.out; clear ZAH
  have ta := TAH.out; clear TAH
  have zb := ZB.out; clear ZB
  generalize hX : (w5.alloc (.cells #[.slice xxA o.length o.length, .slice xxB c.length c.length] 32)) = w6
  have hb : Below w5.heap.size w5 w6 := by rw [← hX]; exact balloc _ _
  have hk : Has w6 w5.heap.size 32 #[.slice xxA o.length o.length, .slice xxB c.length c.length] := by rw [← hX]; exact has_new _ _ _
  clear hX
  have kk := SL.later SL_xx.out (by omega) hb; clear SL_xx; have SL_xx := Lib.hid kk; clear kk
  have kk := SL.later SL_xxk.out (by omega) hb; clear SL_xxk; have SL_xxk := Lib.hid kk; clear kk
  have hsw6 := hb.size
  replace za := has_call za hb
  replace ta := has_call ta hb
  replace zb := bthen zb hb; clear hb
  have vx := hk; clear hk; have hlvx := has_lt vx
  have zac0 := has_cell za 0 rfl; have zac1 := has_cell za 1 rfl
  have zalt := has_lt za
  have tac0 := has_cell ta 0 rfl; have tac1 := has_cell ta 1 rfl; have tac2 := has_cell ta 2 rfl; have tac3 := has_cell ta 3 rfl; have tac4 := has_cell ta 4 rfl; have tac5 := has_cell ta 5 rfl; have tac6 := has_cell ta 6 rfl; have tac7 := has_cell ta 7 rfl
  have talt := has_lt ta
  have vxc0 := has_cell vx 0 rfl; have vxc1 := has_cell vx 1 rfl
  have vxlt := has_lt vx
  have ZAH := Lib.hid za; clear za
  have TAH := Lib.hid ta; clear ta
  have VXH := Lib.hid vx; clear vx
  have ZB := Lib.hid zb; clear zb
  go_wp2_with fail
  clear zac0 zac1 zalt tac0 tac1 tac2 tac3 tac4 tac5 tac6 tac7 talt vxc0 vxc1 vxlt
  have za := ZAH.out; clear ZAH
  have ta := TAH.out; clear TAH
  have vx := VXH.out; clear VXH
  have zb := ZB.out; clear ZB
  have vxc0 := has_cell vx 0 rfl; have vxc1 := has_cell vx 1 rfl
  have vxlt := has_lt vx
  have tac0 := has_cell ta 0 rfl; have tac1 := has_cell ta 1 rfl; have tac2 := has_cell ta 2 rfl; have tac3 := has_cell ta 3 rfl; have tac4 := has_cell ta 4 rfl; have tac5 := has_cell ta 5 rfl; have tac6 := has_cell ta 6 rfl; have tac7 := has_cell ta 7 rfl
  have talt := has_lt ta
  have ZAH := Lib.hid za; clear za
  have TAH := Lib.hid ta; clear ta
  have VXH := Lib.hid vx; clear vx
  have ZB := Lib.hid zb; clear zb
  try go_wp2_with fail
  have S0 : (fun W : World => (W.cell? ⟨w5.heap.size, 0, none⟩ = some (.slice xxA o.length o.length) ∧ W.cell? ⟨w5.heap.size, 1, none⟩ = some (.slice xxB c.length c.length) ∧ W.cell? ⟨w.heap.size + 1, 0, none⟩ = some (.int .i64 t.keep) ∧ W.cell? ⟨w.heap.size + 1, 1, none⟩ = some (.int .i64 t.free) ∧ W.cell? ⟨w.heap.size + 1, 2, none⟩ = some (.int .i64 t.step) ∧ W.cell? ⟨w.heap.size + 1, 3, none⟩ = some (.int .i64 t.rate) ∧ W.cell? ⟨w.heap.size + 1, 4, none⟩ = some (.int .i64 t.cap) ∧ W.cell? ⟨w.heap.size + 1, 5, none⟩ = some (.int .i64 t.longer) ∧ W.cell? ⟨w.heap.size + 1, 6, none⟩ = some (.int .i64 t.price) ∧ W.cell? ⟨w.heap.size + 1, 7, none⟩ = some (.int .i64 t.most)) ∧ Below w6.heap.size w6 W) w6.drew := ⟨⟨vxc0, vxc1, tac0, tac1, tac2, tac3, tac4, tac5, tac6, tac7⟩, (Below.refl _ _).drew⟩
  have zc := ZB.out; have zd : Below w.heap.size w w6.drew := zc.drew; have hzz := zc.size
  have hlvx9 := vxlt
  have hlta9 := talt
  clear vxc0 vxc1 vxlt tac0 tac1 tac2 tac3 tac4 tac5 tac6 tac7 talt
  go_region_held3 (fun W : World => (W.cell? ⟨w5.heap.size, 0, none⟩ = some (.slice xxA o.length o.length) ∧ W.cell? ⟨w5.heap.size, 1, none⟩ = some (.slice xxB c.length c.length) ∧ W.cell? ⟨w.heap.size + 1, 0, none⟩ = some (.int .i64 t.keep) ∧ W.cell? ⟨w.heap.size + 1, 1, none⟩ = some (.int .i64 t.free) ∧ W.cell? ⟨w.heap.size + 1, 2, none⟩ = some (.int .i64 t.step) ∧ W.cell? ⟨w.heap.size + 1, 3, none⟩ = some (.int .i64 t.rate) ∧ W.cell? ⟨w.heap.size + 1, 4, none⟩ = some (.int .i64 t.cap) ∧ W.cell? ⟨w.heap.size + 1, 5, none⟩ = some (.int .i64 t.longer) ∧ W.cell? ⟨w.heap.size + 1, 6, none⟩ = some (.int .i64 t.price) ∧ W.cell? ⟨w.heap.size + 1, 7, none⟩ = some (.int .i64 t.most)) ∧ Below w6.heap.size w6 W) (first | assumption) (first
    | (go_at_call 11; go_must (refine (toTerms_any t.keep t.free t.step t.rate t.cap t.longer t.price t.most w6.drew).mono ?_); rintro e wr1 ⟨rfl, h1⟩; have hv1 : Below w6.heap.size w6 wr1 := ((Below.refl w6.heap.size w6).drew).trans h1; have hz1 := hv1.size; have hy1 := h1.size; have S1 : (fun W : World => (W.cell? ⟨w5.heap.size, 0, none⟩ = some (.slice xxA o.length o.length) ∧ W.cell? ⟨w5.heap.size, 1, none⟩ = some (.slice xxB c.length c.length) ∧ W.cell? ⟨w.heap.size + 1, 0, none⟩ = some (.int .i64 t.keep) ∧ W.cell? ⟨w.heap.size + 1, 1, none⟩ = some (.int .i64 t.free) ∧ W.cell? ⟨w.heap.size + 1, 2, none⟩ = some (.int .i64 t.step) ∧ W.cell? ⟨w.heap.size + 1, 3, none⟩ = some (.int .i64 t.rate) ∧ W.cell? ⟨w.heap.size + 1, 4, none⟩ = some (.int .i64 t.cap) ∧ W.cell? ⟨w.heap.size + 1, 5, none⟩ = some (.int .i64 t.longer) ∧ W.cell? ⟨w.heap.size + 1, 6, none⟩ = some (.int .i64 t.price) ∧ W.cell? ⟨w.heap.size + 1, 7, none⟩ = some (.int .i64 t.most)) ∧ Below w6.heap.size w6 W) wr1 := ⟨⟨(bold hv1 _ _ (by omega)).trans S0.1.1, (bold hv1 _ _ (by omega)).trans S0.1.2.1, (bold hv1 _ _ (by omega)).trans S0.1.2.2.1, (bold hv1 _ _ (by omega)).trans S0.1.2.2.2.1, (bold hv1 _ _ (by omega)).trans S0.1.2.2.2.2.1, (bold hv1 _ _ (by omega)).trans S0.1.2.2.2.2.2.1, (bold hv1 _ _ (by omega)).trans S0.1.2.2.2.2.2.2.1, (bold hv1 _ _ (by omega)).trans S0.1.2.2.2.2.2.2.2.1, (bold hv1 _ _ (by omega)).trans S0.1.2.2.2.2.2.2.2.2.1, (bold hv1 _ _ (by omega)).trans S0.1.2.2.2.2.2.2.2.2.2⟩, hv1⟩)
    | (go_at_call 15; go_must (refine (extI_any wr1 w6.heap.size xxA xxB o.length c.length o c t a k e e1 e2 ho hc (by omega) (SL.later (SL.more SL_xx.out (show _ ≤ w6.heap.size by omega)) (Nat.le_refl _) hv1) (SL.later (SL.more SL_xxk.out (show _ ≤ w6.heap.size by omega)) (Nat.le_refl _) hv1) ).mono ?_); rintro e wr2 ⟨rfl, h2⟩; rw [HV.out]; have hv2 : Below w6.heap.size w6 wr2 := bthen hv1 h2; have hz2 := hv2.size; have hy2 := h2.size; have S2 : (fun W : World => (W.cell? ⟨w5.heap.size, 0, none⟩ = some (.slice xxA o.length o.length) ∧ W.cell? ⟨w5.heap.size, 1, none⟩ = some (.slice xxB c.length c.length) ∧ W.cell? ⟨w.heap.size + 1, 0, none⟩ = some (.int .i64 t.keep) ∧ W.cell? ⟨w.heap.size + 1, 1, none⟩ = some (.int .i64 t.free) ∧ W.cell? ⟨w.heap.size + 1, 2, none⟩ = some (.int .i64 t.step) ∧ W.cell? ⟨w.heap.size + 1, 3, none⟩ = some (.int .i64 t.rate) ∧ W.cell? ⟨w.heap.size + 1, 4, none⟩ = some (.int .i64 t.cap) ∧ W.cell? ⟨w.heap.size + 1, 5, none⟩ = some (.int .i64 t.longer) ∧ W.cell? ⟨w.heap.size + 1, 6, none⟩ = some (.int .i64 t.price) ∧ W.cell? ⟨w.heap.size + 1, 7, none⟩ = some (.int .i64 t.most)) ∧ Below w6.heap.size w6 W) wr2 := ⟨⟨(bold hv2 _ _ (by omega)).trans S0.1.1, (bold hv2 _ _ (by omega)).trans S0.1.2.1, (bold hv2 _ _ (by omega)).trans S0.1.2.2.1, (bold hv2 _ _ (by omega)).trans S0.1.2.2.2.1, (bold hv2 _ _ (by omega)).trans S0.1.2.2.2.2.1, (bold hv2 _ _ (by omega)).trans S0.1.2.2.2.2.2.1, (bold hv2 _ _ (by omega)).trans S0.1.2.2.2.2.2.2.1, (bold hv2 _ _ (by omega)).trans S0.1.2.2.2.2.2.2.2.1, (bold hv2 _ _ (by omega)).trans S0.1.2.2.2.2.2.2.2.2.1, (bold hv2 _ _ (by omega)).trans S0.1.2.2.2.2.2.2.2.2.2⟩, hv2⟩))
  have hb : Below w6.heap.size w6 wr2 := hv2
  clear S0 S1 S2 zc zd hzz hlvx9 hlta9 hz1 hy1 hz2 hy2
  clear hv2 h2 hv1 h1
  have za := ZAH.out; clear ZAH
  have ta := TAH.out; clear TAH
  have vx := VXH.out; clear VXH
  have zb := ZB.out; clear ZB
  have kk := SL.later SL_xx.out (by omega) hb; clear SL_xx; have SL_xx := Lib.hid kk; clear kk
  have kk := SL.later SL_xxk.out (by omega) hb; clear SL_xxk; have SL_xxk := Lib.hid kk; clear kk
  have hswr2 := hb.size
  replace za := has_call za hb
  replace ta := has_call ta hb
  replace vx := has_call vx hb
  replace zb := bthen zb hb; clear hb
  skip
  have zac0 := has_cell za 0 rfl; have zac1 := has_cell za 1 rfl
  have zalt := has_lt za
  have tac0 := has_cell ta 0 rfl; have tac1 := has_cell ta 1 rfl; have tac2 := has_cell ta 2 rfl; have tac3 := has_cell ta 3 rfl; have tac4 := has_cell ta 4 rfl; have tac5 := has_cell ta 5 rfl; have tac6 := has_cell ta 6 rfl; have tac7 := has_cell ta 7 rfl
  have talt := has_lt ta
  have vxc0 := has_cell vx 0 rfl; have vxc1 := has_cell vx 1 rfl
  have vxlt := has_lt vx
  have ZAH := Lib.hid za; clear za
  have TAH := Lib.hid ta; clear ta
  have VXH := Lib.hid vx; clear vx
  have ZB := Lib.hid zb; clear zb
  try go_wp2_with fail
  have S0 : (fun W : World => (W.cell? ⟨w.heap.size, 0, none⟩ = some (.slice A o.length n) ∧ W.cell? ⟨w.heap.size, 1, none⟩ = some (.slice A' c.length n') ∧ W.cell? ⟨w5.heap.size, 0, none⟩ = some (.slice xxA o.length o.length) ∧ W.cell? ⟨w5.heap.size, 1, none⟩ = some (.slice xxB c.length c.length)) ∧ Below wr2.heap.size wr2 W) wr2.drew := ⟨⟨zac0, zac1, vxc0, vxc1⟩, (Below.refl _ _).drew⟩
  have zc := ZB.out; have zd : Below w.heap.size w wr2.drew := zc.drew; have hl1 := zalt; have hl2 := vxlt; have hzz := zc.size
  clear zac0 zac1 zalt tac0 tac1 tac2 tac3 tac4 tac5 tac6 tac7 talt vxc0 vxc1 vxlt
  go_region_held3 (fun W : World => (W.cell? ⟨w.heap.size, 0, none⟩ = some (.slice A o.length n) ∧ W.cell? ⟨w.heap.size, 1, none⟩ = some (.slice A' c.length n') ∧ W.cell? ⟨w5.heap.size, 0, none⟩ = some (.slice xxA o.length o.length) ∧ W.cell? ⟨w5.heap.size, 1, none⟩ = some (.slice xxB c.length c.length)) ∧ Below wr2.heap.size wr2 W) (first | assumption) (first
    | (go_at_call 10; go_must (refine (toWeek_any wr2.drew w.heap.size A A' n n' o c lo lc zd.size (HS.out.below zd) (HS'.out.below zd)).mono ?_); rintro e wa ⟨xyA, xyB, rfl, h5, h6, hb6⟩; have T1 := Lib.hid h5; have T2 := Lib.hid h6; clear h5 h6; have hb7 : Below wr2.heap.size wr2 wa := ((Below.refl wr2.heap.size wr2).drew).trans hb6; have hz7 := hb7.size; clear hb6; have S6 : (fun W : World => (W.cell? ⟨w.heap.size, 0, none⟩ = some (.slice A o.length n) ∧ W.cell? ⟨w.heap.size, 1, none⟩ = some (.slice A' c.length n') ∧ W.cell? ⟨w5.heap.size, 0, none⟩ = some (.slice xxA o.length o.length) ∧ W.cell? ⟨w5.heap.size, 1, none⟩ = some (.slice xxB c.length c.length)) ∧ Below wr2.heap.size wr2 W) wa := ⟨⟨(bold hb7 _ _ (by omega)).trans S0.1.1, (bold hb7 _ _ (by omega)).trans S0.1.2.1, (bold hb7 _ _ (by omega)).trans S0.1.2.2.1, (bold hb7 _ _ (by omega)).trans S0.1.2.2.2⟩, hb7⟩)
    | (go_at_call 13; go_must (refine (eqWeek_any wa w5.heap.size wa.heap.size xxA xxB xyA xyB o.length c.length o.length c.length o c ho hc (by omega) (Nat.le_refl _) (SL.later SL_xx.out (by omega) hb7) (SL.later SL_xxk.out (by omega) hb7) T1.out T2.out).mono ?_); rintro e wb ⟨rfl, hb8⟩; have hb9 := bthen hb7 hb8; have S7 : (fun W : World => (W.cell? ⟨w.heap.size, 0, none⟩ = some (.slice A o.length n) ∧ W.cell? ⟨w.heap.size, 1, none⟩ = some (.slice A' c.length n') ∧ W.cell? ⟨w5.heap.size, 0, none⟩ = some (.slice xxA o.length o.length) ∧ W.cell? ⟨w5.heap.size, 1, none⟩ = some (.slice xxB c.length c.length)) ∧ Below wr2.heap.size wr2 W) wb := ⟨⟨(bold hb9 _ _ (by omega)).trans S0.1.1, (bold hb9 _ _ (by omega)).trans S0.1.2.1, (bold hb9 _ _ (by omega)).trans S0.1.2.2.1, (bold hb9 _ _ (by omega)).trans S0.1.2.2.2⟩, hb9⟩))
  have hb := S7.2
  clear S0 S6 S7 zc zd T1 T2 hb9
  have za := ZAH.out; clear ZAH
  have ta := TAH.out; clear TAH
  have vx := VXH.out; clear VXH
  have zb := ZB.out; clear ZB
  have kk := SL.later SL_xx.out (by omega) hb; clear SL_xx; have SL_xx := Lib.hid kk; clear kk
  have kk := SL.later SL_xxk.out (by omega) hb; clear SL_xxk; have SL_xxk := Lib.hid kk; clear kk
  have hswb := hb.size
  replace za := has_call za hb
  replace ta := has_call ta hb
  replace vx := has_call vx hb
  replace zb := bthen zb hb; clear hb
  have zac0 := has_cell za 0 rfl; have zac1 := has_cell za 1 rfl
  have zalt := has_lt za
  have tac0 := has_cell ta 0 rfl; have tac1 := has_cell ta 1 rfl; have tac2 := has_cell ta 2 rfl; have tac3 := has_cell ta 3 rfl; have tac4 := has_cell ta 4 rfl; have tac5 := has_cell ta 5 rfl; have tac6 := has_cell ta 6 rfl; have tac7 := has_cell ta 7 rfl
  have talt := has_lt ta
  have vxc0 := has_cell vx 0 rfl; have vxc1 := has_cell vx 1 rfl
  have vxlt := has_lt vx
  have ZAH := Lib.hid za; clear za
  have TAH := Lib.hid ta; clear ta
  have VXH := Lib.hid vx; clear vx
  have ZB := Lib.hid zb; clear zb
  go_wp2_with fail
  clear zac0 zac1 zalt tac0 tac1 tac2 tac3 tac4 tac5 tac6 tac7 talt vxc0 vxc1 vxlt
  have za := ZAH.out; clear ZAH
  have ta := TAH.out; clear TAH
  have vx := VXH.out; clear VXH
  have zb := ZB.out; clear ZB
  go_ret
  exact ⟨rfl, zb⟩
set_option maxRecDepth 100000 in
set_option maxHeartbeats 8000000 in
theorem lexLaw_walk (A A' : Option Addr) (n n' : Nat) (o c : List (Int × Int)) (t : Tm) (a : Int) (u : Int) (w : World) (ho : o.length ≤ maxLen) (hc : c.length ≤ maxLen) (hS : SL w w.heap.size A o) (hS' : SL w w.heap.size A' c) : Calls Try.prog 5 #[.agg #[.slice A o.length n, .slice A' c.length n'], .agg #[.int .i64 t.keep, .int .i64 t.free, .int .i64 t.step, .int .i64 t.rate, .int .i64 t.cap, .int .i64 t.longer, .int .i64 t.price, .int .i64 t.most], .int .i64 a, .int .i64 u] w fun e w' => e = .returned (.bool true) ∧ Below w.heap.size w w' := by
  have HS := Lib.hid hS; clear hS
  have HS' := Lib.hid hS'; clear hS'
  obtain ⟨s0, hs0⟩ : ∃ s, szW 1048576 o.length c.length = s := ⟨_, rfl⟩
  by_cases hbig0 : s0 < 0
  · skip
    have Hs0 := Lib.hid hs0; clear hs0
    go_enter Try.func5, Try.ntmps5
    go_wp2_with fail
    generalize hX : (w.alloc (.cells #[.slice A o.length n, .slice A' c.length n'] 24)) = w1
    have hb : Below w.heap.size w w1 := by rw [← hX]; exact balloc _ _
    have hk : Has w1 w.heap.size 24 #[.slice A o.length n, .slice A' c.length n'] := by rw [← hX]; exact has_new _ _ _
    have hzw1 : w1.heap.size = w.heap.size + 1 := by rw [← hX]; simp
    clear hX
    have zb := hb; clear hb
    have za := hk; clear hk
    generalize hX : (w1.alloc (.cells #[.int .i64 t.keep, .int .i64 t.free, .int .i64 t.step, .int .i64 t.rate, .int .i64 t.cap, .int .i64 t.longer, .int .i64 t.price, .int .i64 t.most] 26)) = w2
    have hb : Below w1.heap.size w1 w2 := by rw [← hX]; exact balloc _ _
    have hk : Has w2 w1.heap.size 26 #[.int .i64 t.keep, .int .i64 t.free, .int .i64 t.step, .int .i64 t.rate, .int .i64 t.cap, .int .i64 t.longer, .int .i64 t.price, .int .i64 t.most] := by rw [← hX]; exact has_new _ _ _
    have hzw2 : w2.heap.size = w.heap.size + 2 := by rw [← hX]; simp [hzw1]
    clear hX
    rw [hzw1] at hk
    replace za := has_call za hb
    replace zb := bthen zb hb; clear hb
    have ta := hk; clear hk
    clear hzw1 hzw2
    have hsw0 := zb.size
    have zac0 := has_cell za 0 rfl; have zac1 := has_cell za 1 rfl
    have zalt := has_lt za
    have tac0 := has_cell ta 0 rfl; have tac1 := has_cell ta 1 rfl; have tac2 := has_cell ta 2 rfl; have tac3 := has_cell ta 3 rfl; have tac4 := has_cell ta 4 rfl; have tac5 := has_cell ta 5 rfl; have tac6 := has_cell ta 6 rfl; have tac7 := has_cell ta 7 rfl
    have talt := has_lt ta
    have ZAH := Lib.hid za; clear za
    have TAH := Lib.hid ta; clear ta
    have ZB := Lib.hid zb; clear zb
    go_wp2_with fail
    clear zac0 zac1 zalt tac0 tac1 tac2 tac3 tac4 tac5 tac6 tac7 talt
    have za := ZAH.out; clear ZAH
    have ta := TAH.out; clear TAH
    have zb := ZB.out; clear ZB
    refine (szW_any _ A A' o.length n c.length n' 1048576 ho hc (by omega) (by omega)).mono ?_
    rintro e w3 ⟨rfl, hb⟩
    rw [Hs0.out]
    have hsw3 := hb.size
    replace za := has_call za hb
    replace ta := has_call ta hb
    replace zb := bthen zb hb; clear hb
    have zac0 := has_cell za 0 rfl; have zac1 := has_cell za 1 rfl
    have zalt := has_lt za
    have tac0 := has_cell ta 0 rfl; have tac1 := has_cell ta 1 rfl; have tac2 := has_cell ta 2 rfl; have tac3 := has_cell ta 3 rfl; have tac4 := has_cell ta 4 rfl; have tac5 := has_cell ta 5 rfl; have tac6 := has_cell ta 6 rfl; have tac7 := has_cell ta 7 rfl
    have talt := has_lt ta
    have ZAH := Lib.hid za; clear za
    have TAH := Lib.hid ta; clear ta
    have ZB := Lib.hid zb; clear zb
    go_wp2_with fail
    clear zac0 zac1 zalt tac0 tac1 tac2 tac3 tac4 tac5 tac6 tac7 talt
    have za := ZAH.out; clear ZAH
    have ta := TAH.out; clear TAH
    have zb := ZB.out; clear ZB
    go_ret
    exact ⟨rfl, zb⟩
  have hlen : o.length ≤ 1048576 ∧ c.length ≤ 1048576 ∧ s0 ≤ 1048576 := by
    subst hs0
    unfold szW szI at hbig0 ⊢
    split at hbig0
    · omega
    · rename_i hq; rw [if_neg hq]; split at hbig0
      · omega
      · rename_i hq2; rw [if_neg hq2]; omega
  obtain ⟨lo, lc, ls0⟩ := hlen
  have Hs0 := Lib.hid hs0; clear hs0
  obtain ⟨q, hq⟩ : ∃ q, lstB o c t a u = q := ⟨_, rfl⟩
  have HV := Lib.hid hq; clear hq
  cases q with
  | none =>
    go_enter Try.func5, Try.ntmps5
    go_wp2_with fail
    generalize hX : (w.alloc (.cells #[.slice A o.length n, .slice A' c.length n'] 24)) = w1
    have hb : Below w.heap.size w w1 := by rw [← hX]; exact balloc _ _
    have hk : Has w1 w.heap.size 24 #[.slice A o.length n, .slice A' c.length n'] := by rw [← hX]; exact has_new _ _ _
    have hzw1 : w1.heap.size = w.heap.size + 1 := by rw [← hX]; simp
    clear hX
    have zb := hb; clear hb
    have za := hk; clear hk
    generalize hX : (w1.alloc (.cells #[.int .i64 t.keep, .int .i64 t.free, .int .i64 t.step, .int .i64 t.rate, .int .i64 t.cap, .int .i64 t.longer, .int .i64 t.price, .int .i64 t.most] 26)) = w2
    have hb : Below w1.heap.size w1 w2 := by rw [← hX]; exact balloc _ _
    have hk : Has w2 w1.heap.size 26 #[.int .i64 t.keep, .int .i64 t.free, .int .i64 t.step, .int .i64 t.rate, .int .i64 t.cap, .int .i64 t.longer, .int .i64 t.price, .int .i64 t.most] := by rw [← hX]; exact has_new _ _ _
    have hzw2 : w2.heap.size = w.heap.size + 2 := by rw [← hX]; simp [hzw1]
    clear hX
    rw [hzw1] at hk
    replace za := has_call za hb
    replace zb := bthen zb hb; clear hb
    have ta := hk; clear hk
    clear hzw1 hzw2
    have hsw0 := zb.size
    have zac0 := has_cell za 0 rfl; have zac1 := has_cell za 1 rfl
    have zalt := has_lt za
    have tac0 := has_cell ta 0 rfl; have tac1 := has_cell ta 1 rfl; have tac2 := has_cell ta 2 rfl; have tac3 := has_cell ta 3 rfl; have tac4 := has_cell ta 4 rfl; have tac5 := has_cell ta 5 rfl; have tac6 := has_cell ta 6 rfl; have tac7 := has_cell ta 7 rfl
    have talt := has_lt ta
    have ZAH := Lib.hid za; clear za
    have TAH := Lib.hid ta; clear ta
    have ZB := Lib.hid zb; clear zb
    go_wp2_with fail
    clear zac0 zac1 zalt tac0 tac1 tac2 tac3 tac4 tac5 tac6 tac7 talt
    have za := ZAH.out; clear ZAH
    have ta := TAH.out; clear TAH
    have zb := ZB.out; clear ZB
    refine (szW_any _ A A' o.length n c.length n' 1048576 ho hc (by omega) (by omega)).mono ?_
    rintro e w3 ⟨rfl, hb⟩
    rw [Hs0.out]
    have hsw3 := hb.size
    replace za := has_call za hb
    replace ta := has_call ta hb
    replace zb := bthen zb hb; clear hb
    have zac0 := has_cell za 0 rfl; have zac1 := has_cell za 1 rfl
    have zalt := has_lt za
    have tac0 := has_cell ta 0 rfl; have tac1 := has_cell ta 1 rfl; have tac2 := has_cell ta 2 rfl; have tac3 := has_cell ta 3 rfl; have tac4 := has_cell ta 4 rfl; have tac5 := has_cell ta 5 rfl; have tac6 := has_cell ta 6 rfl; have tac7 := has_cell ta 7 rfl
    have talt := has_lt ta
    have ZAH := Lib.hid za; clear za
    have TAH := Lib.hid ta; clear ta
    have ZB := Lib.hid zb; clear zb
    go_wp2_with fail
    clear zac0 zac1 zalt tac0 tac1 tac2 tac3 tac4 tac5 tac6 tac7 talt
    have za := ZAH.out; clear ZAH
    have ta := TAH.out; clear TAH
    have zb := ZB.out; clear ZB
    have zac0 := has_cell za 0 rfl; have zac1 := has_cell za 1 rfl
    have zalt := has_lt za
    have tac0 := has_cell ta 0 rfl; have tac1 := has_cell ta 1 rfl; have tac2 := has_cell ta 2 rfl; have tac3 := has_cell ta 3 rfl; have tac4 := has_cell ta 4 rfl; have tac5 := has_cell ta 5 rfl; have tac6 := has_cell ta 6 rfl; have tac7 := has_cell ta 7 rfl
    have talt := has_lt ta
    have ZAH := Lib.hid za; clear za
    have TAH := Lib.hid ta; clear ta
    have ZB := Lib.hid zb; clear zb
    try go_wp2_with fail
    have S0 : (fun W : World => (W.cell? ⟨w.heap.size, 0, none⟩ = some (.slice A o.length n) ∧ W.cell? ⟨w.heap.size, 1, none⟩ = some (.slice A' c.length n') ∧ W.cell? ⟨w.heap.size + 1, 0, none⟩ = some (.int .i64 t.keep) ∧ W.cell? ⟨w.heap.size + 1, 1, none⟩ = some (.int .i64 t.free) ∧ W.cell? ⟨w.heap.size + 1, 2, none⟩ = some (.int .i64 t.step) ∧ W.cell? ⟨w.heap.size + 1, 3, none⟩ = some (.int .i64 t.rate) ∧ W.cell? ⟨w.heap.size + 1, 4, none⟩ = some (.int .i64 t.cap) ∧ W.cell? ⟨w.heap.size + 1, 5, none⟩ = some (.int .i64 t.longer) ∧ W.cell? ⟨w.heap.size + 1, 6, none⟩ = some (.int .i64 t.price) ∧ W.cell? ⟨w.heap.size + 1, 7, none⟩ = some (.int .i64 t.most)) ∧ Below w3.heap.size w3 W) w3.drew := ⟨⟨zac0, zac1, tac0, tac1, tac2, tac3, tac4, tac5, tac6, tac7⟩, (Below.refl _ _).drew⟩
    have zc := ZB.out; have zd : Below w.heap.size w w3.drew := zc.drew; have hzz := zc.size
    have hlza9 := zalt
    have hlta9 := talt
    clear zac0 zac1 zalt tac0 tac1 tac2 tac3 tac4 tac5 tac6 tac7 talt
    go_region_held3 (fun W : World => (W.cell? ⟨w.heap.size, 0, none⟩ = some (.slice A o.length n) ∧ W.cell? ⟨w.heap.size, 1, none⟩ = some (.slice A' c.length n') ∧ W.cell? ⟨w.heap.size + 1, 0, none⟩ = some (.int .i64 t.keep) ∧ W.cell? ⟨w.heap.size + 1, 1, none⟩ = some (.int .i64 t.free) ∧ W.cell? ⟨w.heap.size + 1, 2, none⟩ = some (.int .i64 t.step) ∧ W.cell? ⟨w.heap.size + 1, 3, none⟩ = some (.int .i64 t.rate) ∧ W.cell? ⟨w.heap.size + 1, 4, none⟩ = some (.int .i64 t.cap) ∧ W.cell? ⟨w.heap.size + 1, 5, none⟩ = some (.int .i64 t.longer) ∧ W.cell? ⟨w.heap.size + 1, 6, none⟩ = some (.int .i64 t.price) ∧ W.cell? ⟨w.heap.size + 1, 7, none⟩ = some (.int .i64 t.most)) ∧ Below w3.heap.size w3 W) (first | assumption) (first
      | (go_at_call 10; go_must (refine (toWeek_any w3.drew w.heap.size A A' n n' o c lo lc zd.size (HS.out.below zd) (HS'.out.below zd)).mono ?_); rintro e wr1 ⟨u1A, u1B, rfl, h5, h6, h1⟩; have T1 := Lib.hid h5; have T1k := Lib.hid h6; clear h5 h6; have hv1 : Below w3.heap.size w3 wr1 := ((Below.refl w3.heap.size w3).drew).trans h1; have hz1 := hv1.size; have hy1 := h1.size; have S1 : (fun W : World => (W.cell? ⟨w.heap.size, 0, none⟩ = some (.slice A o.length n) ∧ W.cell? ⟨w.heap.size, 1, none⟩ = some (.slice A' c.length n') ∧ W.cell? ⟨w.heap.size + 1, 0, none⟩ = some (.int .i64 t.keep) ∧ W.cell? ⟨w.heap.size + 1, 1, none⟩ = some (.int .i64 t.free) ∧ W.cell? ⟨w.heap.size + 1, 2, none⟩ = some (.int .i64 t.step) ∧ W.cell? ⟨w.heap.size + 1, 3, none⟩ = some (.int .i64 t.rate) ∧ W.cell? ⟨w.heap.size + 1, 4, none⟩ = some (.int .i64 t.cap) ∧ W.cell? ⟨w.heap.size + 1, 5, none⟩ = some (.int .i64 t.longer) ∧ W.cell? ⟨w.heap.size + 1, 6, none⟩ = some (.int .i64 t.price) ∧ W.cell? ⟨w.heap.size + 1, 7, none⟩ = some (.int .i64 t.most)) ∧ Below w3.heap.size w3 W) wr1 := ⟨⟨(bold hv1 _ _ (by omega)).trans S0.1.1, (bold hv1 _ _ (by omega)).trans S0.1.2.1, (bold hv1 _ _ (by omega)).trans S0.1.2.2.1, (bold hv1 _ _ (by omega)).trans S0.1.2.2.2.1, (bold hv1 _ _ (by omega)).trans S0.1.2.2.2.2.1, (bold hv1 _ _ (by omega)).trans S0.1.2.2.2.2.2.1, (bold hv1 _ _ (by omega)).trans S0.1.2.2.2.2.2.2.1, (bold hv1 _ _ (by omega)).trans S0.1.2.2.2.2.2.2.2.1, (bold hv1 _ _ (by omega)).trans S0.1.2.2.2.2.2.2.2.2.1, (bold hv1 _ _ (by omega)).trans S0.1.2.2.2.2.2.2.2.2.2⟩, hv1⟩)
      | (go_at_call 11; go_must (refine (toTerms_any t.keep t.free t.step t.rate t.cap t.longer t.price t.most wr1).mono ?_); rintro e wr2 ⟨rfl, h2⟩; have hv2 : Below w3.heap.size w3 wr2 := bthen hv1 h2; have hz2 := hv2.size; have hy2 := h2.size; have S2 : (fun W : World => (W.cell? ⟨w.heap.size, 0, none⟩ = some (.slice A o.length n) ∧ W.cell? ⟨w.heap.size, 1, none⟩ = some (.slice A' c.length n') ∧ W.cell? ⟨w.heap.size + 1, 0, none⟩ = some (.int .i64 t.keep) ∧ W.cell? ⟨w.heap.size + 1, 1, none⟩ = some (.int .i64 t.free) ∧ W.cell? ⟨w.heap.size + 1, 2, none⟩ = some (.int .i64 t.step) ∧ W.cell? ⟨w.heap.size + 1, 3, none⟩ = some (.int .i64 t.rate) ∧ W.cell? ⟨w.heap.size + 1, 4, none⟩ = some (.int .i64 t.cap) ∧ W.cell? ⟨w.heap.size + 1, 5, none⟩ = some (.int .i64 t.longer) ∧ W.cell? ⟨w.heap.size + 1, 6, none⟩ = some (.int .i64 t.price) ∧ W.cell? ⟨w.heap.size + 1, 7, none⟩ = some (.int .i64 t.most)) ∧ Below w3.heap.size w3 W) wr2 := ⟨⟨(bold hv2 _ _ (by omega)).trans S0.1.1, (bold hv2 _ _ (by omega)).trans S0.1.2.1, (bold hv2 _ _ (by omega)).trans S0.1.2.2.1, (bold hv2 _ _ (by omega)).trans S0.1.2.2.2.1, (bold hv2 _ _ (by omega)).trans S0.1.2.2.2.2.1, (bold hv2 _ _ (by omega)).trans S0.1.2.2.2.2.2.1, (bold hv2 _ _ (by omega)).trans S0.1.2.2.2.2.2.2.1, (bold hv2 _ _ (by omega)).trans S0.1.2.2.2.2.2.2.2.1, (bold hv2 _ _ (by omega)).trans S0.1.2.2.2.2.2.2.2.2.1, (bold hv2 _ _ (by omega)).trans S0.1.2.2.2.2.2.2.2.2.2⟩, hv2⟩)
      | (go_at_call 16; go_must (refine (leastS_any wr2 wr2.heap.size u1A u1B o.length c.length o c t a u ho hc (by omega) (SL.more ((T1.out).later (by omega) (h2)) (by omega)) (SL.more ((T1k.out).later (by omega) (h2)) (by omega)) ).mono ?_); rintro e wr3 ⟨rfl, h3⟩; rw [HV.out]; unfold pairV; have hv3 : Below w3.heap.size w3 wr3 := bthen hv2 h3; have hz3 := hv3.size; have hy3 := h3.size; have S3 : (fun W : World => (W.cell? ⟨w.heap.size, 0, none⟩ = some (.slice A o.length n) ∧ W.cell? ⟨w.heap.size, 1, none⟩ = some (.slice A' c.length n') ∧ W.cell? ⟨w.heap.size + 1, 0, none⟩ = some (.int .i64 t.keep) ∧ W.cell? ⟨w.heap.size + 1, 1, none⟩ = some (.int .i64 t.free) ∧ W.cell? ⟨w.heap.size + 1, 2, none⟩ = some (.int .i64 t.step) ∧ W.cell? ⟨w.heap.size + 1, 3, none⟩ = some (.int .i64 t.rate) ∧ W.cell? ⟨w.heap.size + 1, 4, none⟩ = some (.int .i64 t.cap) ∧ W.cell? ⟨w.heap.size + 1, 5, none⟩ = some (.int .i64 t.longer) ∧ W.cell? ⟨w.heap.size + 1, 6, none⟩ = some (.int .i64 t.price) ∧ W.cell? ⟨w.heap.size + 1, 7, none⟩ = some (.int .i64 t.most)) ∧ Below w3.heap.size w3 W) wr3 := ⟨⟨(bold hv3 _ _ (by omega)).trans S0.1.1, (bold hv3 _ _ (by omega)).trans S0.1.2.1, (bold hv3 _ _ (by omega)).trans S0.1.2.2.1, (bold hv3 _ _ (by omega)).trans S0.1.2.2.2.1, (bold hv3 _ _ (by omega)).trans S0.1.2.2.2.2.1, (bold hv3 _ _ (by omega)).trans S0.1.2.2.2.2.2.1, (bold hv3 _ _ (by omega)).trans S0.1.2.2.2.2.2.2.1, (bold hv3 _ _ (by omega)).trans S0.1.2.2.2.2.2.2.2.1, (bold hv3 _ _ (by omega)).trans S0.1.2.2.2.2.2.2.2.2.1, (bold hv3 _ _ (by omega)).trans S0.1.2.2.2.2.2.2.2.2.2⟩, hv3⟩))
    have hb : Below w3.heap.size w3 wr3 := hv3
    clear S0 S1 S2 S3 zc zd hzz hlza9 hlta9 hz1 hy1 hz2 hy2 hz3 hy3
    clear T1 T1k
    clear hv3 h3 hv2 h2 hv1 h1
    have za := ZAH.out; clear ZAH
    have ta := TAH.out; clear TAH
    have zb := ZB.out; clear ZB
    have hswr3 := hb.size
    replace za := has_call za hb
    replace ta := has_call ta hb
    replace zb := bthen zb hb; clear hb
    skip
    have zac0 := has_cell za 0 rfl; have zac1 := has_cell za 1 rfl
    have zalt := has_lt za
    have tac0 := has_cell ta 0 rfl; have tac1 := has_cell ta 1 rfl; have tac2 := has_cell ta 2 rfl; have tac3 := has_cell ta 3 rfl; have tac4 := has_cell ta 4 rfl; have tac5 := has_cell ta 5 rfl; have tac6 := has_cell ta 6 rfl; have tac7 := has_cell ta 7 rfl
    have talt := has_lt ta
    have ZAH := Lib.hid za; clear za
    have TAH := Lib.hid ta; clear ta
    have ZB := Lib.hid zb; clear zb
    go_wp2_with fail
    clear zac0 zac1 zalt tac0 tac1 tac2 tac3 tac4 tac5 tac6 tac7 talt
    have za := ZAH.out; clear ZAH
    have ta := TAH.out; clear TAH
    have zb := ZB.out; clear ZB
    refine (toWeek_any _ w.heap.size A A' n n' o c lo lc zb.size (HS.out.below zb) (HS'.out.below zb)).mono ?_
    rintro e w5 ⟨xxA, xxB, rfl, h5, h6, hb⟩
    have hsw5 := hb.size
    replace za := has_call za hb
    replace ta := has_call ta hb
    replace zb := bthen zb hb; clear hb
    have SL_xx := Lib.hid h5; have SL_xxk := Lib.hid h6; clear h5 h6
    have zac0 := has_cell za 0 rfl; have zac1 := has_cell za 1 rfl
    have zalt := has_lt za
    have tac0 := has_cell ta 0 rfl; have tac1 := has_cell ta 1 rfl; have tac2 := has_cell ta 2 rfl; have tac3 := has_cell ta 3 rfl; have tac4 := has_cell ta 4 rfl; have tac5 := has_cell ta 5 rfl; have tac6 := has_cell ta 6 rfl; have tac7 := has_cell ta 7 rfl
    have talt := has_lt ta
    have ZAH := Lib.hid za; clear za
    have TAH := Lib.hid ta; clear ta
    have ZB := Lib.hid zb; clear zb
    go_wp2_with fail
    clear zac0 zac1 zalt tac0 tac1 tac2 tac3 tac4 tac5 tac6 tac7 talt
    have za := ZAH.out; clear ZAH
    have ta := TAH.out; clear TAH
    have zb := ZB.out; clear ZB
    generalize hX : (w5.alloc (.cells #[.slice xxA o.length o.length, .slice xxB c.length c.length] 32)) = w6
    have hb : Below w5.heap.size w5 w6 := by rw [← hX]; exact balloc _ _
    have hk : Has w6 w5.heap.size 32 #[.slice xxA o.length o.length, .slice xxB c.length c.length] := by rw [← hX]; exact has_new _ _ _
    clear hX
    have kk := SL.later SL_xx.out (by omega) hb; clear SL_xx; have SL_xx := Lib.hid kk; clear kk
    have kk := SL.later SL_xxk.out (by omega) hb; clear SL_xxk; have SL_xxk := Lib.hid kk; clear kk
    have hsw6 := hb.size
    replace za := has_call za hb
    replace ta := has_call ta hb
    replace zb := bthen zb hb; clear hb
    have vx := hk; clear hk; have hlvx := has_lt vx
    have zac0 := has_cell za 0 rfl; have zac1 := has_cell za 1 rfl
    have zalt := has_lt za
    have tac0 := has_cell ta 0 rfl; have tac1 := has_cell ta 1 rfl; have tac2 := has_cell ta 2 rfl; have tac3 := has_cell ta 3 rfl; have tac4 := has_cell ta 4 rfl; have tac5 := has_cell ta 5 rfl; have tac6 := has_cell ta 6 rfl; have tac7 := has_cell ta 7 rfl
    have talt := has_lt ta
    have vxc0 := has_cell vx 0 rfl; have vxc1 := has_cell vx 1 rfl
    have vxlt := has_lt vx
    have ZAH := Lib.hid za; clear za
    have TAH := Lib.hid ta; clear ta
    have VXH := Lib.hid vx; clear vx
    have ZB := Lib.hid zb; clear zb
    go_wp2_with fail
    clear zac0 zac1 zalt tac0 tac1 tac2 tac3 tac4 tac5 tac6 tac7 talt vxc0 vxc1 vxlt
    have za := ZAH.out; clear ZAH
    have ta := TAH.out; clear TAH
    have vx := VXH.out; clear VXH
    have zb := ZB.out; clear ZB
    have vxc0 := has_cell vx 0 rfl; have vxc1 := has_cell vx 1 rfl
    have vxlt := has_lt vx
    have tac0 := has_cell ta 0 rfl; have tac1 := has_cell ta 1 rfl; have tac2 := has_cell ta 2 rfl; have tac3 := has_cell ta 3 rfl; have tac4 := has_cell ta 4 rfl; have tac5 := has_cell ta 5 rfl; have tac6 := has_cell ta 6 rfl; have tac7 := has_cell ta 7 rfl
    have talt := has_lt ta
    have ZAH := Lib.hid za; clear za
    have TAH := Lib.hid ta; clear ta
    have VXH := Lib.hid vx; clear vx
    have ZB := Lib.hid zb; clear zb
    try go_wp2_with fail
    have S0 : (fun W : World => (W.cell? ⟨w5.heap.size, 0, none⟩ = some (.slice xxA o.length o.length) ∧ W.cell? ⟨w5.heap.size, 1, none⟩ = some (.slice xxB c.length c.length) ∧ W.cell? ⟨w.heap.size + 1, 0, none⟩ = some (.int .i64 t.keep) ∧ W.cell? ⟨w.heap.size + 1, 1, none⟩ = some (.int .i64 t.free) ∧ W.cell? ⟨w.heap.size + 1, 2, none⟩ = some (.int .i64 t.step) ∧ W.cell? ⟨w.heap.size + 1, 3, none⟩ = some (.int .i64 t.rate) ∧ W.cell? ⟨w.heap.size + 1, 4, none⟩ = some (.int .i64 t.cap) ∧ W.cell? ⟨w.heap.size + 1, 5, none⟩ = some (.int .i64 t.longer) ∧ W.cell? ⟨w.heap.size + 1, 6, none⟩ = some (.int .i64 t.price) ∧ W.cell? ⟨w.heap.size + 1, 7, none⟩ = some (.int .i64 t.most)) ∧ Below w6.heap.size w6 W) w6.drew := ⟨⟨vxc0, vxc1, tac0, tac1, tac2, tac3, tac4, tac5, tac6, tac7⟩, (Below.refl _ _).drew⟩
    have zc := ZB.out; have zd : Below w.heap.size w w6.drew := zc.drew; have hzz := zc.size
    have hlvx9 := vxlt
    have hlta9 := talt
    clear vxc0 vxc1 vxlt tac0 tac1 tac2 tac3 tac4 tac5 tac6 tac7 talt
    go_region_held3 (fun W : World => (W.cell? ⟨w5.heap.size, 0, none⟩ = some (.slice xxA o.length o.length) ∧ W.cell? ⟨w5.heap.size, 1, none⟩ = some (.slice xxB c.length c.length) ∧ W.cell? ⟨w.heap.size + 1, 0, none⟩ = some (.int .i64 t.keep) ∧ W.cell? ⟨w.heap.size + 1, 1, none⟩ = some (.int .i64 t.free) ∧ W.cell? ⟨w.heap.size + 1, 2, none⟩ = some (.int .i64 t.step) ∧ W.cell? ⟨w.heap.size + 1, 3, none⟩ = some (.int .i64 t.rate) ∧ W.cell? ⟨w.heap.size + 1, 4, none⟩ = some (.int .i64 t.cap) ∧ W.cell? ⟨w.heap.size + 1, 5, none⟩ = some (.int .i64 t.longer) ∧ W.cell? ⟨w.heap.size + 1, 6, none⟩ = some (.int .i64 t.price) ∧ W.cell? ⟨w.heap.size + 1, 7, none⟩ = some (.int .i64 t.most)) ∧ Below w6.heap.size w6 W) (first | assumption) (first
      | (go_at_call 11; go_must (refine (toTerms_any t.keep t.free t.step t.rate t.cap t.longer t.price t.most w6.drew).mono ?_); rintro e wr1 ⟨rfl, h1⟩; have hv1 : Below w6.heap.size w6 wr1 := ((Below.refl w6.heap.size w6).drew).trans h1; have hz1 := hv1.size; have hy1 := h1.size; have S1 : (fun W : World => (W.cell? ⟨w5.heap.size, 0, none⟩ = some (.slice xxA o.length o.length) ∧ W.cell? ⟨w5.heap.size, 1, none⟩ = some (.slice xxB c.length c.length) ∧ W.cell? ⟨w.heap.size + 1, 0, none⟩ = some (.int .i64 t.keep) ∧ W.cell? ⟨w.heap.size + 1, 1, none⟩ = some (.int .i64 t.free) ∧ W.cell? ⟨w.heap.size + 1, 2, none⟩ = some (.int .i64 t.step) ∧ W.cell? ⟨w.heap.size + 1, 3, none⟩ = some (.int .i64 t.rate) ∧ W.cell? ⟨w.heap.size + 1, 4, none⟩ = some (.int .i64 t.cap) ∧ W.cell? ⟨w.heap.size + 1, 5, none⟩ = some (.int .i64 t.longer) ∧ W.cell? ⟨w.heap.size + 1, 6, none⟩ = some (.int .i64 t.price) ∧ W.cell? ⟨w.heap.size + 1, 7, none⟩ = some (.int .i64 t.most)) ∧ Below w6.heap.size w6 W) wr1 := ⟨⟨(bold hv1 _ _ (by omega)).trans S0.1.1, (bold hv1 _ _ (by omega)).trans S0.1.2.1, (bold hv1 _ _ (by omega)).trans S0.1.2.2.1, (bold hv1 _ _ (by omega)).trans S0.1.2.2.2.1, (bold hv1 _ _ (by omega)).trans S0.1.2.2.2.2.1, (bold hv1 _ _ (by omega)).trans S0.1.2.2.2.2.2.1, (bold hv1 _ _ (by omega)).trans S0.1.2.2.2.2.2.2.1, (bold hv1 _ _ (by omega)).trans S0.1.2.2.2.2.2.2.2.1, (bold hv1 _ _ (by omega)).trans S0.1.2.2.2.2.2.2.2.2.1, (bold hv1 _ _ (by omega)).trans S0.1.2.2.2.2.2.2.2.2.2⟩, hv1⟩)
      | (go_at_call 17; go_must (refine (leastI_any wr1 w6.heap.size xxA xxB o.length c.length o c t a u ho hc (by omega) (SL.later (SL.more SL_xx.out (show _ ≤ w6.heap.size by omega)) (Nat.le_refl _) hv1) (SL.later (SL.more SL_xxk.out (show _ ≤ w6.heap.size by omega)) (Nat.le_refl _) hv1) ).mono ?_); rintro e wr2 ⟨rfl, h2⟩; rw [HV.out]; unfold pairV; have hv2 : Below w6.heap.size w6 wr2 := bthen hv1 h2; have hz2 := hv2.size; have hy2 := h2.size; have S2 : (fun W : World => (W.cell? ⟨w5.heap.size, 0, none⟩ = some (.slice xxA o.length o.length) ∧ W.cell? ⟨w5.heap.size, 1, none⟩ = some (.slice xxB c.length c.length) ∧ W.cell? ⟨w.heap.size + 1, 0, none⟩ = some (.int .i64 t.keep) ∧ W.cell? ⟨w.heap.size + 1, 1, none⟩ = some (.int .i64 t.free) ∧ W.cell? ⟨w.heap.size + 1, 2, none⟩ = some (.int .i64 t.step) ∧ W.cell? ⟨w.heap.size + 1, 3, none⟩ = some (.int .i64 t.rate) ∧ W.cell? ⟨w.heap.size + 1, 4, none⟩ = some (.int .i64 t.cap) ∧ W.cell? ⟨w.heap.size + 1, 5, none⟩ = some (.int .i64 t.longer) ∧ W.cell? ⟨w.heap.size + 1, 6, none⟩ = some (.int .i64 t.price) ∧ W.cell? ⟨w.heap.size + 1, 7, none⟩ = some (.int .i64 t.most)) ∧ Below w6.heap.size w6 W) wr2 := ⟨⟨(bold hv2 _ _ (by omega)).trans S0.1.1, (bold hv2 _ _ (by omega)).trans S0.1.2.1, (bold hv2 _ _ (by omega)).trans S0.1.2.2.1, (bold hv2 _ _ (by omega)).trans S0.1.2.2.2.1, (bold hv2 _ _ (by omega)).trans S0.1.2.2.2.2.1, (bold hv2 _ _ (by omega)).trans S0.1.2.2.2.2.2.1, (bold hv2 _ _ (by omega)).trans S0.1.2.2.2.2.2.2.1, (bold hv2 _ _ (by omega)).trans S0.1.2.2.2.2.2.2.2.1, (bold hv2 _ _ (by omega)).trans S0.1.2.2.2.2.2.2.2.2.1, (bold hv2 _ _ (by omega)).trans S0.1.2.2.2.2.2.2.2.2.2⟩, hv2⟩))
    have hb : Below w6.heap.size w6 wr2 := hv2
    clear S0 S1 S2 zc zd hzz hlvx9 hlta9 hz1 hy1 hz2 hy2
    clear hv2 h2 hv1 h1
    have za := ZAH.out; clear ZAH
    have ta := TAH.out; clear TAH
    have vx := VXH.out; clear VXH
    have zb := ZB.out; clear ZB
    have kk := SL.later SL_xx.out (by omega) hb; clear SL_xx; have SL_xx := Lib.hid kk; clear kk
    have kk := SL.later SL_xxk.out (by omega) hb; clear SL_xxk; have SL_xxk := Lib.hid kk; clear kk
    have hswr2 := hb.size
    replace za := has_call za hb
    replace ta := has_call ta hb
    replace vx := has_call vx hb
    replace zb := bthen zb hb; clear hb
    skip
    have zac0 := has_cell za 0 rfl; have zac1 := has_cell za 1 rfl
    have zalt := has_lt za
    have tac0 := has_cell ta 0 rfl; have tac1 := has_cell ta 1 rfl; have tac2 := has_cell ta 2 rfl; have tac3 := has_cell ta 3 rfl; have tac4 := has_cell ta 4 rfl; have tac5 := has_cell ta 5 rfl; have tac6 := has_cell ta 6 rfl; have tac7 := has_cell ta 7 rfl
    have talt := has_lt ta
    have vxc0 := has_cell vx 0 rfl; have vxc1 := has_cell vx 1 rfl
    have vxlt := has_lt vx
    have ZAH := Lib.hid za; clear za
    have TAH := Lib.hid ta; clear ta
    have VXH := Lib.hid vx; clear vx
    have ZB := Lib.hid zb; clear zb
    try go_wp2_with fail
    have S0 : (fun W : World => (W.cell? ⟨w.heap.size, 0, none⟩ = some (.slice A o.length n) ∧ W.cell? ⟨w.heap.size, 1, none⟩ = some (.slice A' c.length n') ∧ W.cell? ⟨w5.heap.size, 0, none⟩ = some (.slice xxA o.length o.length) ∧ W.cell? ⟨w5.heap.size, 1, none⟩ = some (.slice xxB c.length c.length)) ∧ Below wr2.heap.size wr2 W) wr2.drew := ⟨⟨zac0, zac1, vxc0, vxc1⟩, (Below.refl _ _).drew⟩
    have zc := ZB.out; have zd : Below w.heap.size w wr2.drew := zc.drew; have hl1 := zalt; have hl2 := vxlt; have hzz := zc.size
    clear zac0 zac1 zalt tac0 tac1 tac2 tac3 tac4 tac5 tac6 tac7 talt vxc0 vxc1 vxlt
    go_region_held3 (fun W : World => (W.cell? ⟨w.heap.size, 0, none⟩ = some (.slice A o.length n) ∧ W.cell? ⟨w.heap.size, 1, none⟩ = some (.slice A' c.length n') ∧ W.cell? ⟨w5.heap.size, 0, none⟩ = some (.slice xxA o.length o.length) ∧ W.cell? ⟨w5.heap.size, 1, none⟩ = some (.slice xxB c.length c.length)) ∧ Below wr2.heap.size wr2 W) (first | assumption) (first
      | (go_at_call 10; go_must (refine (toWeek_any wr2.drew w.heap.size A A' n n' o c lo lc zd.size (HS.out.below zd) (HS'.out.below zd)).mono ?_); rintro e wa ⟨xyA, xyB, rfl, h5, h6, hb6⟩; have T1 := Lib.hid h5; have T2 := Lib.hid h6; clear h5 h6; have hb7 : Below wr2.heap.size wr2 wa := ((Below.refl wr2.heap.size wr2).drew).trans hb6; have hz7 := hb7.size; clear hb6; have S6 : (fun W : World => (W.cell? ⟨w.heap.size, 0, none⟩ = some (.slice A o.length n) ∧ W.cell? ⟨w.heap.size, 1, none⟩ = some (.slice A' c.length n') ∧ W.cell? ⟨w5.heap.size, 0, none⟩ = some (.slice xxA o.length o.length) ∧ W.cell? ⟨w5.heap.size, 1, none⟩ = some (.slice xxB c.length c.length)) ∧ Below wr2.heap.size wr2 W) wa := ⟨⟨(bold hb7 _ _ (by omega)).trans S0.1.1, (bold hb7 _ _ (by omega)).trans S0.1.2.1, (bold hb7 _ _ (by omega)).trans S0.1.2.2.1, (bold hb7 _ _ (by omega)).trans S0.1.2.2.2⟩, hb7⟩)
      | (go_at_call 13; go_must (refine (eqWeek_any wa w5.heap.size wa.heap.size xxA xxB xyA xyB o.length c.length o.length c.length o c ho hc (by omega) (Nat.le_refl _) (SL.later SL_xx.out (by omega) hb7) (SL.later SL_xxk.out (by omega) hb7) T1.out T2.out).mono ?_); rintro e wb ⟨rfl, hb8⟩; have hb9 := bthen hb7 hb8; have S7 : (fun W : World => (W.cell? ⟨w.heap.size, 0, none⟩ = some (.slice A o.length n) ∧ W.cell? ⟨w.heap.size, 1, none⟩ = some (.slice A' c.length n') ∧ W.cell? ⟨w5.heap.size, 0, none⟩ = some (.slice xxA o.length o.length) ∧ W.cell? ⟨w5.heap.size, 1, none⟩ = some (.slice xxB c.length c.length)) ∧ Below wr2.heap.size wr2 W) wb := ⟨⟨(bold hb9 _ _ (by omega)).trans S0.1.1, (bold hb9 _ _ (by omega)).trans S0.1.2.1, (bold hb9 _ _ (by omega)).trans S0.1.2.2.1, (bold hb9 _ _ (by omega)).trans S0.1.2.2.2⟩, hb9⟩))
    have hb := S7.2
    clear S0 S6 S7 zc zd T1 T2 hb9
    have za := ZAH.out; clear ZAH
    have ta := TAH.out; clear TAH
    have vx := VXH.out; clear VXH
    have zb := ZB.out; clear ZB
    have kk := SL.later SL_xx.out (by omega) hb; clear SL_xx; have SL_xx := Lib.hid kk; clear kk
    have kk := SL.later SL_xxk.out (by omega) hb; clear SL_xxk; have SL_xxk := Lib.hid kk; clear kk
    have hswb := hb.size
    replace za := has_call za hb
    replace ta := has_call ta hb
    replace vx := has_call vx hb
    replace zb := bthen zb hb; clear hb
    have zac0 := has_cell za 0 rfl; have zac1 := has_cell za 1 rfl
    have zalt := has_lt za
    have tac0 := has_cell ta 0 rfl; have tac1 := has_cell ta 1 rfl; have tac2 := has_cell ta 2 rfl; have tac3 := has_cell ta 3 rfl; have tac4 := has_cell ta 4 rfl; have tac5 := has_cell ta 5 rfl; have tac6 := has_cell ta 6 rfl; have tac7 := has_cell ta 7 rfl
    have talt := has_lt ta
    have vxc0 := has_cell vx 0 rfl; have vxc1 := has_cell vx 1 rfl
    have vxlt := has_lt vx
    have ZAH := Lib.hid za; clear za
    have TAH := Lib.hid ta; clear ta
    have VXH := Lib.hid vx; clear vx
    have ZB := Lib.hid zb; clear zb
    go_wp2_with fail
    clear zac0 zac1 zalt tac0 tac1 tac2 tac3 tac4 tac5 tac6 tac7 talt vxc0 vxc1 vxlt
    have za := ZAH.out; clear ZAH
    have ta := TAH.out; clear TAH
    have vx := VXH.out; clear VXH
    have zb := ZB.out; clear ZB
    go_ret
    exact ⟨rfl, zb⟩
  | some V =>
    have nv : (V != V) = false := by simp
    go_enter Try.func5, Try.ntmps5
    go_wp2_with fail
    generalize hX : (w.alloc (.cells #[.slice A o.length n, .slice A' c.length n'] 24)) = w1
    have hb : Below w.heap.size w w1 := by rw [← hX]; exact balloc _ _
    have hk : Has w1 w.heap.size 24 #[.slice A o.length n, .slice A' c.length n'] := by rw [← hX]; exact has_new _ _ _
    have hzw1 : w1.heap.size = w.heap.size + 1 := by rw [← hX]; simp
    clear hX
    have zb := hb; clear hb
    have za := hk; clear hk
    generalize hX : (w1.alloc (.cells #[.int .i64 t.keep, .int .i64 t.free, .int .i64 t.step, .int .i64 t.rate, .int .i64 t.cap, .int .i64 t.longer, .int .i64 t.price, .int .i64 t.most] 26)) = w2
    have hb : Below w1.heap.size w1 w2 := by rw [← hX]; exact balloc _ _
    have hk : Has w2 w1.heap.size 26 #[.int .i64 t.keep, .int .i64 t.free, .int .i64 t.step, .int .i64 t.rate, .int .i64 t.cap, .int .i64 t.longer, .int .i64 t.price, .int .i64 t.most] := by rw [← hX]; exact has_new _ _ _
    have hzw2 : w2.heap.size = w.heap.size + 2 := by rw [← hX]; simp [hzw1]
    clear hX
    rw [hzw1] at hk
    replace za := has_call za hb
    replace zb := bthen zb hb; clear hb
    have ta := hk; clear hk
    clear hzw1 hzw2
    have hsw0 := zb.size
    have zac0 := has_cell za 0 rfl; have zac1 := has_cell za 1 rfl
    have zalt := has_lt za
    have tac0 := has_cell ta 0 rfl; have tac1 := has_cell ta 1 rfl; have tac2 := has_cell ta 2 rfl; have tac3 := has_cell ta 3 rfl; have tac4 := has_cell ta 4 rfl; have tac5 := has_cell ta 5 rfl; have tac6 := has_cell ta 6 rfl; have tac7 := has_cell ta 7 rfl
    have talt := has_lt ta
    have ZAH := Lib.hid za; clear za
    have TAH := Lib.hid ta; clear ta
    have ZB := Lib.hid zb; clear zb
    go_wp2_with fail
    clear zac0 zac1 zalt tac0 tac1 tac2 tac3 tac4 tac5 tac6 tac7 talt
    have za := ZAH.out; clear ZAH
    have ta := TAH.out; clear TAH
    have zb := ZB.out; clear ZB
    refine (szW_any _ A A' o.length n c.length n' 1048576 ho hc (by omega) (by omega)).mono ?_
    rintro e w3 ⟨rfl, hb⟩
    rw [Hs0.out]
    have hsw3 := hb.size
    replace za := has_call za hb
    replace ta := has_call ta hb
    replace zb := bthen zb hb; clear hb
    have zac0 := has_cell za 0 rfl; have zac1 := has_cell za 1 rfl
    have zalt := has_lt za
    have tac0 := has_cell ta 0 rfl; have tac1 := has_cell ta 1 rfl; have tac2 := has_cell ta 2 rfl; have tac3 := has_cell ta 3 rfl; have tac4 := has_cell ta 4 rfl; have tac5 := has_cell ta 5 rfl; have tac6 := has_cell ta 6 rfl; have tac7 := has_cell ta 7 rfl
    have talt := has_lt ta
    have ZAH := Lib.hid za; clear za
    have TAH := Lib.hid ta; clear ta
    have ZB := Lib.hid zb; clear zb
    go_wp2_with fail
    clear zac0 zac1 zalt tac0 tac1 tac2 tac3 tac4 tac5 tac6 tac7 talt
    have za := ZAH.out; clear ZAH
    have ta := TAH.out; clear TAH
    have zb := ZB.out; clear ZB
    have zac0 := has_cell za 0 rfl; have zac1 := has_cell za 1 rfl
    have zalt := has_lt za
    have tac0 := has_cell ta 0 rfl; have tac1 := has_cell ta 1 rfl; have tac2 := has_cell ta 2 rfl; have tac3 := has_cell ta 3 rfl; have tac4 := has_cell ta 4 rfl; have tac5 := has_cell ta 5 rfl; have tac6 := has_cell ta 6 rfl; have tac7 := has_cell ta 7 rfl
    have talt := has_lt ta
    have ZAH := Lib.hid za; clear za
    have TAH := Lib.hid ta; clear ta
    have ZB := Lib.hid zb; clear zb
    try go_wp2_with fail
    have S0 : (fun W : World => (W.cell? ⟨w.heap.size, 0, none⟩ = some (.slice A o.length n) ∧ W.cell? ⟨w.heap.size, 1, none⟩ = some (.slice A' c.length n') ∧ W.cell? ⟨w.heap.size + 1, 0, none⟩ = some (.int .i64 t.keep) ∧ W.cell? ⟨w.heap.size + 1, 1, none⟩ = some (.int .i64 t.free) ∧ W.cell? ⟨w.heap.size + 1, 2, none⟩ = some (.int .i64 t.step) ∧ W.cell? ⟨w.heap.size + 1, 3, none⟩ = some (.int .i64 t.rate) ∧ W.cell? ⟨w.heap.size + 1, 4, none⟩ = some (.int .i64 t.cap) ∧ W.cell? ⟨w.heap.size + 1, 5, none⟩ = some (.int .i64 t.longer) ∧ W.cell? ⟨w.heap.size + 1, 6, none⟩ = some (.int .i64 t.price) ∧ W.cell? ⟨w.heap.size + 1, 7, none⟩ = some (.int .i64 t.most)) ∧ Below w3.heap.size w3 W) w3.drew := ⟨⟨zac0, zac1, tac0, tac1, tac2, tac3, tac4, tac5, tac6, tac7⟩, (Below.refl _ _).drew⟩
    have zc := ZB.out; have zd : Below w.heap.size w w3.drew := zc.drew; have hzz := zc.size
    have hlza9 := zalt
    have hlta9 := talt
    clear zac0 zac1 zalt tac0 tac1 tac2 tac3 tac4 tac5 tac6 tac7 talt
    go_region_held3 (fun W : World => (W.cell? ⟨w.heap.size, 0, none⟩ = some (.slice A o.length n) ∧ W.cell? ⟨w.heap.size, 1, none⟩ = some (.slice A' c.length n') ∧ W.cell? ⟨w.heap.size + 1, 0, none⟩ = some (.int .i64 t.keep) ∧ W.cell? ⟨w.heap.size + 1, 1, none⟩ = some (.int .i64 t.free) ∧ W.cell? ⟨w.heap.size + 1, 2, none⟩ = some (.int .i64 t.step) ∧ W.cell? ⟨w.heap.size + 1, 3, none⟩ = some (.int .i64 t.rate) ∧ W.cell? ⟨w.heap.size + 1, 4, none⟩ = some (.int .i64 t.cap) ∧ W.cell? ⟨w.heap.size + 1, 5, none⟩ = some (.int .i64 t.longer) ∧ W.cell? ⟨w.heap.size + 1, 6, none⟩ = some (.int .i64 t.price) ∧ W.cell? ⟨w.heap.size + 1, 7, none⟩ = some (.int .i64 t.most)) ∧ Below w3.heap.size w3 W) (first | assumption) (first
      | (go_at_call 10; go_must (refine (toWeek_any w3.drew w.heap.size A A' n n' o c lo lc zd.size (HS.out.below zd) (HS'.out.below zd)).mono ?_); rintro e wr1 ⟨u1A, u1B, rfl, h5, h6, h1⟩; have T1 := Lib.hid h5; have T1k := Lib.hid h6; clear h5 h6; have hv1 : Below w3.heap.size w3 wr1 := ((Below.refl w3.heap.size w3).drew).trans h1; have hz1 := hv1.size; have hy1 := h1.size; have S1 : (fun W : World => (W.cell? ⟨w.heap.size, 0, none⟩ = some (.slice A o.length n) ∧ W.cell? ⟨w.heap.size, 1, none⟩ = some (.slice A' c.length n') ∧ W.cell? ⟨w.heap.size + 1, 0, none⟩ = some (.int .i64 t.keep) ∧ W.cell? ⟨w.heap.size + 1, 1, none⟩ = some (.int .i64 t.free) ∧ W.cell? ⟨w.heap.size + 1, 2, none⟩ = some (.int .i64 t.step) ∧ W.cell? ⟨w.heap.size + 1, 3, none⟩ = some (.int .i64 t.rate) ∧ W.cell? ⟨w.heap.size + 1, 4, none⟩ = some (.int .i64 t.cap) ∧ W.cell? ⟨w.heap.size + 1, 5, none⟩ = some (.int .i64 t.longer) ∧ W.cell? ⟨w.heap.size + 1, 6, none⟩ = some (.int .i64 t.price) ∧ W.cell? ⟨w.heap.size + 1, 7, none⟩ = some (.int .i64 t.most)) ∧ Below w3.heap.size w3 W) wr1 := ⟨⟨(bold hv1 _ _ (by omega)).trans S0.1.1, (bold hv1 _ _ (by omega)).trans S0.1.2.1, (bold hv1 _ _ (by omega)).trans S0.1.2.2.1, (bold hv1 _ _ (by omega)).trans S0.1.2.2.2.1, (bold hv1 _ _ (by omega)).trans S0.1.2.2.2.2.1, (bold hv1 _ _ (by omega)).trans S0.1.2.2.2.2.2.1, (bold hv1 _ _ (by omega)).trans S0.1.2.2.2.2.2.2.1, (bold hv1 _ _ (by omega)).trans S0.1.2.2.2.2.2.2.2.1, (bold hv1 _ _ (by omega)).trans S0.1.2.2.2.2.2.2.2.2.1, (bold hv1 _ _ (by omega)).trans S0.1.2.2.2.2.2.2.2.2.2⟩, hv1⟩)
      | (go_at_call 11; go_must (refine (toTerms_any t.keep t.free t.step t.rate t.cap t.longer t.price t.most wr1).mono ?_); rintro e wr2 ⟨rfl, h2⟩; have hv2 : Below w3.heap.size w3 wr2 := bthen hv1 h2; have hz2 := hv2.size; have hy2 := h2.size; have S2 : (fun W : World => (W.cell? ⟨w.heap.size, 0, none⟩ = some (.slice A o.length n) ∧ W.cell? ⟨w.heap.size, 1, none⟩ = some (.slice A' c.length n') ∧ W.cell? ⟨w.heap.size + 1, 0, none⟩ = some (.int .i64 t.keep) ∧ W.cell? ⟨w.heap.size + 1, 1, none⟩ = some (.int .i64 t.free) ∧ W.cell? ⟨w.heap.size + 1, 2, none⟩ = some (.int .i64 t.step) ∧ W.cell? ⟨w.heap.size + 1, 3, none⟩ = some (.int .i64 t.rate) ∧ W.cell? ⟨w.heap.size + 1, 4, none⟩ = some (.int .i64 t.cap) ∧ W.cell? ⟨w.heap.size + 1, 5, none⟩ = some (.int .i64 t.longer) ∧ W.cell? ⟨w.heap.size + 1, 6, none⟩ = some (.int .i64 t.price) ∧ W.cell? ⟨w.heap.size + 1, 7, none⟩ = some (.int .i64 t.most)) ∧ Below w3.heap.size w3 W) wr2 := ⟨⟨(bold hv2 _ _ (by omega)).trans S0.1.1, (bold hv2 _ _ (by omega)).trans S0.1.2.1, (bold hv2 _ _ (by omega)).trans S0.1.2.2.1, (bold hv2 _ _ (by omega)).trans S0.1.2.2.2.1, (bold hv2 _ _ (by omega)).trans S0.1.2.2.2.2.1, (bold hv2 _ _ (by omega)).trans S0.1.2.2.2.2.2.1, (bold hv2 _ _ (by omega)).trans S0.1.2.2.2.2.2.2.1, (bold hv2 _ _ (by omega)).trans S0.1.2.2.2.2.2.2.2.1, (bold hv2 _ _ (by omega)).trans S0.1.2.2.2.2.2.2.2.2.1, (bold hv2 _ _ (by omega)).trans S0.1.2.2.2.2.2.2.2.2.2⟩, hv2⟩)
      | (go_at_call 16; go_must (refine (leastS_any wr2 wr2.heap.size u1A u1B o.length c.length o c t a u ho hc (by omega) (SL.more ((T1.out).later (by omega) (h2)) (by omega)) (SL.more ((T1k.out).later (by omega) (h2)) (by omega)) ).mono ?_); rintro e wr3 ⟨rfl, h3⟩; rw [HV.out]; unfold pairV; have hv3 : Below w3.heap.size w3 wr3 := bthen hv2 h3; have hz3 := hv3.size; have hy3 := h3.size; have S3 : (fun W : World => (W.cell? ⟨w.heap.size, 0, none⟩ = some (.slice A o.length n) ∧ W.cell? ⟨w.heap.size, 1, none⟩ = some (.slice A' c.length n') ∧ W.cell? ⟨w.heap.size + 1, 0, none⟩ = some (.int .i64 t.keep) ∧ W.cell? ⟨w.heap.size + 1, 1, none⟩ = some (.int .i64 t.free) ∧ W.cell? ⟨w.heap.size + 1, 2, none⟩ = some (.int .i64 t.step) ∧ W.cell? ⟨w.heap.size + 1, 3, none⟩ = some (.int .i64 t.rate) ∧ W.cell? ⟨w.heap.size + 1, 4, none⟩ = some (.int .i64 t.cap) ∧ W.cell? ⟨w.heap.size + 1, 5, none⟩ = some (.int .i64 t.longer) ∧ W.cell? ⟨w.heap.size + 1, 6, none⟩ = some (.int .i64 t.price) ∧ W.cell? ⟨w.heap.size + 1, 7, none⟩ = some (.int .i64 t.most)) ∧ Below w3.heap.size w3 W) wr3 := ⟨⟨(bold hv3 _ _ (by omega)).trans S0.1.1, (bold hv3 _ _ (by omega)).trans S0.1.2.1, (bold hv3 _ _ (by omega)).trans S0.1.2.2.1, (bold hv3 _ _ (by omega)).trans S0.1.2.2.2.1, (bold hv3 _ _ (by omega)).trans S0.1.2.2.2.2.1, (bold hv3 _ _ (by omega)).trans S0.1.2.2.2.2.2.1, (bold hv3 _ _ (by omega)).trans S0.1.2.2.2.2.2.2.1, (bold hv3 _ _ (by omega)).trans S0.1.2.2.2.2.2.2.2.1, (bold hv3 _ _ (by omega)).trans S0.1.2.2.2.2.2.2.2.2.1, (bold hv3 _ _ (by omega)).trans S0.1.2.2.2.2.2.2.2.2.2⟩, hv3⟩))
    have hb : Below w3.heap.size w3 wr3 := hv3
    clear S0 S1 S2 S3 zc zd hzz hlza9 hlta9 hz1 hy1 hz2 hy2 hz3 hy3
    clear T1 T1k
    clear hv3 h3 hv2 h2 hv1 h1
    have za := ZAH.out; clear ZAH
    have ta := TAH.out; clear TAH
    have zb := ZB.out; clear ZB
    have hswr3 := hb.size
    replace za := has_call za hb
    replace ta := has_call ta hb
    replace zb := bthen zb hb; clear hb
    skip
    have zac0 := has_cell za 0 rfl; have zac1 := has_cell za 1 rfl
    have zalt := has_lt za
    have tac0 := has_cell ta 0 rfl; have tac1 := has_cell ta 1 rfl; have tac2 := has_cell ta 2 rfl; have tac3 := has_cell ta 3 rfl; have tac4 := has_cell ta 4 rfl; have tac5 := has_cell ta 5 rfl; have tac6 := has_cell ta 6 rfl; have tac7 := has_cell ta 7 rfl
    have talt := has_lt ta
    have ZAH := Lib.hid za; clear za
    have TAH := Lib.hid ta; clear ta
    have ZB := Lib.hid zb; clear zb
    go_wp2_with fail
    clear zac0 zac1 zalt tac0 tac1 tac2 tac3 tac4 tac5 tac6 tac7 talt
    have za := ZAH.out; clear ZAH
    have ta := TAH.out; clear TAH
    have zb := ZB.out; clear ZB
    refine (toWeek_any _ w.heap.size A A' n n' o c lo lc zb.size (HS.out.below zb) (HS'.out.below zb)).mono ?_
    rintro e w5 ⟨xxA, xxB, rfl, h5, h6, hb⟩
    have hsw5 := hb.size
    replace za := has_call za hb
    replace ta := has_call ta hb
    replace zb := bthen zb hb; clear hb
    have SL_xx := Lib.hid h5; have SL_xxk := Lib.hid h6; clear h5 h6
    have zac0 := has_cell za 0 rfl; have zac1 := has_cell za 1 rfl
    have zalt := has_lt za
    have tac0 := has_cell ta 0 rfl; have tac1 := has_cell ta 1 rfl; have tac2 := has_cell ta 2 rfl; have tac3 := has_cell ta 3 rfl; have tac4 := has_cell ta 4 rfl; have tac5 := has_cell ta 5 rfl; have tac6 := has_cell ta 6 rfl; have tac7 := has_cell ta 7 rfl
    have talt := has_lt ta
    have ZAH := Lib.hid za; clear za
    have TAH := Lib.hid ta; clear ta
    have ZB := Lib.hid zb; clear zb
    go_wp2_with fail
    clear zac0 zac1 zalt tac0 tac1 tac2 tac3 tac4 tac5 tac6 tac7 talt
    have za := ZAH.out; clear ZAH
    have ta := TAH.out; clear TAH
    have zb := ZB.out; clear ZB
    generalize hX : (w5.alloc (.cells #[.slice xxA o.length o.length, .slice xxB c.length c.length] 32)) = w6
    have hb : Below w5.heap.size w5 w6 := by rw [← hX]; exact balloc _ _
    have hk : Has w6 w5.heap.size 32 #[.slice xxA o.length o.length, .slice xxB c.length c.length] := by rw [← hX]; exact has_new _ _ _
    clear hX
    have kk := SL.later SL_xx.out (by omega) hb; clear SL_xx; have SL_xx := Lib.hid kk; clear kk
    have kk := SL.later SL_xxk.out (by omega) hb; clear SL_xxk; have SL_xxk := Lib.hid kk; clear kk
    have hsw6 := hb.size
    replace za := has_call za hb
    replace ta := has_call ta hb
    replace zb := bthen zb hb; clear hb
    have vx := hk; clear hk; have hlvx := has_lt vx
    have zac0 := has_cell za 0 rfl; have zac1 := has_cell za 1 rfl
    have zalt := has_lt za
    have tac0 := has_cell ta 0 rfl; have tac1 := has_cell ta 1 rfl; have tac2 := has_cell ta 2 rfl; have tac3 := has_cell ta 3 rfl; have tac4 := has_cell ta 4 rfl; have tac5 := has_cell ta 5 rfl; have tac6 := has_cell ta 6 rfl; have tac7 := has_cell ta 7 rfl
    have talt := has_lt ta
    have vxc0 := has_cell vx 0 rfl; have vxc1 := has_cell vx 1 rfl
    have vxlt := has_lt vx
    have ZAH := Lib.hid za; clear za
    have TAH := Lib.hid ta; clear ta
    have VXH := Lib.hid vx; clear vx
    have ZB := Lib.hid zb; clear zb
    go_wp2_with fail
    clear zac0 zac1 zalt tac0 tac1 tac2 tac3 tac4 tac5 tac6 tac7 talt vxc0 vxc1 vxlt
    have za := ZAH.out; clear ZAH
    have ta := TAH.out; clear TAH
    have vx := VXH.out; clear VXH
    have zb := ZB.out; clear ZB
    have vxc0 := has_cell vx 0 rfl; have vxc1 := has_cell vx 1 rfl
    have vxlt := has_lt vx
    have tac0 := has_cell ta 0 rfl; have tac1 := has_cell ta 1 rfl; have tac2 := has_cell ta 2 rfl; have tac3 := has_cell ta 3 rfl; have tac4 := has_cell ta 4 rfl; have tac5 := has_cell ta 5 rfl; have tac6 := has_cell ta 6 rfl; have tac7 := has_cell ta 7 rfl
    have talt := has_lt ta
    have ZAH := Lib.hid za; clear za
    have TAH := Lib.hid ta; clear ta
    have VXH := Lib.hid vx; clear vx
    have ZB := Lib.hid zb; clear zb
    try go_wp2_with fail
    have S0 : (fun W : World => (W.cell? ⟨w5.heap.size, 0, none⟩ = some (.slice xxA o.length o.length) ∧ W.cell? ⟨w5.heap.size, 1, none⟩ = some (.slice xxB c.length c.length) ∧ W.cell? ⟨w.heap.size + 1, 0, none⟩ = some (.int .i64 t.keep) ∧ W.cell? ⟨w.heap.size + 1, 1, none⟩ = some (.int .i64 t.free) ∧ W.cell? ⟨w.heap.size + 1, 2, none⟩ = some (.int .i64 t.step) ∧ W.cell? ⟨w.heap.size + 1, 3, none⟩ = some (.int .i64 t.rate) ∧ W.cell? ⟨w.heap.size + 1, 4, none⟩ = some (.int .i64 t.cap) ∧ W.cell? ⟨w.heap.size + 1, 5, none⟩ = some (.int .i64 t.longer) ∧ W.cell? ⟨w.heap.size + 1, 6, none⟩ = some (.int .i64 t.price) ∧ W.cell? ⟨w.heap.size + 1, 7, none⟩ = some (.int .i64 t.most)) ∧ Below w6.heap.size w6 W) w6.drew := ⟨⟨vxc0, vxc1, tac0, tac1, tac2, tac3, tac4, tac5, tac6, tac7⟩, (Below.refl _ _).drew⟩
    have zc := ZB.out; have zd : Below w.heap.size w w6.drew := zc.drew; have hzz := zc.size
    have hlvx9 := vxlt
    have hlta9 := talt
    clear vxc0 vxc1 vxlt tac0 tac1 tac2 tac3 tac4 tac5 tac6 tac7 talt
    go_region_held3 (fun W : World => (W.cell? ⟨w5.heap.size, 0, none⟩ = some (.slice xxA o.length o.length) ∧ W.cell? ⟨w5.heap.size, 1, none⟩ = some (.slice xxB c.length c.length) ∧ W.cell? ⟨w.heap.size + 1, 0, none⟩ = some (.int .i64 t.keep) ∧ W.cell? ⟨w.heap.size + 1, 1, none⟩ = some (.int .i64 t.free) ∧ W.cell? ⟨w.heap.size + 1, 2, none⟩ = some (.int .i64 t.step) ∧ W.cell? ⟨w.heap.size + 1, 3, none⟩ = some (.int .i64 t.rate) ∧ W.cell? ⟨w.heap.size + 1, 4, none⟩ = some (.int .i64 t.cap) ∧ W.cell? ⟨w.heap.size + 1, 5, none⟩ = some (.int .i64 t.longer) ∧ W.cell? ⟨w.heap.size + 1, 6, none⟩ = some (.int .i64 t.price) ∧ W.cell? ⟨w.heap.size + 1, 7, none⟩ = some (.int .i64 t.most)) ∧ Below w6.heap.size w6 W) (first | assumption) (first
      | (go_at_call 11; go_must (refine (toTerms_any t.keep t.free t.step t.rate t.cap t.longer t.price t.most w6.drew).mono ?_); rintro e wr1 ⟨rfl, h1⟩; have hv1 : Below w6.heap.size w6 wr1 := ((Below.refl w6.heap.size w6).drew).trans h1; have hz1 := hv1.size; have hy1 := h1.size; have S1 : (fun W : World => (W.cell? ⟨w5.heap.size, 0, none⟩ = some (.slice xxA o.length o.length) ∧ W.cell? ⟨w5.heap.size, 1, none⟩ = some (.slice xxB c.length c.length) ∧ W.cell? ⟨w.heap.size + 1, 0, none⟩ = some (.int .i64 t.keep) ∧ W.cell? ⟨w.heap.size + 1, 1, none⟩ = some (.int .i64 t.free) ∧ W.cell? ⟨w.heap.size + 1, 2, none⟩ = some (.int .i64 t.step) ∧ W.cell? ⟨w.heap.size + 1, 3, none⟩ = some (.int .i64 t.rate) ∧ W.cell? ⟨w.heap.size + 1, 4, none⟩ = some (.int .i64 t.cap) ∧ W.cell? ⟨w.heap.size + 1, 5, none⟩ = some (.int .i64 t.longer) ∧ W.cell? ⟨w.heap.size + 1, 6, none⟩ = some (.int .i64 t.price) ∧ W.cell? ⟨w.heap.size + 1, 7, none⟩ = some (.int .i64 t.most)) ∧ Below w6.heap.size w6 W) wr1 := ⟨⟨(bold hv1 _ _ (by omega)).trans S0.1.1, (bold hv1 _ _ (by omega)).trans S0.1.2.1, (bold hv1 _ _ (by omega)).trans S0.1.2.2.1, (bold hv1 _ _ (by omega)).trans S0.1.2.2.2.1, (bold hv1 _ _ (by omega)).trans S0.1.2.2.2.2.1, (bold hv1 _ _ (by omega)).trans S0.1.2.2.2.2.2.1, (bold hv1 _ _ (by omega)).trans S0.1.2.2.2.2.2.2.1, (bold hv1 _ _ (by omega)).trans S0.1.2.2.2.2.2.2.2.1, (bold hv1 _ _ (by omega)).trans S0.1.2.2.2.2.2.2.2.2.1, (bold hv1 _ _ (by omega)).trans S0.1.2.2.2.2.2.2.2.2.2⟩, hv1⟩)
      | (go_at_call 17; go_must (refine (leastI_any wr1 w6.heap.size xxA xxB o.length c.length o c t a u ho hc (by omega) (SL.later (SL.more SL_xx.out (show _ ≤ w6.heap.size by omega)) (Nat.le_refl _) hv1) (SL.later (SL.more SL_xxk.out (show _ ≤ w6.heap.size by omega)) (Nat.le_refl _) hv1) ).mono ?_); rintro e wr2 ⟨rfl, h2⟩; rw [HV.out]; unfold pairV; have hv2 : Below w6.heap.size w6 wr2 := bthen hv1 h2; have hz2 := hv2.size; have hy2 := h2.size; have S2 : (fun W : World => (W.cell? ⟨w5.heap.size, 0, none⟩ = some (.slice xxA o.length o.length) ∧ W.cell? ⟨w5.heap.size, 1, none⟩ = some (.slice xxB c.length c.length) ∧ W.cell? ⟨w.heap.size + 1, 0, none⟩ = some (.int .i64 t.keep) ∧ W.cell? ⟨w.heap.size + 1, 1, none⟩ = some (.int .i64 t.free) ∧ W.cell? ⟨w.heap.size + 1, 2, none⟩ = some (.int .i64 t.step) ∧ W.cell? ⟨w.heap.size + 1, 3, none⟩ = some (.int .i64 t.rate) ∧ W.cell? ⟨w.heap.size + 1, 4, none⟩ = some (.int .i64 t.cap) ∧ W.cell? ⟨w.heap.size + 1, 5, none⟩ = some (.int .i64 t.longer) ∧ W.cell? ⟨w.heap.size + 1, 6, none⟩ = some (.int .i64 t.price) ∧ W.cell? ⟨w.heap.size + 1, 7, none⟩ = some (.int .i64 t.most)) ∧ Below w6.heap.size w6 W) wr2 := ⟨⟨(bold hv2 _ _ (by omega)).trans S0.1.1, (bold hv2 _ _ (by omega)).trans S0.1.2.1, (bold hv2 _ _ (by omega)).trans S0.1.2.2.1, (bold hv2 _ _ (by omega)).trans S0.1.2.2.2.1, (bold hv2 _ _ (by omega)).trans S0.1.2.2.2.2.1, (bold hv2 _ _ (by omega)).trans S0.1.2.2.2.2.2.1, (bold hv2 _ _ (by omega)).trans S0.1.2.2.2.2.2.2.1, (bold hv2 _ _ (by omega)).trans S0.1.2.2.2.2.2.2.2.1, (bold hv2 _ _ (by omega)).trans S0.1.2.2.2.2.2.2.2.2.1, (bold hv2 _ _ (by omega)).trans S0.1.2.2.2.2.2.2.2.2.2⟩, hv2⟩))
    have hb : Below w6.heap.size w6 wr2 := hv2
    clear S0 S1 S2 zc zd hzz hlvx9 hlta9 hz1 hy1 hz2 hy2
    clear hv2 h2 hv1 h1
    have za := ZAH.out; clear ZAH
    have ta := TAH.out; clear TAH
    have vx := VXH.out; clear VXH
    have zb := ZB.out; clear ZB
    have kk := SL.later SL_xx.out (by omega) hb; clear SL_xx; have SL_xx := Lib.hid kk; clear kk
    have kk := SL.later SL_xxk.out (by omega) hb; clear SL_xxk; have SL_xxk := Lib.hid kk; clear kk
    have hswr2 := hb.size
    replace za := has_call za hb
    replace ta := has_call ta hb
    replace vx := has_call vx hb
    replace zb := bthen zb hb; clear hb
    skip
    have zac0 := has_cell za 0 rfl; have zac1 := has_cell za 1 rfl
    have zalt := has_lt za
    have tac0 := has_cell ta 0 rfl; have tac1 := has_cell ta 1 rfl; have tac2 := has_cell ta 2 rfl; have tac3 := has_cell ta 3 rfl; have tac4 := has_cell ta 4 rfl; have tac5 := has_cell ta 5 rfl; have tac6 := has_cell ta 6 rfl; have tac7 := has_cell ta 7 rfl
    have talt := has_lt ta
    have vxc0 := has_cell vx 0 rfl; have vxc1 := has_cell vx 1 rfl
    have vxlt := has_lt vx
    have ZAH := Lib.hid za; clear za
    have TAH := Lib.hid ta; clear ta
    have VXH := Lib.hid vx; clear vx
    have ZB := Lib.hid zb; clear zb
    try go_wp2_with fail
    have S0 : (fun W : World => (W.cell? ⟨w.heap.size, 0, none⟩ = some (.slice A o.length n) ∧ W.cell? ⟨w.heap.size, 1, none⟩ = some (.slice A' c.length n') ∧ W.cell? ⟨w5.heap.size, 0, none⟩ = some (.slice xxA o.length o.length) ∧ W.cell? ⟨w5.heap.size, 1, none⟩ = some (.slice xxB c.length c.length)) ∧ Below wr2.heap.size wr2 W) wr2.drew := ⟨⟨zac0, zac1, vxc0, vxc1⟩, (Below.refl _ _).drew⟩
    have zc := ZB.out; have zd : Below w.heap.size w wr2.drew := zc.drew; have hl1 := zalt; have hl2 := vxlt; have hzz := zc.size
    clear zac0 zac1 zalt tac0 tac1 tac2 tac3 tac4 tac5 tac6 tac7 talt vxc0 vxc1 vxlt
    go_region_held3 (fun W : World => (W.cell? ⟨w.heap.size, 0, none⟩ = some (.slice A o.length n) ∧ W.cell? ⟨w.heap.size, 1, none⟩ = some (.slice A' c.length n') ∧ W.cell? ⟨w5.heap.size, 0, none⟩ = some (.slice xxA o.length o.length) ∧ W.cell? ⟨w5.heap.size, 1, none⟩ = some (.slice xxB c.length c.length)) ∧ Below wr2.heap.size wr2 W) (first | assumption) (first
      | (go_at_call 10; go_must (refine (toWeek_any wr2.drew w.heap.size A A' n n' o c lo lc zd.size (HS.out.below zd) (HS'.out.below zd)).mono ?_); rintro e wa ⟨xyA, xyB, rfl, h5, h6, hb6⟩; have T1 := Lib.hid h5; have T2 := Lib.hid h6; clear h5 h6; have hb7 : Below wr2.heap.size wr2 wa := ((Below.refl wr2.heap.size wr2).drew).trans hb6; have hz7 := hb7.size; clear hb6; have S6 : (fun W : World => (W.cell? ⟨w.heap.size, 0, none⟩ = some (.slice A o.length n) ∧ W.cell? ⟨w.heap.size, 1, none⟩ = some (.slice A' c.length n') ∧ W.cell? ⟨w5.heap.size, 0, none⟩ = some (.slice xxA o.length o.length) ∧ W.cell? ⟨w5.heap.size, 1, none⟩ = some (.slice xxB c.length c.length)) ∧ Below wr2.heap.size wr2 W) wa := ⟨⟨(bold hb7 _ _ (by omega)).trans S0.1.1, (bold hb7 _ _ (by omega)).trans S0.1.2.1, (bold hb7 _ _ (by omega)).trans S0.1.2.2.1, (bold hb7 _ _ (by omega)).trans S0.1.2.2.2⟩, hb7⟩)
      | (go_at_call 13; go_must (refine (eqWeek_any wa w5.heap.size wa.heap.size xxA xxB xyA xyB o.length c.length o.length c.length o c ho hc (by omega) (Nat.le_refl _) (SL.later SL_xx.out (by omega) hb7) (SL.later SL_xxk.out (by omega) hb7) T1.out T2.out).mono ?_); rintro e wb ⟨rfl, hb8⟩; have hb9 := bthen hb7 hb8; have S7 : (fun W : World => (W.cell? ⟨w.heap.size, 0, none⟩ = some (.slice A o.length n) ∧ W.cell? ⟨w.heap.size, 1, none⟩ = some (.slice A' c.length n') ∧ W.cell? ⟨w5.heap.size, 0, none⟩ = some (.slice xxA o.length o.length) ∧ W.cell? ⟨w5.heap.size, 1, none⟩ = some (.slice xxB c.length c.length)) ∧ Below wr2.heap.size wr2 W) wb := ⟨⟨(bold hb9 _ _ (by omega)).trans S0.1.1, (bold hb9 _ _ (by omega)).trans S0.1.2.1, (bold hb9 _ _ (by omega)).trans S0.1.2.2.1, (bold hb9 _ _ (by omega)).trans S0.1.2.2.2⟩, hb9⟩))
    have hb := S7.2
    clear S0 S6 S7 zc zd T1 T2 hb9
    have za := ZAH.out; clear ZAH
    have ta := TAH.out; clear TAH
    have vx := VXH.out; clear VXH
    have zb := ZB.out; clear ZB
    have kk := SL.later SL_xx.out (by omega) hb; clear SL_xx; have SL_xx := Lib.hid kk; clear kk
    have kk := SL.later SL_xxk.out (by omega) hb; clear SL_xxk; have SL_xxk := Lib.hid kk; clear kk
    have hswb := hb.size
    replace za := has_call za hb
    replace ta := has_call ta hb
    replace vx := has_call vx hb
    replace zb := bthen zb hb; clear hb
    have zac0 := has_cell za 0 rfl; have zac1 := has_cell za 1 rfl
    have zalt := has_lt za
    have tac0 := has_cell ta 0 rfl; have tac1 := has_cell ta 1 rfl; have tac2 := has_cell ta 2 rfl; have tac3 := has_cell ta 3 rfl; have tac4 := has_cell ta 4 rfl; have tac5 := has_cell ta 5 rfl; have tac6 := has_cell ta 6 rfl; have tac7 := has_cell ta 7 rfl
    have talt := has_lt ta
    have vxc0 := has_cell vx 0 rfl; have vxc1 := has_cell vx 1 rfl
    have vxlt := has_lt vx
    have ZAH := Lib.hid za; clear za
    have TAH := Lib.hid ta; clear ta
    have VXH := Lib.hid vx; clear vx
    have ZB := Lib.hid zb; clear zb
    go_wp2_with fail
    clear zac0 zac1 zalt tac0 tac1 tac2 tac3 tac4 tac5 tac6 tac7 talt vxc0 vxc1 vxlt
    have za := ZAH.out; clear ZAH
    have ta := TAH.out; clear TAH
    have vx := VXH.out; clear VXH
    have zb := ZB.out; clear ZB
    go_ret
    exact ⟨rfl, zb⟩
end Go.Proofs.Ythdncneahdiieaa
