/- Chapter 6: the walk of the exact law of BillOf (gen_feel.py). -/
import Derived.Test.YthdncneahdiieaaFeeF
import Derived.Test.YthdncneahdiieaaFeeR
import Derived.Deep.RegionHeld3
import Derived.Deep.DeepMust
namespace Go.Proofs.Ythdncneahdiieaa
open Go.RowKit
set_option linter.unusedVariables false
set_option maxRecDepth 100000 in
set_option maxHeartbeats 8000000 in
theorem bilLaw_walk (A A' : Option Addr) (n n' : Nat) (o c : List (Int × Int)) (t : Tm) (AF : Option Addr) (cF : Nat) (L : List St) (w : World) (ho : o.length ≤ maxLen) (hc : c.length ≤ maxLen) (hS : SL w w.heap.size A o) (hS' : SL w w.heap.size A' c) (lL : L.length ≤ maxLen) (hL : stL w w.heap.size AF L) : Calls Try.prog 6 #[.agg #[.slice A o.length n, .slice A' c.length n'], .agg #[.int .i64 t.keep, .int .i64 t.free, .int .i64 t.step, .int .i64 t.rate, .int .i64 t.cap, .int .i64 t.longer, .int .i64 t.price, .int .i64 t.most], .slice AF L.length cF] w fun e w' => e = .returned (.bool true) ∧ Below w.heap.size w w' := by
  have HS := Lib.hid hS; clear hS
  have HS' := Lib.hid hS'; clear hS'
  have HL := Lib.hid hL; clear hL
  obtain ⟨s0, hs0⟩ : ∃ s, szW 1048576 o.length c.length = s := ⟨_, rfl⟩
  by_cases hbig0 : s0 < 0
  · skip
    have Hs0 := Lib.hid hs0; clear hs0
    go_enter Try.func6, Try.ntmps6
    go_wp2_with fail
    generalize hX : (w.alloc (.cells #[.slice A o.length n, .slice A' c.length n'] 24)) = w1
    have hb : Below w.heap.size w w1 := by rw [← hX]; exact balloc _ _
    have hk : Has w1 w.heap.size 24 #[.slice A o.length n, .slice A' c.length n'] := by rw [← hX]; exact has_new _ _ _
    have hzw1 : w1.heap.size = w.heap.size + 1 := by rw [← hX]; simp
    clear hX
    have zb := hb; clear hb
    have za := hk; clear hk
    generalize hX : (w1.alloc (.cells #[.int .i64 t.keep, .int .i64 t.free, .int .i64 t.step, .int .i64 t.rate, .int .i64 t.cap, .int .i64 t.longer, .int .i64 t.price, .int .i64 t.most] 26)) = w2
    have hb : Below w1.heap.size w1 w2 := by rw [← hX]; exact balloc _ _
    have hk : Has w2 w1.heap.size 26 #[.int .i64 t.keep, .int .i64 t.free, .int .i64 t.step, .int .i64 t.rate, .int .i64 t.cap, .int .i64 t.longer, .int .i64 t.price, .int .i64 t.most] := by rw [← hX]; exact has_new _ _ _
    have hzw2 : w2.heap.size = w.heap.size + 2 := by rw [← hX]; simp [hzw1]
    clear hX
    rw [hzw1] at hk
    replace za := has_call za hb
    replace zb := bthen zb hb; clear hb
    have ta := hk; clear hk
    clear hzw1 hzw2
    have hsw0 := zb.size
    have zac0 := has_cell za 0 rfl; have zac1 := has_cell za 1 rfl
    have zalt := has_lt za
    have tac0 := has_cell ta 0 rfl; have tac1 := has_cell ta 1 rfl; have tac2 := has_cell ta 2 rfl; have tac3 := has_cell ta 3 rfl; have tac4 := has_cell ta 4 rfl; have tac5 := has_cell ta 5 rfl; have tac6 := has_cell ta 6 rfl; have tac7 := has_cell ta 7 rfl
    have talt := has_lt ta
    have ZAH := Lib.hid za; clear za
    have TAH := Lib.hid ta; clear ta
    have ZB := Lib.hid zb; clear zb
    go_wp2_with fail
    clear zac0 zac1 zalt tac0 tac1 tac2 tac3 tac4 tac5 tac6 tac7 talt
    have za := ZAH.out; clear ZAH
    have ta := TAH.out; clear TAH
    have zb := ZB.out; clear ZB
    refine (szW_any _ A A' o.length n c.length n' 1048576 ho hc (by omega) (by omega)).mono ?_
    rintro e w3 ⟨rfl, hb⟩
    rw [Hs0.out]
    have hsw3 := hb.size
    replace za := has_call za hb
    replace ta := has_call ta hb
    replace zb := bthen zb hb; clear hb
    have zac0 := has_cell za 0 rfl; have zac1 := has_cell za 1 rfl
    have zalt := has_lt za
    have tac0 := has_cell ta 0 rfl; have tac1 := has_cell ta 1 rfl; have tac2 := has_cell ta 2 rfl; have tac3 := has_cell ta 3 rfl; have tac4 := has_cell ta 4 rfl; have tac5 := has_cell ta 5 rfl; have tac6 := has_cell ta 6 rfl; have tac7 := has_cell ta 7 rfl
    have talt := has_lt ta
    have ZAH := Lib.hid za; clear za
    have TAH := Lib.hid ta; clear ta
    have ZB := Lib.hid zb; clear zb
    go_wp2_with fail
    clear zac0 zac1 zalt tac0 tac1 tac2 tac3 tac4 tac5 tac6 tac7 talt
    have za := ZAH.out; clear ZAH
    have ta := TAH.out; clear TAH
    have zb := ZB.out; clear ZB
    go_ret
    exact ⟨rfl, zb⟩
  have hlen : o.length ≤ 1048576 ∧ c.length ≤ 1048576 ∧ s0 ≤ 1048576 := by
    subst hs0
    unfold szW szI at hbig0 ⊢
    split at hbig0
    · omega
    · rename_i hq; rw [if_neg hq]; split at hbig0
      · omega
      · rename_i hq2; rw [if_neg hq2]; omega
  obtain ⟨lo, lc, ls0⟩ := hlen
  have Hs0 := Lib.hid hs0; clear hs0
  obtain ⟨s1, hs1⟩ : ∃ s, szI s0 L.length = s := ⟨_, rfl⟩
  by_cases hbig1 : s1 < 0
  · skip
    have Hs1 := Lib.hid hs1; clear hs1
    go_enter Try.func6, Try.ntmps6
    go_wp2_with fail
    generalize hX : (w.alloc (.cells #[.slice A o.length n, .slice A' c.length n'] 24)) = w1
    have hb : Below w.heap.size w w1 := by rw [← hX]; exact balloc _ _
    have hk : Has w1 w.heap.size 24 #[.slice A o.length n, .slice A' c.length n'] := by rw [← hX]; exact has_new _ _ _
    have hzw1 : w1.heap.size = w.heap.size + 1 := by rw [← hX]; simp
    clear hX
    have zb := hb; clear hb
    have za := hk; clear hk
    generalize hX : (w1.alloc (.cells #[.int .i64 t.keep, .int .i64 t.free, .int .i64 t.step, .int .i64 t.rate, .int .i64 t.cap, .int .i64 t.longer, .int .i64 t.price, .int .i64 t.most] 26)) = w2
    have hb : Below w1.heap.size w1 w2 := by rw [← hX]; exact balloc _ _
    have hk : Has w2 w1.heap.size 26 #[.int .i64 t.keep, .int .i64 t.free, .int .i64 t.step, .int .i64 t.rate, .int .i64 t.cap, .int .i64 t.longer, .int .i64 t.price, .int .i64 t.most] := by rw [← hX]; exact has_new _ _ _
    have hzw2 : w2.heap.size = w.heap.size + 2 := by rw [← hX]; simp [hzw1]
    clear hX
    rw [hzw1] at hk
    replace za := has_call za hb
    replace zb := bthen zb hb; clear hb
    have ta := hk; clear hk
    clear hzw1 hzw2
    have hsw0 := zb.size
    have zac0 := has_cell za 0 rfl; have zac1 := has_cell za 1 rfl
    have zalt := has_lt za
    have tac0 := has_cell ta 0 rfl; have tac1 := has_cell ta 1 rfl; have tac2 := has_cell ta 2 rfl; have tac3 := has_cell ta 3 rfl; have tac4 := has_cell ta 4 rfl; have tac5 := has_cell ta 5 rfl; have tac6 := has_cell ta 6 rfl; have tac7 := has_cell ta 7 rfl
    have talt := has_lt ta
    have ZAH := Lib.hid za; clear za
    have TAH := Lib.hid ta; clear ta
    have ZB := Lib.hid zb; clear zb
    go_wp2_with fail
    clear zac0 zac1 zalt tac0 tac1 tac2 tac3 tac4 tac5 tac6 tac7 talt
    have za := ZAH.out; clear ZAH
    have ta := TAH.out; clear TAH
    have zb := ZB.out; clear ZB
    refine (szW_any _ A A' o.length n c.length n' 1048576 ho hc (by omega) (by omega)).mono ?_
    rintro e w3 ⟨rfl, hb⟩
    rw [Hs0.out]
    have hsw3 := hb.size
    replace za := has_call za hb
    replace ta := has_call ta hb
    replace zb := bthen zb hb; clear hb
    have zac0 := has_cell za 0 rfl; have zac1 := has_cell za 1 rfl
    have zalt := has_lt za
    have tac0 := has_cell ta 0 rfl; have tac1 := has_cell ta 1 rfl; have tac2 := has_cell ta 2 rfl; have tac3 := has_cell ta 3 rfl; have tac4 := has_cell ta 4 rfl; have tac5 := has_cell ta 5 rfl; have tac6 := has_cell ta 6 rfl; have tac7 := has_cell ta 7 rfl
    have talt := has_lt ta
    have ZAH := Lib.hid za; clear za
    have TAH := Lib.hid ta; clear ta
    have ZB := Lib.hid zb; clear zb
    go_wp2_with fail
    clear zac0 zac1 zalt tac0 tac1 tac2 tac3 tac4 tac5 tac6 tac7 talt
    have za := ZAH.out; clear ZAH
    have ta := TAH.out; clear TAH
    have zb := ZB.out; clear ZB
    refine (szStay_any _ AF L.length cF s0 lL (by omega) (by omega)).mono ?_
    rintro e w4 ⟨rfl, hw⟩
    rw [hw]; clear hw w4
    rw [Hs1.out]
    have zac0 := has_cell za 0 rfl; have zac1 := has_cell za 1 rfl
    have zalt := has_lt za
    have tac0 := has_cell ta 0 rfl; have tac1 := has_cell ta 1 rfl; have tac2 := has_cell ta 2 rfl; have tac3 := has_cell ta 3 rfl; have tac4 := has_cell ta 4 rfl; have tac5 := has_cell ta 5 rfl; have tac6 := has_cell ta 6 rfl; have tac7 := has_cell ta 7 rfl
    have talt := has_lt ta
    have ZAH := Lib.hid za; clear za
    have TAH := Lib.hid ta; clear ta
    have ZB := Lib.hid zb; clear zb
    go_wp2_with fail
    clear zac0 zac1 zalt tac0 tac1 tac2 tac3 tac4 tac5 tac6 tac7 talt
    have za := ZAH.out; clear ZAH
    have ta := TAH.out; clear TAH
    have zb := ZB.out; clear ZB
    go_ret
    exact ⟨rfl, zb⟩
  have hlen : L.length ≤ 1048576 ∧ s1 ≤ 1048576 := by
    subst hs1
    unfold szI at hbig1 ⊢
    split at hbig1
    · omega
    · rename_i hq; rw [if_neg hq]; omega
  obtain ⟨mL, ls1⟩ := hlen
  have Hs1 := Lib.hid hs1; clear hs1
  obtain ⟨q, hq⟩ : ∃ q, billB o c t L = q := ⟨_, rfl⟩
  have HV := Lib.hid hq; clear hq
  cases q with
  | none =>
    go_enter Try.func6, Try.ntmps6
    go_wp2_with fail
    generalize hX : (w.alloc (.cells #[.slice A o.length n, .slice A' c.length n'] 24)) = w1
    have hb : Below w.heap.size w w1 := by rw [← hX]; exact balloc _ _
    have hk : Has w1 w.heap.size 24 #[.slice A o.length n, .slice A' c.length n'] := by rw [← hX]; exact has_new _ _ _
    have hzw1 : w1.heap.size = w.heap.size + 1 := by rw [← hX]; simp
    clear hX
    have zb := hb; clear hb
    have za := hk; clear hk
    generalize hX : (w1.alloc (.cells #[.int .i64 t.keep, .int .i64 t.free, .int .i64 t.step, .int .i64 t.rate, .int .i64 t.cap, .int .i64 t.longer, .int .i64 t.price, .int .i64 t.most] 26)) = w2
    have hb : Below w1.heap.size w1 w2 := by rw [← hX]; exact balloc _ _
    have hk : Has w2 w1.heap.size 26 #[.int .i64 t.keep, .int .i64 t.free, .int .i64 t.step, .int .i64 t.rate, .int .i64 t.cap, .int .i64 t.longer, .int .i64 t.price, .int .i64 t.most] := by rw [← hX]; exact has_new _ _ _
    have hzw2 : w2.heap.size = w.heap.size + 2 := by rw [← hX]; simp [hzw1]
    clear hX
    rw [hzw1] at hk
    replace za := has_call za hb
    replace zb := bthen zb hb; clear hb
    have ta := hk; clear hk
    clear hzw1 hzw2
    have hsw0 := zb.size
    have zac0 := has_cell za 0 rfl; have zac1 := has_cell za 1 rfl
    have zalt := has_lt za
    have tac0 := has_cell ta 0 rfl; have tac1 := has_cell ta 1 rfl; have tac2 := has_cell ta 2 rfl; have tac3 := has_cell ta 3 rfl; have tac4 := has_cell ta 4 rfl; have tac5 := has_cell ta 5 rfl; have tac6 := has_cell ta 6 rfl; have tac7 := has_cell ta 7 rfl
    have talt := has_lt ta
    have ZAH := Lib.hid za; clear za
    have TAH := Lib.hid ta; clear ta
    have ZB := Lib.hid zb; clear zb
    go_wp2_with fail
    clear zac0 zac1 zalt tac0 tac1 tac2 tac3 tac4 tac5 tac6 tac7 talt
    have za := ZAH.out; clear ZAH
    have ta := TAH.out; clear TAH
    have zb := ZB.out; clear ZB
    refine (szW_any _ A A' o.length n c.length n' 1048576 ho hc (by omega) (by omega)).mono ?_
    rintro e w3 ⟨rfl, hb⟩
    rw [Hs0.out]
    have hsw3 := hb.size
    replace za := has_call za hb
    replace ta := has_call ta hb
    replace zb := bthen zb hb; clear hb
    have zac0 := has_cell za 0 rfl; have zac1 := has_cell za 1 rfl
    have zalt := has_lt za
    have tac0 := has_cell ta 0 rfl; have tac1 := has_cell ta 1 rfl; have tac2 := has_cell ta 2 rfl; have tac3 := has_cell ta 3 rfl; have tac4 := has_cell ta 4 rfl; have tac5 := has_cell ta 5 rfl; have tac6 := has_cell ta 6 rfl; have tac7 := has_cell ta 7 rfl
    have talt := has_lt ta
    have ZAH := Lib.hid za; clear za
    have TAH := Lib.hid ta; clear ta
    have ZB := Lib.hid zb; clear zb
    go_wp2_with fail
    clear zac0 zac1 zalt tac0 tac1 tac2 tac3 tac4 tac5 tac6 tac7 talt
    have za := ZAH.out; clear ZAH
    have ta := TAH.out; clear TAH
    have zb := ZB.out; clear ZB
    refine (szStay_any _ AF L.length cF s0 lL (by omega) (by omega)).mono ?_
    rintro e w4 ⟨rfl, hw⟩
    rw [hw]; clear hw w4
    rw [Hs1.out]
    have zac0 := has_cell za 0 rfl; have zac1 := has_cell za 1 rfl
    have zalt := has_lt za
    have tac0 := has_cell ta 0 rfl; have tac1 := has_cell ta 1 rfl; have tac2 := has_cell ta 2 rfl; have tac3 := has_cell ta 3 rfl; have tac4 := has_cell ta 4 rfl; have tac5 := has_cell ta 5 rfl; have tac6 := has_cell ta 6 rfl; have tac7 := has_cell ta 7 rfl
    have talt := has_lt ta
    have ZAH := Lib.hid za; clear za
    have TAH := Lib.hid ta; clear ta
    have ZB := Lib.hid zb; clear zb
    go_wp2_with fail
    clear zac0 zac1 zalt tac0 tac1 tac2 tac3 tac4 tac5 tac6 tac7 talt
    have za := ZAH.out; clear ZAH
    have ta := TAH.out; clear TAH
    have zb := ZB.out; clear ZB
    have zac0 := has_cell za 0 rfl; have zac1 := has_cell za 1 rfl
    have zalt := has_lt za
    have tac0 := has_cell ta 0 rfl; have tac1 := has_cell ta 1 rfl; have tac2 := has_cell ta 2 rfl; have tac3 := has_cell ta 3 rfl; have tac4 := has_cell ta 4 rfl; have tac5 := has_cell ta 5 rfl; have tac6 := has_cell ta 6 rfl; have tac7 := has_cell ta 7 rfl
    have talt := has_lt ta
    have ZAH := Lib.hid za; clear za
    have TAH := Lib.hid ta; clear ta
    have ZB := Lib.hid zb; clear zb
    try go_wp2_with fail
    have S0 : (fun W : World => (W.cell? ⟨w.heap.size, 0, none⟩ = some (.slice A o.length n) ∧ W.cell? ⟨w.heap.size, 1, none⟩ = some (.slice A' c.length n') ∧ W.cell? ⟨w.heap.size + 1, 0, none⟩ = some (.int .i64 t.keep) ∧ W.cell? ⟨w.heap.size + 1, 1, none⟩ = some (.int .i64 t.free) ∧ W.cell? ⟨w.heap.size + 1, 2, none⟩ = some (.int .i64 t.step) ∧ W.cell? ⟨w.heap.size + 1, 3, none⟩ = some (.int .i64 t.rate) ∧ W.cell? ⟨w.heap.size + 1, 4, none⟩ = some (.int .i64 t.cap) ∧ W.cell? ⟨w.heap.size + 1, 5, none⟩ = some (.int .i64 t.longer) ∧ W.cell? ⟨w.heap.size + 1, 6, none⟩ = some (.int .i64 t.price) ∧ W.cell? ⟨w.heap.size + 1, 7, none⟩ = some (.int .i64 t.most)) ∧ Below w3.heap.size w3 W) w3.drew := ⟨⟨zac0, zac1, tac0, tac1, tac2, tac3, tac4, tac5, tac6, tac7⟩, (Below.refl _ _).drew⟩
    have zc := ZB.out; have zd : Below w.heap.size w w3.drew := zc.drew; have hzz := zc.size
    have hlza9 := zalt
    have hlta9 := talt
    clear zac0 zac1 zalt tac0 tac1 tac2 tac3 tac4 tac5 tac6 tac7 talt
    go_region_held3 (fun W : World => (W.cell? ⟨w.heap.size, 0, none⟩ = some (.slice A o.length n) ∧ W.cell? ⟨w.heap.size, 1, none⟩ = some (.slice A' c.length n') ∧ W.cell? ⟨w.heap.size + 1, 0, none⟩ = some (.int .i64 t.keep) ∧ W.cell? ⟨w.heap.size + 1, 1, none⟩ = some (.int .i64 t.free) ∧ W.cell? ⟨w.heap.size + 1, 2, none⟩ = some (.int .i64 t.step) ∧ W.cell? ⟨w.heap.size + 1, 3, none⟩ = some (.int .i64 t.rate) ∧ W.cell? ⟨w.heap.size + 1, 4, none⟩ = some (.int .i64 t.cap) ∧ W.cell? ⟨w.heap.size + 1, 5, none⟩ = some (.int .i64 t.longer) ∧ W.cell? ⟨w.heap.size + 1, 6, none⟩ = some (.int .i64 t.price) ∧ W.cell? ⟨w.heap.size + 1, 7, none⟩ = some (.int .i64 t.most)) ∧ Below w3.heap.size w3 W) (first | assumption) (first
      | (go_at_call 10; go_must (refine (toWeek_any w3.drew w.heap.size A A' n n' o c lo lc zd.size (HS.out.below zd) (HS'.out.below zd)).mono ?_); rintro e wr1 ⟨u1A, u1B, rfl, h5, h6, h1⟩; have T1 := Lib.hid h5; have T1k := Lib.hid h6; clear h5 h6; have hv1 : Below w3.heap.size w3 wr1 := ((Below.refl w3.heap.size w3).drew).trans h1; have hz1 := hv1.size; have hy1 := h1.size; have S1 : (fun W : World => (W.cell? ⟨w.heap.size, 0, none⟩ = some (.slice A o.length n) ∧ W.cell? ⟨w.heap.size, 1, none⟩ = some (.slice A' c.length n') ∧ W.cell? ⟨w.heap.size + 1, 0, none⟩ = some (.int .i64 t.keep) ∧ W.cell? ⟨w.heap.size + 1, 1, none⟩ = some (.int .i64 t.free) ∧ W.cell? ⟨w.heap.size + 1, 2, none⟩ = some (.int .i64 t.step) ∧ W.cell? ⟨w.heap.size + 1, 3, none⟩ = some (.int .i64 t.rate) ∧ W.cell? ⟨w.heap.size + 1, 4, none⟩ = some (.int .i64 t.cap) ∧ W.cell? ⟨w.heap.size + 1, 5, none⟩ = some (.int .i64 t.longer) ∧ W.cell? ⟨w.heap.size + 1, 6, none⟩ = some (.int .i64 t.price) ∧ W.cell? ⟨w.heap.size + 1, 7, none⟩ = some (.int .i64 t.most)) ∧ Below w3.heap.size w3 W) wr1 := ⟨⟨(bold hv1 _ _ (by omega)).trans S0.1.1, (bold hv1 _ _ (by omega)).trans S0.1.2.1, (bold hv1 _ _ (by omega)).trans S0.1.2.2.1, (bold hv1 _ _ (by omega)).trans S0.1.2.2.2.1, (bold hv1 _ _ (by omega)).trans S0.1.2.2.2.2.1, (bold hv1 _ _ (by omega)).trans S0.1.2.2.2.2.2.1, (bold hv1 _ _ (by omega)).trans S0.1.2.2.2.2.2.2.1, (bold hv1 _ _ (by omega)).trans S0.1.2.2.2.2.2.2.2.1, (bold hv1 _ _ (by omega)).trans S0.1.2.2.2.2.2.2.2.2.1, (bold hv1 _ _ (by omega)).trans S0.1.2.2.2.2.2.2.2.2.2⟩, hv1⟩)
      | (go_at_call 11; go_must (refine (toTerms_any t.keep t.free t.step t.rate t.cap t.longer t.price t.most wr1).mono ?_); rintro e wr2 ⟨rfl, h2⟩; have hv2 : Below w3.heap.size w3 wr2 := bthen hv1 h2; have hz2 := hv2.size; have hy2 := h2.size; have S2 : (fun W : World => (W.cell? ⟨w.heap.size, 0, none⟩ = some (.slice A o.length n) ∧ W.cell? ⟨w.heap.size, 1, none⟩ = some (.slice A' c.length n') ∧ W.cell? ⟨w.heap.size + 1, 0, none⟩ = some (.int .i64 t.keep) ∧ W.cell? ⟨w.heap.size + 1, 1, none⟩ = some (.int .i64 t.free) ∧ W.cell? ⟨w.heap.size + 1, 2, none⟩ = some (.int .i64 t.step) ∧ W.cell? ⟨w.heap.size + 1, 3, none⟩ = some (.int .i64 t.rate) ∧ W.cell? ⟨w.heap.size + 1, 4, none⟩ = some (.int .i64 t.cap) ∧ W.cell? ⟨w.heap.size + 1, 5, none⟩ = some (.int .i64 t.longer) ∧ W.cell? ⟨w.heap.size + 1, 6, none⟩ = some (.int .i64 t.price) ∧ W.cell? ⟨w.heap.size + 1, 7, none⟩ = some (.int .i64 t.most)) ∧ Below w3.heap.size w3 W) wr2 := ⟨⟨(bold hv2 _ _ (by omega)).trans S0.1.1, (bold hv2 _ _ (by omega)).trans S0.1.2.1, (bold hv2 _ _ (by omega)).trans S0.1.2.2.1, (bold hv2 _ _ (by omega)).trans S0.1.2.2.2.1, (bold hv2 _ _ (by omega)).trans S0.1.2.2.2.2.1, (bold hv2 _ _ (by omega)).trans S0.1.2.2.2.2.2.1, (bold hv2 _ _ (by omega)).trans S0.1.2.2.2.2.2.2.1, (bold hv2 _ _ (by omega)).trans S0.1.2.2.2.2.2.2.2.1, (bold hv2 _ _ (by omega)).trans S0.1.2.2.2.2.2.2.2.2.1, (bold hv2 _ _ (by omega)).trans S0.1.2.2.2.2.2.2.2.2.2⟩, hv2⟩)
      | (go_at_call 20; go_must (refine (toStayS_any wr2 w.heap.size AF cF L mL (zc.trans (hv2.mono hzz)).size (HL.out.below (zc.trans (hv2.mono hzz)))).mono ?_); rintro e wr3 ⟨u3A, u3n, rfl, hP, h3⟩; have T3 := Lib.hid hP; clear hP; have hv3 : Below w3.heap.size w3 wr3 := bthen hv2 h3; have hz3 := hv3.size; have hy3 := h3.size; have S3 : (fun W : World => (W.cell? ⟨w.heap.size, 0, none⟩ = some (.slice A o.length n) ∧ W.cell? ⟨w.heap.size, 1, none⟩ = some (.slice A' c.length n') ∧ W.cell? ⟨w.heap.size + 1, 0, none⟩ = some (.int .i64 t.keep) ∧ W.cell? ⟨w.heap.size + 1, 1, none⟩ = some (.int .i64 t.free) ∧ W.cell? ⟨w.heap.size + 1, 2, none⟩ = some (.int .i64 t.step) ∧ W.cell? ⟨w.heap.size + 1, 3, none⟩ = some (.int .i64 t.rate) ∧ W.cell? ⟨w.heap.size + 1, 4, none⟩ = some (.int .i64 t.cap) ∧ W.cell? ⟨w.heap.size + 1, 5, none⟩ = some (.int .i64 t.longer) ∧ W.cell? ⟨w.heap.size + 1, 6, none⟩ = some (.int .i64 t.price) ∧ W.cell? ⟨w.heap.size + 1, 7, none⟩ = some (.int .i64 t.most)) ∧ Below w3.heap.size w3 W) wr3 := ⟨⟨(bold hv3 _ _ (by omega)).trans S0.1.1, (bold hv3 _ _ (by omega)).trans S0.1.2.1, (bold hv3 _ _ (by omega)).trans S0.1.2.2.1, (bold hv3 _ _ (by omega)).trans S0.1.2.2.2.1, (bold hv3 _ _ (by omega)).trans S0.1.2.2.2.2.1, (bold hv3 _ _ (by omega)).trans S0.1.2.2.2.2.2.1, (bold hv3 _ _ (by omega)).trans S0.1.2.2.2.2.2.2.1, (bold hv3 _ _ (by omega)).trans S0.1.2.2.2.2.2.2.2.1, (bold hv3 _ _ (by omega)).trans S0.1.2.2.2.2.2.2.2.2.1, (bold hv3 _ _ (by omega)).trans S0.1.2.2.2.2.2.2.2.2.2⟩, hv3⟩)
      | (go_at_call 19; go_must (refine (billS_any wr3 wr3.heap.size u1A u1B o.length c.length o c t u3A u3n L ho hc (by omega) (SL.more ((T1.out).later (by omega) (bthen h2 h3)) (by omega)) (SL.more ((T1k.out).later (by omega) (bthen h2 h3)) (by omega)) lL ((T3.out.st).more (by omega))).mono ?_); rintro e wr4 ⟨rfl, h4⟩; rw [HV.out]; unfold pairV; have hv4 : Below w3.heap.size w3 wr4 := bthen hv3 h4; have hz4 := hv4.size; have hy4 := h4.size; have S4 : (fun W : World => (W.cell? ⟨w.heap.size, 0, none⟩ = some (.slice A o.length n) ∧ W.cell? ⟨w.heap.size, 1, none⟩ = some (.slice A' c.length n') ∧ W.cell? ⟨w.heap.size + 1, 0, none⟩ = some (.int .i64 t.keep) ∧ W.cell? ⟨w.heap.size + 1, 1, none⟩ = some (.int .i64 t.free) ∧ W.cell? ⟨w.heap.size + 1, 2, none⟩ = some (.int .i64 t.step) ∧ W.cell? ⟨w.heap.size + 1, 3, none⟩ = some (.int .i64 t.rate) ∧ W.cell? ⟨w.heap.size + 1, 4, none⟩ = some (.int .i64 t.cap) ∧ W.cell? ⟨w.heap.size + 1, 5, none⟩ = some (.int .i64 t.longer) ∧ W.cell? ⟨w.heap.size + 1, 6, none⟩ = some (.int .i64 t.price) ∧ W.cell? ⟨w.heap.size + 1, 7, none⟩ = some (.int .i64 t.most)) ∧ Below w3.heap.size w3 W) wr4 := ⟨⟨(bold hv4 _ _ (by omega)).trans S0.1.1, (bold hv4 _ _ (by omega)).trans S0.1.2.1, (bold hv4 _ _ (by omega)).trans S0.1.2.2.1, (bold hv4 _ _ (by omega)).trans S0.1.2.2.2.1, (bold hv4 _ _ (by omega)).trans S0.1.2.2.2.2.1, (bold hv4 _ _ (by omega)).trans S0.1.2.2.2.2.2.1, (bold hv4 _ _ (by omega)).trans S0.1.2.2.2.2.2.2.1, (bold hv4 _ _ (by omega)).trans S0.1.2.2.2.2.2.2.2.1, (bold hv4 _ _ (by omega)).trans S0.1.2.2.2.2.2.2.2.2.1, (bold hv4 _ _ (by omega)).trans S0.1.2.2.2.2.2.2.2.2.2⟩, hv4⟩))
    have hb : Below w3.heap.size w3 wr4 := hv4
    clear S0 S1 S2 S3 S4 zc zd hzz hlza9 hlta9 hz1 hy1 hz2 hy2 hz3 hy3 hz4 hy4
    clear T1 T1k
    clear T3
    clear hv4 h4 hv3 h3 hv2 h2 hv1 h1
    have za := ZAH.out; clear ZAH
    have ta := TAH.out; clear TAH
    have zb := ZB.out; clear ZB
    have hswr4 := hb.size
    replace za := has_call za hb
    replace ta := has_call ta hb
    replace zb := bthen zb hb; clear hb
    skip
    have zac0 := has_cell za 0 rfl; have zac1 := has_cell za 1 rfl
    have zalt := has_lt za
    have tac0 := has_cell ta 0 rfl; have tac1 := has_cell ta 1 rfl; have tac2 := has_cell ta 2 rfl; have tac3 := has_cell ta 3 rfl; have tac4 := has_cell ta 4 rfl; have tac5 := has_cell ta 5 rfl; have tac6 := has_cell ta 6 rfl; have tac7 := has_cell ta 7 rfl
    have talt := has_lt ta
    have ZAH := Lib.hid za; clear za
    have TAH := Lib.hid ta; clear ta
    have ZB := Lib.hid zb; clear zb
    go_wp2_with fail
    clear zac0 zac1 zalt tac0 tac1 tac2 tac3 tac4 tac5 tac6 tac7 talt
    have za := ZAH.out; clear ZAH
    have ta := TAH.out; clear TAH
    have zb := ZB.out; clear ZB
    refine (toWeek_any _ w.heap.size A A' n n' o c lo lc zb.size (HS.out.below zb) (HS'.out.below zb)).mono ?_
    rintro e w6 ⟨xxA, xxB, rfl, h5, h6, hb⟩
    have hsw6 := hb.size
    replace za := has_call za hb
    replace ta := has_call ta hb
    replace zb := bthen zb hb; clear hb
    have SL_xx := Lib.hid h5; have SL_xxk := Lib.hid h6; clear h5 h6
    have zac0 := has_cell za 0 rfl; have zac1 := has_cell za 1 rfl
    have zalt := has_lt za
    have tac0 := has_cell ta 0 rfl; have tac1 := has_cell ta 1 rfl; have tac2 := has_cell ta 2 rfl; have tac3 := has_cell ta 3 rfl; have tac4 := has_cell ta 4 rfl; have tac5 := has_cell ta 5 rfl; have tac6 := has_cell ta 6 rfl; have tac7 := has_cell ta 7 rfl
    have talt := has_lt ta
    have ZAH := Lib.hid za; clear za
    have TAH := Lib.hid ta; clear ta
    have ZB := Lib.hid zb; clear zb
    go_wp2_with fail
    clear zac0 zac1 zalt tac0 tac1 tac2 tac3 tac4 tac5 tac6 tac7 talt
    have za := ZAH.out; clear ZAH
    have ta := TAH.out; clear TAH
    have zb := ZB.out; clear ZB
    generalize hX : (w6.alloc (.cells #[.slice xxA o.length o.length, .slice xxB c.length c.length] 32)) = w7
    have hb : Below w6.heap.size w6 w7 := by rw [← hX]; exact balloc _ _
    have hk : Has w7 w6.heap.size 32 #[.slice xxA o.length o.length, .slice xxB c.length c.length] := by rw [← hX]; exact has_new _ _ _
    clear hX
    have kk := SL.later SL_xx.out (by omega) hb; clear SL_xx; have SL_xx := Lib.hid kk; clear kk
    have kk := SL.later SL_xxk.out (by omega) hb; clear SL_xxk; have SL_xxk := Lib.hid kk; clear kk
    have hsw7 := hb.size
    replace za := has_call za hb
    replace ta := has_call ta hb
    replace zb := bthen zb hb; clear hb
    have vx := hk; clear hk; have hlvx := has_lt vx
    have zac0 := has_cell za 0 rfl; have zac1 := has_cell za 1 rfl
    have zalt := has_lt za
    have tac0 := has_cell ta 0 rfl; have tac1 := has_cell ta 1 rfl; have tac2 := has_cell ta 2 rfl; have tac3 := has_cell ta 3 rfl; have tac4 := has_cell ta 4 rfl; have tac5 := has_cell ta 5 rfl; have tac6 := has_cell ta 6 rfl; have tac7 := has_cell ta 7 rfl
    have talt := has_lt ta
    have vxc0 := has_cell vx 0 rfl; have vxc1 := has_cell vx 1 rfl
    have vxlt := has_lt vx
    have ZAH := Lib.hid za; clear za
    have TAH := Lib.hid ta; clear ta
    have VXH := Lib.hid vx; clear vx
    have ZB := Lib.hid zb; clear zb
    go_wp2_with fail
    clear zac0 zac1 zalt tac0 tac1 tac2 tac3 tac4 tac5 tac6 tac7 talt vxc0 vxc1 vxlt
    have za := ZAH.out; clear ZAH
    have ta := TAH.out; clear TAH
    have vx := VXH.out; clear VXH
    have zb := ZB.out; clear ZB
    refine (toStayS_any _ w.heap.size AF cF L mL zb.size (HL.out.below zb)).mono ?_
    rintro e w8 ⟨gsA, gsn, rfl, hP, hb⟩
    have kk := SL.later SL_xx.out (by omega) hb; clear SL_xx; have SL_xx := Lib.hid kk; clear kk
    have kk := SL.later SL_xxk.out (by omega) hb; clear SL_xxk; have SL_xxk := Lib.hid kk; clear kk
    have hsw8 := hb.size
    replace za := has_call za hb
    replace ta := has_call ta hb
    replace vx := has_call vx hb
    replace zb := bthen zb hb; clear hb
    have RI_gs := Lib.hid (OI.of_or hP); clear hP
    have zac0 := has_cell za 0 rfl; have zac1 := has_cell za 1 rfl
    have zalt := has_lt za
    have tac0 := has_cell ta 0 rfl; have tac1 := has_cell ta 1 rfl; have tac2 := has_cell ta 2 rfl; have tac3 := has_cell ta 3 rfl; have tac4 := has_cell ta 4 rfl; have tac5 := has_cell ta 5 rfl; have tac6 := has_cell ta 6 rfl; have tac7 := has_cell ta 7 rfl
    have talt := has_lt ta
    have vxc0 := has_cell vx 0 rfl; have vxc1 := has_cell vx 1 rfl
    have vxlt := has_lt vx
    have ZAH := Lib.hid za; clear za
    have TAH := Lib.hid ta; clear ta
    have VXH := Lib.hid vx; clear vx
    have ZB := Lib.hid zb; clear zb
    go_wp2_with fail
    clear zac0 zac1 zalt tac0 tac1 tac2 tac3 tac4 tac5 tac6 tac7 talt vxc0 vxc1 vxlt
    have za := ZAH.out; clear ZAH
    have ta := TAH.out; clear TAH
    have vx := VXH.out; clear VXH
    have zb := ZB.out; clear ZB
    have vxc0 := has_cell vx 0 rfl; have vxc1 := has_cell vx 1 rfl
    have vxlt := has_lt vx
    have tac0 := has_cell ta 0 rfl; have tac1 := has_cell ta 1 rfl; have tac2 := has_cell ta 2 rfl; have tac3 := has_cell ta 3 rfl; have tac4 := has_cell ta 4 rfl; have tac5 := has_cell ta 5 rfl; have tac6 := has_cell ta 6 rfl; have tac7 := has_cell ta 7 rfl
    have talt := has_lt ta
    have ZAH := Lib.hid za; clear za
    have TAH := Lib.hid ta; clear ta
    have VXH := Lib.hid vx; clear vx
    have ZB := Lib.hid zb; clear zb
    try go_wp2_with fail
    have S0 : (fun W : World => (W.cell? ⟨w6.heap.size, 0, none⟩ = some (.slice xxA o.length o.length) ∧ W.cell? ⟨w6.heap.size, 1, none⟩ = some (.slice xxB c.length c.length) ∧ W.cell? ⟨w.heap.size + 1, 0, none⟩ = some (.int .i64 t.keep) ∧ W.cell? ⟨w.heap.size + 1, 1, none⟩ = some (.int .i64 t.free) ∧ W.cell? ⟨w.heap.size + 1, 2, none⟩ = some (.int .i64 t.step) ∧ W.cell? ⟨w.heap.size + 1, 3, none⟩ = some (.int .i64 t.rate) ∧ W.cell? ⟨w.heap.size + 1, 4, none⟩ = some (.int .i64 t.cap) ∧ W.cell? ⟨w.heap.size + 1, 5, none⟩ = some (.int .i64 t.longer) ∧ W.cell? ⟨w.heap.size + 1, 6, none⟩ = some (.int .i64 t.price) ∧ W.cell? ⟨w.heap.size + 1, 7, none⟩ = some (.int .i64 t.most)) ∧ Below w8.heap.size w8 W) w8.drew := ⟨⟨vxc0, vxc1, tac0, tac1, tac2, tac3, tac4, tac5, tac6, tac7⟩, (Below.refl _ _).drew⟩
    have zc := ZB.out; have zd : Below w.heap.size w w8.drew := zc.drew; have hzz := zc.size
    have hlvx9 := vxlt
    have hlta9 := talt
    clear vxc0 vxc1 vxlt tac0 tac1 tac2 tac3 tac4 tac5 tac6 tac7 talt
    go_region_held3 (fun W : World => (W.cell? ⟨w6.heap.size, 0, none⟩ = some (.slice xxA o.length o.length) ∧ W.cell? ⟨w6.heap.size, 1, none⟩ = some (.slice xxB c.length c.length) ∧ W.cell? ⟨w.heap.size + 1, 0, none⟩ = some (.int .i64 t.keep) ∧ W.cell? ⟨w.heap.size + 1, 1, none⟩ = some (.int .i64 t.free) ∧ W.cell? ⟨w.heap.size + 1, 2, none⟩ = some (.int .i64 t.step) ∧ W.cell? ⟨w.heap.size + 1, 3, none⟩ = some (.int .i64 t.rate) ∧ W.cell? ⟨w.heap.size + 1, 4, none⟩ = some (.int .i64 t.cap) ∧ W.cell? ⟨w.heap.size + 1, 5, none⟩ = some (.int .i64 t.longer) ∧ W.cell? ⟨w.heap.size + 1, 6, none⟩ = some (.int .i64 t.price) ∧ W.cell? ⟨w.heap.size + 1, 7, none⟩ = some (.int .i64 t.most)) ∧ Below w8.heap.size w8 W) (first | assumption) (first
      | (go_at_call 11; go_must (refine (toTerms_any t.keep t.free t.step t.rate t.cap t.longer t.price t.most w8.drew).mono ?_); rintro e wr1 ⟨rfl, h1⟩; have hv1 : Below w8.heap.size w8 wr1 := ((Below.refl w8.heap.size w8).drew).trans h1; have hz1 := hv1.size; have hy1 := h1.size; have S1 : (fun W : World => (W.cell? ⟨w6.heap.size, 0, none⟩ = some (.slice xxA o.length o.length) ∧ W.cell? ⟨w6.heap.size, 1, none⟩ = some (.slice xxB c.length c.length) ∧ W.cell? ⟨w.heap.size + 1, 0, none⟩ = some (.int .i64 t.keep) ∧ W.cell? ⟨w.heap.size + 1, 1, none⟩ = some (.int .i64 t.free) ∧ W.cell? ⟨w.heap.size + 1, 2, none⟩ = some (.int .i64 t.step) ∧ W.cell? ⟨w.heap.size + 1, 3, none⟩ = some (.int .i64 t.rate) ∧ W.cell? ⟨w.heap.size + 1, 4, none⟩ = some (.int .i64 t.cap) ∧ W.cell? ⟨w.heap.size + 1, 5, none⟩ = some (.int .i64 t.longer) ∧ W.cell? ⟨w.heap.size + 1, 6, none⟩ = some (.int .i64 t.price) ∧ W.cell? ⟨w.heap.size + 1, 7, none⟩ = some (.int .i64 t.most)) ∧ Below w8.heap.size w8 W) wr1 := ⟨⟨(bold hv1 _ _ (by omega)).trans S0.1.1, (bold hv1 _ _ (by omega)).trans S0.1.2.1, (bold hv1 _ _ (by omega)).trans S0.1.2.2.1, (bold hv1 _ _ (by omega)).trans S0.1.2.2.2.1, (bold hv1 _ _ (by omega)).trans S0.1.2.2.2.2.1, (bold hv1 _ _ (by omega)).trans S0.1.2.2.2.2.2.1, (bold hv1 _ _ (by omega)).trans S0.1.2.2.2.2.2.2.1, (bold hv1 _ _ (by omega)).trans S0.1.2.2.2.2.2.2.2.1, (bold hv1 _ _ (by omega)).trans S0.1.2.2.2.2.2.2.2.2.1, (bold hv1 _ _ (by omega)).trans S0.1.2.2.2.2.2.2.2.2.2⟩, hv1⟩)
      | (go_at_call 21; go_must (refine (billI_any wr1 w8.heap.size xxA xxB o.length c.length o c t gsA gsn L ho hc (by omega) (SL.later (SL.more SL_xx.out (show _ ≤ w8.heap.size by omega)) (Nat.le_refl _) hv1) (SL.later (SL.more SL_xxk.out (show _ ≤ w8.heap.size by omega)) (Nat.le_refl _) hv1) lL ((RI_gs.out.st).later (Nat.le_refl _) hv1)).mono ?_); rintro e wr2 ⟨rfl, h2⟩; rw [HV.out]; unfold pairV; have hv2 : Below w8.heap.size w8 wr2 := bthen hv1 h2; have hz2 := hv2.size; have hy2 := h2.size; have S2 : (fun W : World => (W.cell? ⟨w6.heap.size, 0, none⟩ = some (.slice xxA o.length o.length) ∧ W.cell? ⟨w6.heap.size, 1, none⟩ = some (.slice xxB c.length c.length) ∧ W.cell? ⟨w.heap.size + 1, 0, none⟩ = some (.int .i64 t.keep) ∧ W.cell? ⟨w.heap.size + 1, 1, none⟩ = some (.int .i64 t.free) ∧ W.cell? ⟨w.heap.size + 1, 2, none⟩ = some (.int .i64 t.step) ∧ W.cell? ⟨w.heap.size + 1, 3, none⟩ = some (.int .i64 t.rate) ∧ W.cell? ⟨w.heap.size + 1, 4, none⟩ = some (.int .i64 t.cap) ∧ W.cell? ⟨w.heap.size + 1, 5, none⟩ = some (.int .i64 t.longer) ∧ W.cell? ⟨w.heap.size + 1, 6, none⟩ = some (.int .i64 t.price) ∧ W.cell? ⟨w.heap.size + 1, 7, none⟩ = some (.int .i64 t.most)) ∧ Below w8.heap.size w8 W) wr2 := ⟨⟨(bold hv2 _ _ (by omega)).trans S0.1.1, (bold hv2 _ _ (by omega)).trans S0.1.2.1, (bold hv2 _ _ (by omega)).trans S0.1.2.2.1, (bold hv2 _ _ (by omega)).trans S0.1.2.2.2.1, (bold hv2 _ _ (by omega)).trans S0.1.2.2.2.2.1, (bold hv2 _ _ (by omega)).trans S0.1.2.2.2.2.2.1, (bold hv2 _ _ (by omega)).trans S0.1.2.2.2.2.2.2.1, (bold hv2 _ _ (by omega)).trans S0.1.2.2.2.2.2.2.2.1, (bold hv2 _ _ (by omega)).trans S0.1.2.2.2.2.2.2.2.2.1, (bold hv2 _ _ (by omega)).trans S0.1.2.2.2.2.2.2.2.2.2⟩, hv2⟩))
    have hb : Below w8.heap.size w8 wr2 := hv2
    clear S0 S1 S2 zc zd hzz hlvx9 hlta9 hz1 hy1 hz2 hy2
    clear hv2 h2 hv1 h1
    have za := ZAH.out; clear ZAH
    have ta := TAH.out; clear TAH
    have vx := VXH.out; clear VXH
    have zb := ZB.out; clear ZB
    have kk := SL.later SL_xx.out (by omega) hb; clear SL_xx; have SL_xx := Lib.hid kk; clear kk
    have kk := SL.later SL_xxk.out (by omega) hb; clear SL_xxk; have SL_xxk := Lib.hid kk; clear kk
    have kk := OI.call RI_gs.out hb; clear RI_gs; have RI_gs := Lib.hid kk; clear kk
    have hswr2 := hb.size
    replace za := has_call za hb
    replace ta := has_call ta hb
    replace vx := has_call vx hb
    replace zb := bthen zb hb; clear hb
    skip
    have zac0 := has_cell za 0 rfl; have zac1 := has_cell za 1 rfl
    have zalt := has_lt za
    have tac0 := has_cell ta 0 rfl; have tac1 := has_cell ta 1 rfl; have tac2 := has_cell ta 2 rfl; have tac3 := has_cell ta 3 rfl; have tac4 := has_cell ta 4 rfl; have tac5 := has_cell ta 5 rfl; have tac6 := has_cell ta 6 rfl; have tac7 := has_cell ta 7 rfl
    have talt := has_lt ta
    have vxc0 := has_cell vx 0 rfl; have vxc1 := has_cell vx 1 rfl
    have vxlt := has_lt vx
    have ZAH := Lib.hid za; clear za
    have TAH := Lib.hid ta; clear ta
    have VXH := Lib.hid vx; clear vx
    have ZB := Lib.hid zb; clear zb
    try go_wp2_with fail
    have S0 : (fun W : World => (W.cell? ⟨w.heap.size, 0, none⟩ = some (.slice A o.length n) ∧ W.cell? ⟨w.heap.size, 1, none⟩ = some (.slice A' c.length n') ∧ W.cell? ⟨w6.heap.size, 0, none⟩ = some (.slice xxA o.length o.length) ∧ W.cell? ⟨w6.heap.size, 1, none⟩ = some (.slice xxB c.length c.length)) ∧ Below wr2.heap.size wr2 W) wr2.drew := ⟨⟨zac0, zac1, vxc0, vxc1⟩, (Below.refl _ _).drew⟩
    have zc := ZB.out; have zd : Below w.heap.size w wr2.drew := zc.drew; have hl1 := zalt; have hl2 := vxlt; have hzz := zc.size
    clear zac0 zac1 zalt tac0 tac1 tac2 tac3 tac4 tac5 tac6 tac7 talt vxc0 vxc1 vxlt
    go_region_held3 (fun W : World => (W.cell? ⟨w.heap.size, 0, none⟩ = some (.slice A o.length n) ∧ W.cell? ⟨w.heap.size, 1, none⟩ = some (.slice A' c.length n') ∧ W.cell? ⟨w6.heap.size, 0, none⟩ = some (.slice xxA o.length o.length) ∧ W.cell? ⟨w6.heap.size, 1, none⟩ = some (.slice xxB c.length c.length)) ∧ Below wr2.heap.size wr2 W) (first | assumption) (first
      | (go_at_call 10; go_must (refine (toWeek_any wr2.drew w.heap.size A A' n n' o c lo lc zd.size (HS.out.below zd) (HS'.out.below zd)).mono ?_); rintro e wa ⟨xyA, xyB, rfl, h5, h6, hb6⟩; have T1 := Lib.hid h5; have T2 := Lib.hid h6; clear h5 h6; have hb7 : Below wr2.heap.size wr2 wa := ((Below.refl wr2.heap.size wr2).drew).trans hb6; have hz7 := hb7.size; clear hb6; have S6 : (fun W : World => (W.cell? ⟨w.heap.size, 0, none⟩ = some (.slice A o.length n) ∧ W.cell? ⟨w.heap.size, 1, none⟩ = some (.slice A' c.length n') ∧ W.cell? ⟨w6.heap.size, 0, none⟩ = some (.slice xxA o.length o.length) ∧ W.cell? ⟨w6.heap.size, 1, none⟩ = some (.slice xxB c.length c.length)) ∧ Below wr2.heap.size wr2 W) wa := ⟨⟨(bold hb7 _ _ (by omega)).trans S0.1.1, (bold hb7 _ _ (by omega)).trans S0.1.2.1, (bold hb7 _ _ (by omega)).trans S0.1.2.2.1, (bold hb7 _ _ (by omega)).trans S0.1.2.2.2⟩, hb7⟩)
      | (go_at_call 13; go_must (refine (eqWeek_any wa w6.heap.size wa.heap.size xxA xxB xyA xyB o.length c.length o.length c.length o c ho hc (by omega) (Nat.le_refl _) (SL.later SL_xx.out (by omega) hb7) (SL.later SL_xxk.out (by omega) hb7) T1.out T2.out).mono ?_); rintro e wb ⟨rfl, hb8⟩; have hb9 := bthen hb7 hb8; have S7 : (fun W : World => (W.cell? ⟨w.heap.size, 0, none⟩ = some (.slice A o.length n) ∧ W.cell? ⟨w.heap.size, 1, none⟩ = some (.slice A' c.length n') ∧ W.cell? ⟨w6.heap.size, 0, none⟩ = some (.slice xxA o.length o.length) ∧ W.cell? ⟨w6.heap.size, 1, none⟩ = some (.slice xxB c.length c.length)) ∧ Below wr2.heap.size wr2 W) wb := ⟨⟨(bold hb9 _ _ (by omega)).trans S0.1.1, (bold hb9 _ _ (by omega)).trans S0.1.2.1, (bold hb9 _ _ (by omega)).trans S0.1.2.2.1, (bold hb9 _ _ (by omega)).trans S0.1.2.2.2⟩, hb9⟩))
    have hb := S7.2
    clear S0 S6 S7 zc zd T1 T2 hb9
    have za := ZAH.out; clear ZAH
    have ta := TAH.out; clear TAH
    have vx := VXH.out; clear VXH
    have zb := ZB.out; clear ZB
    have kk := SL.later SL_xx.out (by omega) hb; clear SL_xx; have SL_xx := Lib.hid kk; clear kk
    have kk := SL.later SL_xxk.out (by omega) hb; clear SL_xxk; have SL_xxk := Lib.hid kk; clear kk
    have kk := OI.call RI_gs.out hb; clear RI_gs; have RI_gs := Lib.hid kk; clear kk
    have hswb := hb.size
    replace za := has_call za hb
    replace ta := has_call ta hb
    replace vx := has_call vx hb
    replace zb := bthen zb hb; clear hb
    have zac0 := has_cell za 0 rfl; have zac1 := has_cell za 1 rfl
    have zalt := has_lt za
    have tac0 := has_cell ta 0 rfl; have tac1 := has_cell ta 1 rfl; have tac2 := has_cell ta 2 rfl; have tac3 := has_cell ta 3 rfl; have tac4 := has_cell ta 4 rfl; have tac5 := has_cell ta 5 rfl; have tac6 := has_cell ta 6 rfl; have tac7 := has_cell ta 7 rfl
    have talt := has_lt ta
    have vxc0 := has_cell vx 0 rfl; have vxc1 := has_cell vx 1 rfl
    have vxlt := has_lt vx
    have ZAH := Lib.hid za; clear za
    have TAH := Lib.hid ta; clear ta
    have VXH := Lib.hid vx; clear vx
    have ZB := Lib.hid zb; clear zb
    go_wp2_with fail
    clear zac0 zac1 zalt tac0 tac1 tac2 tac3 tac4 tac5 tac6 tac7 talt vxc0 vxc1 vxlt
    have za := ZAH.out; clear ZAH
    have ta := TAH.out; clear TAH
    have vx := VXH.out; clear VXH
    have zb := ZB.out; clear ZB
    refine (toStayS_any _ w.heap.size AF cF L mL zb.size (HL.out.below zb)).mono ?_
    rintro e w10 ⟨ysA, ysn, rfl, hP, hb⟩
    have kk := SL.later SL_xx.out (by omega) hb; clear SL_xx; have SL_xx := Lib.hid kk; clear kk
    have kk := SL.later SL_xxk.out (by omega) hb; clear SL_xxk; have SL_xxk := Lib.hid kk; clear kk
    have kk := OI.call RI_gs.out hb; clear RI_gs; have RI_gs := Lib.hid kk; clear kk
    have hsw10 := hb.size
    replace za := has_call za hb
    replace ta := has_call ta hb
    replace vx := has_call vx hb
    replace zb := bthen zb hb; clear hb
    have RI_ys := Lib.hid (OI.of_or hP); clear hP
    have zac0 := has_cell za 0 rfl; have zac1 := has_cell za 1 rfl
    have zalt := has_lt za
    have tac0 := has_cell ta 0 rfl; have tac1 := has_cell ta 1 rfl; have tac2 := has_cell ta 2 rfl; have tac3 := has_cell ta 3 rfl; have tac4 := has_cell ta 4 rfl; have tac5 := has_cell ta 5 rfl; have tac6 := has_cell ta 6 rfl; have tac7 := has_cell ta 7 rfl
    have talt := has_lt ta
    have vxc0 := has_cell vx 0 rfl; have vxc1 := has_cell vx 1 rfl
    have vxlt := has_lt vx
    have ZAH := Lib.hid za; clear za
    have TAH := Lib.hid ta; clear ta
    have VXH := Lib.hid vx; clear vx
    have ZB := Lib.hid zb; clear zb
    go_wp2_with fail
    clear zac0 zac1 zalt tac0 tac1 tac2 tac3 tac4 tac5 tac6 tac7 talt vxc0 vxc1 vxlt
    have za := ZAH.out; clear ZAH
    have ta := TAH.out; clear TAH
    have vx := VXH.out; clear VXH
    have zb := ZB.out; clear ZB
    refine (eqStayS_any _ w10.heap.size w10.heap.size gsA ysA gsn ysn L lL (Nat.le_refl _) (Nat.le_refl _) RI_gs.out.st RI_ys.out.st).mono ?_
    rintro e w11 ⟨rfl, hb⟩
    have kk := SL.later SL_xx.out (by omega) hb; clear SL_xx; have SL_xx := Lib.hid kk; clear kk
    have kk := SL.later SL_xxk.out (by omega) hb; clear SL_xxk; have SL_xxk := Lib.hid kk; clear kk
    have kk := OI.call RI_gs.out hb; clear RI_gs; have RI_gs := Lib.hid kk; clear kk
    have kk := OI.call RI_ys.out hb; clear RI_ys; have RI_ys := Lib.hid kk; clear kk
    have hsw11 := hb.size
    replace za := has_call za hb
    replace ta := has_call ta hb
    replace vx := has_call vx hb
    replace zb := bthen zb hb; clear hb
    have zac0 := has_cell za 0 rfl; have zac1 := has_cell za 1 rfl
    have zalt := has_lt za
    have tac0 := has_cell ta 0 rfl; have tac1 := has_cell ta 1 rfl; have tac2 := has_cell ta 2 rfl; have tac3 := has_cell ta 3 rfl; have tac4 := has_cell ta 4 rfl; have tac5 := has_cell ta 5 rfl; have tac6 := has_cell ta 6 rfl; have tac7 := has_cell ta 7 rfl
    have talt := has_lt ta
    have vxc0 := has_cell vx 0 rfl; have vxc1 := has_cell vx 1 rfl
    have vxlt := has_lt vx
    have ZAH := Lib.hid za; clear za
    have TAH := Lib.hid ta; clear ta
    have VXH := Lib.hid vx; clear vx
    have ZB := Lib.hid zb; clear zb
    go_wp2_with fail
    clear zac0 zac1 zalt tac0 tac1 tac2 tac3 tac4 tac5 tac6 tac7 talt vxc0 vxc1 vxlt
    have za := ZAH.out; clear ZAH
    have ta := TAH.out; clear TAH
    have vx := VXH.out; clear VXH
    have zb := ZB.out; clear ZB
    go_ret
    exact ⟨rfl, zb⟩
  | some V =>
    have nv : (V != V) = false := by simp
    go_enter Try.func6, Try.ntmps6
    go_wp2_with fail
    generalize hX : (w.alloc (.cells #[.slice A o.length n, .slice A' c.length n'] 24)) = w1
    have hb : Below w.heap.size w w1 := by rw [← hX]; exact balloc _ _
    have hk : Has w1 w.heap.size 24 #[.slice A o.length n, .slice A' c.length n'] := by rw [← hX]; exact has_new _ _ _
    have hzw1 : w1.heap.size = w.heap.size + 1 := by rw [← hX]; simp
    clear hX
    have zb := hb; clear hb
    have za := hk; clear hk
    generalize hX : (w1.alloc (.cells #[.int .i64 t.keep, .int .i64 t.free, .int .i64 t.step, .int .i64 t.rate, .int .i64 t.cap, .int .i64 t.longer, .int .i64 t.price, .int .i64 t.most] 26)) = w2
    have hb : Below w1.heap.size w1 w2 := by rw [← hX]; exact balloc _ _
    have hk : Has w2 w1.heap.size 26 #[.int .i64 t.keep, .int .i64 t.free, .int .i64 t.step, .int .i64 t.rate, .int .i64 t.cap, .int .i64 t.longer, .int .i64 t.price, .int .i64 t.most] := by rw [← hX]; exact has_new _ _ _
    have hzw2 : w2.heap.size = w.heap.size + 2 := by rw [← hX]; simp [hzw1]
    clear hX
    rw [hzw1] at hk
    replace za := has_call za hb
    replace zb := bthen zb hb; clear hb
    have ta := hk; clear hk
    clear hzw1 hzw2
    have hsw0 := zb.size
    have zac0 := has_cell za 0 rfl; have zac1 := has_cell za 1 rfl
    have zalt := has_lt za
    have tac0 := has_cell ta 0 rfl; have tac1 := has_cell ta 1 rfl; have tac2 := has_cell ta 2 rfl; have tac3 := has_cell ta 3 rfl; have tac4 := has_cell ta 4 rfl; have tac5 := has_cell ta 5 rfl; have tac6 := has_cell ta 6 rfl; have tac7 := has_cell ta 7 rfl
    have talt := has_lt ta
    have ZAH := Lib.hid za; clear za
    have TAH := Lib.hid ta; clear ta
    have ZB := Lib.hid zb; clear zb
    go_wp2_with fail
    clear zac0 zac1 zalt tac0 tac1 tac2 tac3 tac4 tac5 tac6 tac7 talt
    have za := ZAH.out; clear ZAH
    have ta := TAH.out; clear TAH
    have zb := ZB.out; clear ZB
    refine (szW_any _ A A' o.length n c.length n' 1048576 ho hc (by omega) (by omega)).mono ?_
    rintro e w3 ⟨rfl, hb⟩
    rw [Hs0.out]
    have hsw3 := hb.size
    replace za := has_call za hb
    replace ta := has_call ta hb
    replace zb := bthen zb hb; clear hb
    have zac0 := has_cell za 0 rfl; have zac1 := has_cell za 1 rfl
    have zalt := has_lt za
    have tac0 := has_cell ta 0 rfl; have tac1 := has_cell ta 1 rfl; have tac2 := has_cell ta 2 rfl; have tac3 := has_cell ta 3 rfl; have tac4 := has_cell ta 4 rfl; have tac5 := has_cell ta 5 rfl; have tac6 := has_cell ta 6 rfl; have tac7 := has_cell ta 7 rfl
    have talt := has_lt ta
    have ZAH := Lib.hid za; clear za
    have TAH := Lib.hid ta; clear ta
    have ZB := Lib.hid zb; clear zb
    go_wp2_with fail
    clear zac0 zac1 zalt tac0 tac1 tac2 tac3 tac4 tac5 tac6 tac7 talt
    have za := ZAH.out; clear ZAH
    have ta := TAH.out; clear TAH
    have zb := ZB.out; clear ZB
    refine (szStay_any _ AF L.length cF s0 lL (by omega) (by omega)).mono ?_
    rintro e w4 ⟨rfl, hw⟩
    rw [hw]; clear hw w4
    rw [Hs1.out]
    have zac0 := has_cell za 0 rfl; have zac1 := has_cell za 1 rfl
    have zalt := has_lt za
    have tac0 := has_cell ta 0 rfl; have tac1 := has_cell ta 1 rfl; have tac2 := has_cell ta 2 rfl; have tac3 := has_cell ta 3 rfl; have tac4 := has_cell ta 4 rfl; have tac5 := has_cell ta 5 rfl; have tac6 := has_cell ta 6 rfl; have tac7 := has_cell ta 7 rfl
    have talt := has_lt ta
    have ZAH := Lib.hid za; clear za
    have TAH := Lib.hid ta; clear ta
    have ZB := Lib.hid zb; clear zb
    go_wp2_with fail
    clear zac0 zac1 zalt tac0 tac1 tac2 tac3 tac4 tac5 tac6 tac7 talt
    have za := ZAH.out; clear ZAH
    have ta := TAH.out; clear TAH
    have zb := ZB.out; clear ZB
    have zac0 := has_cell za 0 rfl; have zac1 := has_cell za 1 rfl
    have zalt := has_lt za
    have tac0 := has_cell ta 0 rfl; have tac1 := has_cell ta 1 rfl; have tac2 := has_cell ta 2 rfl; have tac3 := has_cell ta 3 rfl; have tac4 := has_cell ta 4 rfl; have tac5 := has_cell ta 5 rfl; have tac6 := has_cell ta 6 rfl; have tac7 := has_cell ta 7 rfl
    have talt := has_lt ta
    have ZAH := Lib.hid za; clear za
    have TAH := Lib.hid ta; clear ta
    have ZB := Lib.hid zb; clear zb
    try go_wp2_with fail
    have S0 : (fun W : World => (W.cell? ⟨w.heap.size, 0, none⟩ = some (.slice A o.length n) ∧ W.cell? ⟨w.heap.size, 1, none⟩ = some (.slice A' c.length n') ∧ W.cell? ⟨w.heap.size + 1, 0, none⟩ = some (.int .i64 t.keep) ∧ W.cell? ⟨w.heap.size + 1, 1, none⟩ = some (.int .i64 t.free) ∧ W.cell? ⟨w.heap.size + 1, 2, none⟩ = some (.int .i64 t.step) ∧ W.cell? ⟨w.heap.size + 1, 3, none⟩ = some (.int .i64 t.rate) ∧ W.cell? ⟨w.heap.size + 1, 4, none⟩ = some (.int .i64 t.cap) ∧ W.cell? ⟨w.heap.size + 1, 5, none⟩ = some (.int .i64 t.longer) ∧ W.cell? ⟨w.heap.size + 1, 6, none⟩ = some (.int .i64 t.price) ∧ W.cell? ⟨w.heap.size + 1, 7, none⟩ = some (.int .i64 t.most)) ∧ Below w3.heap.size w3 W) w3.drew := ⟨⟨zac0, zac1, tac0, tac1, tac2, tac3, tac4, tac5, tac6, tac7⟩, (Below.refl _ _).drew⟩
    have zc := ZB.out; have zd : Below w.heap.size w w3.drew := zc.drew; have hzz := zc.size
    have hlza9 := zalt
    have hlta9 := talt
    clear zac0 zac1 zalt tac0 tac1 tac2 tac3 tac4 tac5 tac6 tac7 talt
    go_region_held3 (fun W : World => (W.cell? ⟨w.heap.size, 0, none⟩ = some (.slice A o.length n) ∧ W.cell? ⟨w.heap.size, 1, none⟩ = some (.slice A' c.length n') ∧ W.cell? ⟨w.heap.size + 1, 0, none⟩ = some (.int .i64 t.keep) ∧ W.cell? ⟨w.heap.size + 1, 1, none⟩ = some (.int .i64 t.free) ∧ W.cell? ⟨w.heap.size + 1, 2, none⟩ = some (.int .i64 t.step) ∧ W.cell? ⟨w.heap.size + 1, 3, none⟩ = some (.int .i64 t.rate) ∧ W.cell? ⟨w.heap.size + 1, 4, none⟩ = some (.int .i64 t.cap) ∧ W.cell? ⟨w.heap.size + 1, 5, none⟩ = some (.int .i64 t.longer) ∧ W.cell? ⟨w.heap.size + 1, 6, none⟩ = some (.int .i64 t.price) ∧ W.cell? ⟨w.heap.size + 1, 7, none⟩ = some (.int .i64 t.most)) ∧ Below w3.heap.size w3 W) (first | assumption) (first
      | (go_at_call 10; go_must (refine (toWeek_any w3.drew w.heap.size A A' n n' o c lo lc zd.size (HS.out.below zd) (HS'.out.below zd)).mono ?_); rintro e wr1 ⟨u1A, u1B, rfl, h5, h6, h1⟩; have T1 := Lib.hid h5; have T1k := Lib.hid h6; clear h5 h6; have hv1 : Below w3.heap.size w3 wr1 := ((Below.refl w3.heap.size w3).drew).trans h1; have hz1 := hv1.size; have hy1 := h1.size; have S1 : (fun W : World => (W.cell? ⟨w.heap.size, 0, none⟩ = some (.slice A o.length n) ∧ W.cell? ⟨w.heap.size, 1, none⟩ = some (.slice A' c.length n') ∧ W.cell? ⟨w.heap.size + 1, 0, none⟩ = some (.int .i64 t.keep) ∧ W.cell? ⟨w.heap.size + 1, 1, none⟩ = some (.int .i64 t.free) ∧ W.cell? ⟨w.heap.size + 1, 2, none⟩ = some (.int .i64 t.step) ∧ W.cell? ⟨w.heap.size + 1, 3, none⟩ = some (.int .i64 t.rate) ∧ W.cell? ⟨w.heap.size + 1, 4, none⟩ = some (.int .i64 t.cap) ∧ W.cell? ⟨w.heap.size + 1, 5, none⟩ = some (.int .i64 t.longer) ∧ W.cell? ⟨w.heap.size + 1, 6, none⟩ = some (.int .i64 t.price) ∧ W.cell? ⟨w.heap.size + 1, 7, none⟩ = some (.int .i64 t.most)) ∧ Below w3.heap.size w3 W) wr1 := ⟨⟨(bold hv1 _ _ (by omega)).trans S0.1.1, (bold hv1 _ _ (by omega)).trans S0.1.2.1, (bold hv1 _ _ (by omega)).trans S0.1.2.2.1, (bold hv1 _ _ (by omega)).trans S0.1.2.2.2.1, (bold hv1 _ _ (by omega)).trans S0.1.2.2.2.2.1, (bold hv1 _ _ (by omega)).trans S0.1.2.2.2.2.2.1, (bold hv1 _ _ (by omega)).trans S0.1.2.2.2.2.2.2.1, (bold hv1 _ _ (by omega)).trans S0.1.2.2.2.2.2.2.2.1, (bold hv1 _ _ (by omega)).trans S0.1.2.2.2.2.2.2.2.2.1, (bold hv1 _ _ (by omega)).trans S0.1.2.2.2.2.2.2.2.2.2⟩, hv1⟩)
      | (go_at_call 11; go_must (refine (toTerms_any t.keep t.free t.step t.rate t.cap t.longer t.price t.most wr1).mono ?_); rintro e wr2 ⟨rfl, h2⟩; have hv2 : Below w3.heap.size w3 wr2 := bthen hv1 h2; have hz2 := hv2.size; have hy2 := h2.size; have S2 : (fun W : World => (W.cell? ⟨w.heap.size, 0, none⟩ = some (.slice A o.length n) ∧ W.cell? ⟨w.heap.size, 1, none⟩ = some (.slice A' c.length n') ∧ W.cell? ⟨w.heap.size + 1, 0, none⟩ = some (.int .i64 t.keep) ∧ W.cell? ⟨w.heap.size + 1, 1, none⟩ = some (.int .i64 t.free) ∧ W.cell? ⟨w.heap.size + 1, 2, none⟩ = some (.int .i64 t.step) ∧ W.cell? ⟨w.heap.size + 1, 3, none⟩ = some (.int .i64 t.rate) ∧ W.cell? ⟨w.heap.size + 1, 4, none⟩ = some (.int .i64 t.cap) ∧ W.cell? ⟨w.heap.size + 1, 5, none⟩ = some (.int .i64 t.longer) ∧ W.cell? ⟨w.heap.size + 1, 6, none⟩ = some (.int .i64 t.price) ∧ W.cell? ⟨w.heap.size + 1, 7, none⟩ = some (.int .i64 t.most)) ∧ Below w3.heap.size w3 W) wr2 := ⟨⟨(bold hv2 _ _ (by omega)).trans S0.1.1, (bold hv2 _ _ (by omega)).trans S0.1.2.1, (bold hv2 _ _ (by omega)).trans S0.1.2.2.1, (bold hv2 _ _ (by omega)).trans S0.1.2.2.2.1, (bold hv2 _ _ (by omega)).trans S0.1.2.2.2.2.1, (bold hv2 _ _ (by omega)).trans S0.1.2.2.2.2.2.1, (bold hv2 _ _ (by omega)).trans S0.1.2.2.2.2.2.2.1, (bold hv2 _ _ (by omega)).trans S0.1.2.2.2.2.2.2.2.1, (bold hv2 _ _ (by omega)).trans S0.1.2.2.2.2.2.2.2.2.1, (bold hv2 _ _ (by omega)).trans S0.1.2.2.2.2.2.2.2.2.2⟩, hv2⟩)
      | (go_at_call 20; go_must (refine (toStayS_any wr2 w.heap.size AF cF L mL (zc.trans (hv2.mono hzz)).size (HL.out.below (zc.trans (hv2.mono hzz)))).mono ?_); rintro e wr3 ⟨u3A, u3n, rfl, hP, h3⟩; have T3 := Lib.hid hP; clear hP; have hv3 : Below w3.heap.size w3 wr3 := bthen hv2 h3; have hz3 := hv3.size; have hy3 := h3.size; have S3 : (fun W : World => (W.cell? ⟨w.heap.size, 0, none⟩ = some (.slice A o.length n) ∧ W.cell? ⟨w.heap.size, 1, none⟩ = some (.slice A' c.length n') ∧ W.cell? ⟨w.heap.size + 1, 0, none⟩ = some (.int .i64 t.keep) ∧ W.cell? ⟨w.heap.size + 1, 1, none⟩ = some (.int .i64 t.free) ∧ W.cell? ⟨w.heap.size + 1, 2, none⟩ = some (.int .i64 t.step) ∧ W.cell? ⟨w.heap.size + 1, 3, none⟩ = some (.int .i64 t.rate) ∧ W.cell? ⟨w.heap.size + 1, 4, none⟩ = some (.int .i64 t.cap) ∧ W.cell? ⟨w.heap.size + 1, 5, none⟩ = some (.int .i64 t.longer) ∧ W.cell? ⟨w.heap.size + 1, 6, none⟩ = some (.int .i64 t.price) ∧ W.cell? ⟨w.heap.size + 1, 7, none⟩ = some (.int .i64 t.most)) ∧ Below w3.heap.size w3 W) wr3 := ⟨⟨(bold hv3 _ _ (by omega)).trans S0.1.1, (bold hv3 _ _ (by omega)).trans S0.1.2.1, (bold hv3 _ _ (by omega)).trans S0.1.2.2.1, (bold hv3 _ _ (by omega)).trans S0.1.2.2.2.1, (bold hv3 _ _ (by omega)).trans S0.1.2.2.2.2.1, (bold hv3 _ _ (by omega)).trans S0.1.2.2.2.2.2.1, (bold hv3 _ _ (by omega)).trans S0.1.2.2.2.2.2.2.1, (bold hv3 _ _ (by omega)).trans S0.1.2.2.2.2.2.2.2.1, (bold hv3 _ _ (by omega)).trans S0.1.2.2.2.2.2.2.2.2.1, (bold hv3 _ _ (by omega)).trans S0.1.2.2.2.2.2.2.2.2.2⟩, hv3⟩)
      | (go_at_call 19; go_must (refine (billS_any wr3 wr3.heap.size u1A u1B o.length c.length o c t u3A u3n L ho hc (by omega) (SL.more ((T1.out).later (by omega) (bthen h2 h3)) (by omega)) (SL.more ((T1k.out).later (by omega) (bthen h2 h3)) (by omega)) lL ((T3.out.st).more (by omega))).mono ?_); rintro e wr4 ⟨rfl, h4⟩; rw [HV.out]; unfold pairV; have hv4 : Below w3.heap.size w3 wr4 := bthen hv3 h4; have hz4 := hv4.size; have hy4 := h4.size; have S4 : (fun W : World => (W.cell? ⟨w.heap.size, 0, none⟩ = some (.slice A o.length n) ∧ W.cell? ⟨w.heap.size, 1, none⟩ = some (.slice A' c.length n') ∧ W.cell? ⟨w.heap.size + 1, 0, none⟩ = some (.int .i64 t.keep) ∧ W.cell? ⟨w.heap.size + 1, 1, none⟩ = some (.int .i64 t.free) ∧ W.cell? ⟨w.heap.size + 1, 2, none⟩ = some (.int .i64 t.step) ∧ W.cell? ⟨w.heap.size + 1, 3, none⟩ = some (.int .i64 t.rate) ∧ W.cell? ⟨w.heap.size + 1, 4, none⟩ = some (.int .i64 t.cap) ∧ W.cell? ⟨w.heap.size + 1, 5, none⟩ = some (.int .i64 t.longer) ∧ W.cell? ⟨w.heap.size + 1, 6, none⟩ = some (.int .i64 t.price) ∧ W.cell? ⟨w.heap.size + 1, 7, none⟩ = some (.int .i64 t.most)) ∧ Below w3.heap.size w3 W) wr4 := ⟨⟨(bold hv4 _ _ (by omega)).trans S0.1.1, (bold hv4 _ _ (by omega)).trans S0.1.2.1, (bold hv4 _ _ (by omega)).trans S0.1.2.2.1, (bold hv4 _ _ (by omega)).trans S0.1.2.2.2.1, (bold hv4 _ _ (by omega)).trans S0.1.2.2.2.2.1, (bold hv4 _ _ (by omega)).trans S0.1.2.2.2.2.2.1, (bold hv4 _ _ (by omega)).trans S0.1.2.2.2.2.2.2.1, (bold hv4 _ _ (by omega)).trans S0.1.2.2.2.2.2.2.2.1, (bold hv4 _ _ (by omega)).trans S0.1.2.2.2.2.2.2.2.2.1, (bold hv4 _ _ (by omega)).trans S0.1.2.2.2.2.2.2.2.2.2⟩, hv4⟩))
    have hb : Below w3.heap.size w3 wr4 := hv4
    clear S0 S1 S2 S3 S4 zc zd hzz hlza9 hlta9 hz1 hy1 hz2 hy2 hz3 hy3 hz4 hy4
    clear T1 T1k
    clear T3
    clear hv4 h4 hv3 h3 hv2 h2 hv1 h1
    have za := ZAH.out; clear ZAH
    have ta := TAH.out; clear TAH
    have zb := ZB.out; clear ZB
    have hswr4 := hb.size
    replace za := has_call za hb
    replace ta := has_call ta hb
    replace zb := bthen zb hb; clear hb
    skip
    have zac0 := has_cell za 0 rfl; have zac1 := has_cell za 1 rfl
    have zalt := has_lt za
    have tac0 := has_cell ta 0 rfl; have tac1 := has_cell ta 1 rfl; have tac2 := has_cell ta 2 rfl; have tac3 := has_cell ta 3 rfl; have tac4 := has_cell ta 4 rfl; have tac5 := has_cell ta 5 rfl; have tac6 := has_cell ta 6 rfl; have tac7 := has_cell ta 7 rfl
    have talt := has_lt ta
    have ZAH := Lib.hid za; clear za
    have TAH := Lib.hid ta; clear ta
    have ZB := Lib.hid zb; clear zb
    go_wp2_with fail
    clear zac0 zac1 zalt tac0 tac1 tac2 tac3 tac4 tac5 tac6 tac7 talt
    have za := ZAH.out; clear ZAH
    have ta := TAH.out; clear TAH
    have zb := ZB.out; clear ZB
    refine (toWeek_any _ w.heap.size A A' n n' o c lo lc zb.size (HS.out.below zb) (HS'.out.below zb)).mono ?_
    rintro e w6 ⟨xxA, xxB, rfl, h5, h6, hb⟩
    have hsw6 := hb.size
    replace za := has_call za hb
    replace ta := has_call ta hb
    replace zb := bthen zb hb; clear hb
    have SL_xx := Lib.hid h5; have SL_xxk := Lib.hid h6; clear h5 h6
    have zac0 := has_cell za 0 rfl; have zac1 := has_cell za 1 rfl
    have zalt := has_lt za
    have tac0 := has_cell ta 0 rfl; have tac1 := has_cell ta 1 rfl; have tac2 := has_cell ta 2 rfl; have tac3 := has_cell ta 3 rfl; have tac4 := has_cell ta 4 rfl; have tac5 := has_cell ta 5 rfl; have tac6 := has_cell ta 6 rfl; have tac7 := has_cell ta 7 rfl
    have talt := has_lt ta
    have ZAH := Lib.hid za; clear za
    have TAH := Lib.hid ta; clear ta
    have ZB := Lib.hid zb; clear zb
    go_wp2_with fail
    clear zac0 zac1 zalt tac0 tac1 tac2 tac3 tac4 tac5 tac6 tac7 talt
    have za := ZAH.out; clear ZAH
    have ta := TAH.out; clear TAH
    have zb := ZB.out; clear ZB
    generalize hX : (w6.alloc (.cells #[.slice xxA o.length o.length, .slice xxB c.length c.length] 32)) = w7
    have hb : Below w6.heap.size w6 w7 := by rw [← hX]; exact balloc _ _
    have hk : Has w7 w6.heap.size 32 #[.slice xxA o.length o.length, .slice xxB c.length c.length] := by rw [← hX]; exact has_new _ _ _
    clear hX
    have kk := SL.later SL_xx.out (by omega) hb; clear SL_xx; have SL_xx := Lib.hid kk; clear kk
    have kk := SL.later SL_xxk.out (by omega) hb; clear SL_xxk; have SL_xxk := Lib.hid kk; clear kk
    have hsw7 := hb.size
    replace za := has_call za hb
    replace ta := has_call ta hb
    replace zb := bthen zb hb; clear hb
    have vx := hk; clear hk; have hlvx := has_lt vx
    have zac0 := has_cell za 0 rfl; have zac1 := has_cell za 1 rfl
    have zalt := has_lt za
    have tac0 := has_cell ta 0 rfl; have tac1 := has_cell ta 1 rfl; have tac2 := has_cell ta 2 rfl; have tac3 := has_cell ta 3 rfl; have tac4 := has_cell ta 4 rfl; have tac5 := has_cell ta 5 rfl; have tac6 := has_cell ta 6 rfl; have tac7 := has_cell ta 7 rfl
    have talt := has_lt ta
    have vxc0 := has_cell vx 0 rfl; have vxc1 := has_cell vx 1 rfl
    have vxlt := has_lt vx
    have ZAH := Lib.hid za; clear za
    have TAH := Lib.hid ta; clear ta
    have VXH := Lib.hid vx; clear vx
    have ZB := Lib.hid zb; clear zb
    go_wp2_with fail
    clear zac0 zac1 zalt tac0 tac1 tac2 tac3 tac4 tac5 tac6 tac7 talt vxc0 vxc1 vxlt
    have za := ZAH.out; clear ZAH
    have ta := TAH.out; clear TAH
    have vx := VXH.out; clear VXH
    have zb := ZB.out; clear ZB
    refine (toStayS_any _ w.heap.size AF cF L mL zb.size (HL.out.below zb)).mono ?_
    rintro e w8 ⟨gsA, gsn, rfl, hP, hb⟩
    have kk := SL.later SL_xx.out (by omega) hb; clear SL_xx; have SL_xx := Lib.hid kk; clear kk
    have kk := SL.later SL_xxk.out (by omega) hb; clear SL_xxk; have SL_xxk := Lib.hid kk; clear kk
    have hsw8 := hb.size
    replace za := has_call za hb
    replace ta := has_call ta hb
    replace vx := has_call vx hb
    replace zb := bthen zb hb; clear hb
    have RI_gs := Lib.hid (OI.of_or hP); clear hP
    have zac0 := has_cell za 0 rfl; have zac1 := has_cell za 1 rfl
    have zalt := has_lt za
    have tac0 := has_cell ta 0 rfl; have tac1 := has_cell ta 1 rfl; have tac2 := has_cell ta 2 rfl; have tac3 := has_cell ta 3 rfl; have tac4 := has_cell ta 4 rfl; have tac5 := has_cell ta 5 rfl; have tac6 := has_cell ta 6 rfl; have tac7 := has_cell ta 7 rfl
    have talt := has_lt ta
    have vxc0 := has_cell vx 0 rfl; have vxc1 := has_cell vx 1 rfl
    have vxlt := has_lt vx
    have ZAH := Lib.hid za; clear za
    have TAH := Lib.hid ta; clear ta
    have VXH := Lib.hid vx; clear vx
    have ZB := Lib.hid zb; clear zb
    go_wp2_with fail
    clear zac0 zac1 zalt tac0 tac1 tac2 tac3 tac4 tac5 tac6 tac7 talt vxc0 vxc1 vxlt
    have za := ZAH.out; clear ZAH
    have ta := TAH.out; clear TAH
    have vx := VXH.out; clear VXH
    have zb := ZB.out; clear ZB
    have vxc0 := has_cell vx 0 rfl; have vxc1 := has_cell vx 1 rfl
    have vxlt := has_lt vx
    have tac0 := has_cell ta 0 rfl; have tac1 := has_cell ta 1 rfl; have tac2 := has_cell ta 2 rfl; have tac3 := has_cell ta 3 rfl; have tac4 := has_cell ta 4 rfl; have tac5 := has_cell ta 5 rfl; have tac6 := has_cell ta 6 rfl; have tac7 := has_cell ta 7 rfl
    have talt := has_lt ta
    have ZAH := Lib.hid za; clear za
    have TAH := Lib.hid ta; clear ta
    have VXH := Lib.hid vx; clear vx
    have ZB := Lib.hid zb; clear zb
    try go_wp2_with fail
    have S0 : (fun W : World => (W.cell? ⟨w6.heap.size, 0, none⟩ = some (.slice xxA o.length o.length) ∧ W.cell? ⟨w6.heap.size, 1, none⟩ = some (.slice xxB c.length c.length) ∧ W.cell? ⟨w.heap.size + 1, 0, none⟩ = some (.int .i64 t.keep) ∧ W.cell? ⟨w.heap.size + 1, 1, none⟩ = some (.int .i64 t.free) ∧ W.cell? ⟨w.heap.size + 1, 2, none⟩ = some (.int .i64 t.step) ∧ W.cell? ⟨w.heap.size + 1, 3, none⟩ = some (.int .i64 t.rate) ∧ W.cell? ⟨w.heap.size + 1, 4, none⟩ = some (.int .i64 t.cap) ∧ W.cell? ⟨w.heap.size + 1, 5, none⟩ = some (.int .i64 t.longer) ∧ W.cell? ⟨w.heap.size + 1, 6, none⟩ = some (.int .i64 t.price) ∧ W.cell? ⟨w.heap.size + 1, 7, none⟩ = some (.int .i64 t.most)) ∧ Below w8.heap.size w8 W) w8.drew := ⟨⟨vxc0, vxc1, tac0, tac1, tac2, tac3, tac4, tac5, tac6, tac7⟩, (Below.refl _ _).drew⟩
    have zc := ZB.out; have zd : Below w.heap.size w w8.drew := zc.drew; have hzz := zc.size
    have hlvx9 := vxlt
    have hlta9 := talt
    clear vxc0 vxc1 vxlt tac0 tac1 tac2 tac3 tac4 tac5 tac6 tac7 talt
    go_region_held3 (fun W : World => (W.cell? ⟨w6.heap.size, 0, none⟩ = some (.slice xxA o.length o.length) ∧ W.cell? ⟨w6.heap.size, 1, none⟩ = some (.slice xxB c.length c.length) ∧ W.cell? ⟨w.heap.size + 1, 0, none⟩ = some (.int .i64 t.keep) ∧ W.cell? ⟨w.heap.size + 1, 1, none⟩ = some (.int .i64 t.free) ∧ W.cell? ⟨w.heap.size + 1, 2, none⟩ = some (.int .i64 t.step) ∧ W.cell? ⟨w.heap.size + 1, 3, none⟩ = some (.int .i64 t.rate) ∧ W.cell? ⟨w.heap.size + 1, 4, none⟩ = some (.int .i64 t.cap) ∧ W.cell? ⟨w.heap.size + 1, 5, none⟩ = some (.int .i64 t.longer) ∧ W.cell? ⟨w.heap.size + 1, 6, none⟩ = some (.int .i64 t.price) ∧ W.cell? ⟨w.heap.size + 1, 7, none⟩ = some (.int .i64 t.most)) ∧ Below w8.heap.size w8 W) (first | assumption) (first
      | (go_at_call 11; go_must (refine (toTerms_any t.keep t.free t.step t.rate t.cap t.longer t.price t.most w8.drew).mono ?_); rintro e wr1 ⟨rfl, h1⟩; have hv1 : Below w8.heap.size w8 wr1 := ((Below.refl w8.heap.size w8).drew).trans h1; have hz1 := hv1.size; have hy1 := h1.size; have S1 : (fun W : World => (W.cell? ⟨w6.heap.size, 0, none⟩ = some (.slice xxA o.length o.length) ∧ W.cell? ⟨w6.heap.size, 1, none⟩ = some (.slice xxB c.length c.length) ∧ W.cell? ⟨w.heap.size + 1, 0, none⟩ = some (.int .i64 t.keep) ∧ W.cell? ⟨w.heap.size + 1, 1, none⟩ = some (.int .i64 t.free) ∧ W.cell? ⟨w.heap.size + 1, 2, none⟩ = some (.int .i64 t.step) ∧ W.cell? ⟨w.heap.size + 1, 3, none⟩ = some (.int .i64 t.rate) ∧ W.cell? ⟨w.heap.size + 1, 4, none⟩ = some (.int .i64 t.cap) ∧ W.cell? ⟨w.heap.size + 1, 5, none⟩ = some (.int .i64 t.longer) ∧ W.cell? ⟨w.heap.size + 1, 6, none⟩ = some (.int .i64 t.price) ∧ W.cell? ⟨w.heap.size + 1, 7, none⟩ = some (.int .i64 t.most)) ∧ Below w8.heap.size w8 W) wr1 := ⟨⟨(bold hv1 _ _ (by omega)).trans S0.1.1, (bold hv1 _ _ (by omega)).trans S0.1.2.1, (bold hv1 _ _ (by omega)).trans S0.1.2.2.1, (bold hv1 _ _ (by omega)).trans S0.1.2.2.2.1, (bold hv1 _ _ (by omega)).trans S0.1.2.2.2.2.1, (bold hv1 _ _ (by omega)).trans S0.1.2.2.2.2.2.1, (bold hv1 _ _ (by omega)).trans S0.1.2.2.2.2.2.2.1, (bold hv1 _ _ (by omega)).trans S0.1.2.2.2.2.2.2.2.1, (bold hv1 _ _ (by omega)).trans S0.1.2.2.2.2.2.2.2.2.1, (bold hv1 _ _ (by omega)).trans S0.1.2.2.2.2.2.2.2.2.2⟩, hv1⟩)
      | (go_at_call 21; go_must (refine (billI_any wr1 w8.heap.size xxA xxB o.length c.length o c t gsA gsn L ho hc (by omega) (SL.later (SL.more SL_xx.out (show _ ≤ w8.heap.size by omega)) (Nat.le_refl _) hv1) (SL.later (SL.more SL_xxk.out (show _ ≤ w8.heap.size by omega)) (Nat.le_refl _) hv1) lL ((RI_gs.out.st).later (Nat.le_refl _) hv1)).mono ?_); rintro e wr2 ⟨rfl, h2⟩; rw [HV.out]; unfold pairV; have hv2 : Below w8.heap.size w8 wr2 := bthen hv1 h2; have hz2 := hv2.size; have hy2 := h2.size; have S2 : (fun W : World => (W.cell? ⟨w6.heap.size, 0, none⟩ = some (.slice xxA o.length o.length) ∧ W.cell? ⟨w6.heap.size, 1, none⟩ = some (.slice xxB c.length c.length) ∧ W.cell? ⟨w.heap.size + 1, 0, none⟩ = some (.int .i64 t.keep) ∧ W.cell? ⟨w.heap.size + 1, 1, none⟩ = some (.int .i64 t.free) ∧ W.cell? ⟨w.heap.size + 1, 2, none⟩ = some (.int .i64 t.step) ∧ W.cell? ⟨w.heap.size + 1, 3, none⟩ = some (.int .i64 t.rate) ∧ W.cell? ⟨w.heap.size + 1, 4, none⟩ = some (.int .i64 t.cap) ∧ W.cell? ⟨w.heap.size + 1, 5, none⟩ = some (.int .i64 t.longer) ∧ W.cell? ⟨w.heap.size + 1, 6, none⟩ = some (.int .i64 t.price) ∧ W.cell? ⟨w.heap.size + 1, 7, none⟩ = some (.int .i64 t.most)) ∧ Below w8.heap.size w8 W) wr2 := ⟨⟨(bold hv2 _ _ (by omega)).trans S0.1.1, (bold hv2 _ _ (by omega)).trans S0.1.2.1, (bold hv2 _ _ (by omega)).trans S0.1.2.2.1, (bold hv2 _ _ (by omega)).trans S0.1.2.2.2.1, (bold hv2 _ _ (by omega)).trans S0.1.2.2.2.2.1, (bold hv2 _ _ (by omega)).trans S0.1.2.2.2.2.2.1, (bold hv2 _ _ (by omega)).trans S0.1.2.2.2.2.2.2.1, (bold hv2 _ _ (by omega)).trans S0.1.2.2.2.2.2.2.2.1, (bold hv2 _ _ (by omega)).trans S0.1.2.2.2.2.2.2.2.2.1, (bold hv2 _ _ (by omega)).trans S0.1.2.2.2.2.2.2.2.2.2⟩, hv2⟩))
    have hb : Below w8.heap.size w8 wr2 := hv2
    clear S0 S1 S2 zc zd hzz hlvx9 hlta9 hz1 hy1 hz2 hy2
    clear hv2 h2 hv1 h1
    have za := ZAH.out; clear ZAH
    have ta := TAH.out; clear TAH
    have vx := VXH.out; clear VXH
    have zb := ZB.out; clear ZB
    have kk := SL.later SL_xx.out (by omega) hb; clear SL_xx; have SL_xx := Lib.hid kk; clear kk
    have kk := SL.later SL_xxk.out (by omega) hb; clear SL_xxk; have SL_xxk := Lib.hid kk; clear kk
    have kk := OI.call RI_gs.out hb; clear RI_gs; have RI_gs := Lib.hid kk; clear kk
    have hswr2 := hb.size
    replace za := has_call za hb
    replace ta := has_call ta hb
    replace vx := has_call vx hb
    replace zb := bthen zb hb; clear hb
    skip
    have zac0 := has_cell za 0 rfl; have zac1 := has_cell za 1 rfl
    have zalt := has_lt za
    have tac0 := has_cell ta 0 rfl; have tac1 := has_cell ta 1 rfl; have tac2 := has_cell ta 2 rfl; have tac3 := has_cell ta 3 rfl; have tac4 := has_cell ta 4 rfl; have tac5 := has_cell ta 5 rfl; have tac6 := has_cell ta 6 rfl; have tac7 := has_cell ta 7 rfl
    have talt := has_lt ta
    have vxc0 := has_cell vx 0 rfl; have vxc1 := has_cell vx 1 rfl
    have vxlt := has_lt vx
    have ZAH := Lib.hid za; clear za
    have TAH := Lib.hid ta; clear ta
    have VXH := Lib.hid vx; clear vx
    have ZB := Lib.hid zb; clear zb
    try go_wp2_with fail
    have S0 : (fun W : World => (W.cell? ⟨w.heap.size, 0, none⟩ = some (.slice A o.length n) ∧ W.cell? ⟨w.heap.size, 1, none⟩ = some (.slice A' c.length n') ∧ W.cell? ⟨w6.heap.size, 0, none⟩ = some (.slice xxA o.length o.length) ∧ W.cell? ⟨w6.heap.size, 1, none⟩ = some (.slice xxB c.length c.length)) ∧ Below wr2.heap.size wr2 W) wr2.drew := ⟨⟨zac0, zac1, vxc0, vxc1⟩, (Below.refl _ _).drew⟩
    have zc := ZB.out; have zd : Below w.heap.size w wr2.drew := zc.drew; have hl1 := zalt; have hl2 := vxlt; have hzz := zc.size
    clear zac0 zac1 zalt tac0 tac1 tac2 tac3 tac4 tac5 tac6 tac7 talt vxc0 vxc1 vxlt
    go_region_held3 (fun W : World => (W.cell? ⟨w.heap.size, 0, none⟩ = some (.slice A o.length n) ∧ W.cell? ⟨w.heap.size, 1, none⟩ = some (.slice A' c.length n') ∧ W.cell? ⟨w6.heap.size, 0, none⟩ = some (.slice xxA o.length o.length) ∧ W.cell? ⟨w6.heap.size, 1, none⟩ = some (.slice xxB c.length c.length)) ∧ Below wr2.heap.size wr2 W) (first | assumption) (first
      | (go_at_call 10; go_must (refine (toWeek_any wr2.drew w.heap.size A A' n n' o c lo lc zd.size (HS.out.below zd) (HS'.out.below zd)).mono ?_); rintro e wa ⟨xyA, xyB, rfl, h5, h6, hb6⟩; have T1 := Lib.hid h5; have T2 := Lib.hid h6; clear h5 h6; have hb7 : Below wr2.heap.size wr2 wa := ((Below.refl wr2.heap.size wr2).drew).trans hb6; have hz7 := hb7.size; clear hb6; have S6 : (fun W : World => (W.cell? ⟨w.heap.size, 0, none⟩ = some (.slice A o.length n) ∧ W.cell? ⟨w.heap.size, 1, none⟩ = some (.slice A' c.length n') ∧ W.cell? ⟨w6.heap.size, 0, none⟩ = some (.slice xxA o.length o.length) ∧ W.cell? ⟨w6.heap.size, 1, none⟩ = some (.slice xxB c.length c.length)) ∧ Below wr2.heap.size wr2 W) wa := ⟨⟨(bold hb7 _ _ (by omega)).trans S0.1.1, (bold hb7 _ _ (by omega)).trans S0.1.2.1, (bold hb7 _ _ (by omega)).trans S0.1.2.2.1, (bold hb7 _ _ (by omega)).trans S0.1.2.2.2⟩, hb7⟩)
      | (go_at_call 13; go_must (refine (eqWeek_any wa w6.heap.size wa.heap.size xxA xxB xyA xyB o.length c.length o.length c.length o c ho hc (by omega) (Nat.le_refl _) (SL.later SL_xx.out (by omega) hb7) (SL.later SL_xxk.out (by omega) hb7) T1.out T2.out).mono ?_); rintro e wb ⟨rfl, hb8⟩; have hb9 := bthen hb7 hb8; have S7 : (fun W : World => (W.cell? ⟨w.heap.size, 0, none⟩ = some (.slice A o.length n) ∧ W.cell? ⟨w.heap.size, 1, none⟩ = some (.slice A' c.length n') ∧ W.cell? ⟨w6.heap.size, 0, none⟩ = some (.slice xxA o.length o.length) ∧ W.cell? ⟨w6.heap.size, 1, none⟩ = some (.slice xxB c.length c.length)) ∧ Below wr2.heap.size wr2 W) wb := ⟨⟨(bold hb9 _ _ (by omega)).trans S0.1.1, (bold hb9 _ _ (by omega)).trans S0.1.2.1, (bold hb9 _ _ (by omega)).trans S0.1.2.2.1, (bold hb9 _ _ (by omega)).trans S0.1.2.2.2⟩, hb9⟩))
    have hb := S7.2
    clear S0 S6 S7 zc zd T1 T2 hb9
    have za := ZAH.out; clear ZAH
    have ta := TAH.out; clear TAH
    have vx := VXH.out; clear VXH
    have zb := ZB.out; clear ZB
    have kk := SL.later SL_xx.out (by omega) hb; clear SL_xx; have SL_xx := Lib.hid kk; clear kk
    have kk := SL.later SL_xxk.out (by omega) hb; clear SL_xxk; have SL_xxk := Lib.hid kk; clear kk
    have kk := OI.call RI_gs.out hb; clear RI_gs; have RI_gs := Lib.hid kk; clear kk
    have hswb := hb.size
    replace za := has_call za hb
    replace ta := has_call ta hb
    replace vx := has_call vx hb
    replace zb := bthen zb hb; clear hb
    have zac0 := has_cell za 0 rfl; have zac1 := has_cell za 1 rfl
    have zalt := has_lt za
    have tac0 := has_cell ta 0 rfl; have tac1 := has_cell ta 1 rfl; have tac2 := has_cell ta 2 rfl; have tac3 := has_cell ta 3 rfl; have tac4 := has_cell ta 4 rfl; have tac5 := has_cell ta 5 rfl; have tac6 := has_cell ta 6 rfl; have tac7 := has_cell ta 7 rfl
    have talt := has_lt ta
    have vxc0 := has_cell vx 0 rfl; have vxc1 := has_cell vx 1 rfl
    have vxlt := has_lt vx
    have ZAH := Lib.hid za; clear za
    have TAH := Lib.hid ta; clear ta
    have VXH := Lib.hid vx; clear vx
    have ZB := Lib.hid zb; clear zb
    go_wp2_with fail
    clear zac0 zac1 zalt tac0 tac1 tac2 tac3 tac4 tac5 tac6 tac7 talt vxc0 vxc1 vxlt
    have za := ZAH.out; clear ZAH
    have ta := TAH.out; clear TAH
    have vx := VXH.out; clear VXH
    have zb := ZB.out; clear ZB
    refine (toStayS_any _ w.heap.size AF cF L mL zb.size (HL.out.below zb)).mono ?_
    rintro e w10 ⟨ysA, ysn, rfl, hP, hb⟩
    have kk := SL.later SL_xx.out (by omega) hb; clear SL_xx; have SL_xx := Lib.hid kk; clear kk
    have kk := SL.later SL_xxk.out (by omega) hb; clear SL_xxk; have SL_xxk := Lib.hid kk; clear kk
    have kk := OI.call RI_gs.out hb; clear RI_gs; have RI_gs := Lib.hid kk; clear kk
    have hsw10 := hb.size
    replace za := has_call za hb
    replace ta := has_call ta hb
    replace vx := has_call vx hb
    replace zb := bthen zb hb; clear hb
    have RI_ys := Lib.hid (OI.of_or hP); clear hP
    have zac0 := has_cell za 0 rfl; have zac1 := has_cell za 1 rfl
    have zalt := has_lt za
    have tac0 := has_cell ta 0 rfl; have tac1 := has_cell ta 1 rfl; have tac2 := has_cell ta 2 rfl; have tac3 := has_cell ta 3 rfl; have tac4 := has_cell ta 4 rfl; have tac5 := has_cell ta 5 rfl; have tac6 := has_cell ta 6 rfl; have tac7 := has_cell ta 7 rfl
    have talt := has_lt ta
    have vxc0 := has_cell vx 0 rfl; have vxc1 := has_cell vx 1 rfl
    have vxlt := has_lt vx
    have ZAH := Lib.hid za; clear za
    have TAH := Lib.hid ta; clear ta
    have VXH := Lib.hid vx; clear vx
    have ZB := Lib.hid zb; clear zb
    go_wp2_with fail
    clear zac0 zac1 zalt tac0 tac1 tac2 tac3 tac4 tac5 tac6 tac7 talt vxc0 vxc1 vxlt
    have za := ZAH.out; clear ZAH
    have ta := TAH.out; clear TAH
    have vx := VXH.out; clear VXH
    have zb := ZB.out; clear ZB
    refine (eqStayS_any _ w10.heap.size w10.heap.size gsA ysA gsn ysn L lL (Nat.le_refl _) (Nat.le_refl _) RI_gs.out.st RI_ys.out.st).mono ?_
    rintro e w11 ⟨rfl, hb⟩
    have kk := SL.later SL_xx.out (by omega) hb; clear SL_xx; have SL_xx := Lib.hid kk; clear kk
    have kk := SL.later SL_xxk.out (by omega) hb; clear SL_xxk; have SL_xxk := Lib.hid kk; clear kk
    have kk := OI.call RI_gs.out hb; clear RI_gs; have RI_gs := Lib.hid kk; clear kk
    have kk := OI.call RI_ys.out hb; clear RI_ys; have RI_ys := Lib.hid kk; clear kk
    have hsw11 := hb.size
    replace za := has_call za hb
    replace ta := has_call ta hb
    replace vx := has_call vx hb
    replace zb := bthen zb hb; clear hb
    have zac0 := has_cell za 0 rfl; have zac1 := has_cell za 1 rfl
    have zalt := has_lt za
    have tac0 := has_cell ta 0 rfl; have tac1 := has_cell ta 1 rfl; have tac2 := has_cell ta 2 rfl; have tac3 := has_cell ta 3 rfl; have tac4 := has_cell ta 4 rfl; have tac5 := has_cell ta 5 rfl; have tac6 := has_cell ta 6 rfl; have tac7 := has_cell ta 7 rfl
    have talt := has_lt ta
    have vxc0 := has_cell vx 0 rfl; have vxc1 := has_cell vx 1 rfl
    have vxlt := has_lt vx
    have ZAH := Lib.hid za; clear za
    have TAH := Lib.hid ta; clear ta
    have VXH := Lib.hid vx; clear vx
    have ZB := Lib.hid zb; clear zb
    go_wp2_with fail
    clear zac0 zac1 zalt tac0 tac1 tac2 tac3 tac4 tac5 tac6 tac7 talt vxc0 vxc1 vxlt
    have za := ZAH.out; clear ZAH
    have ta := TAH.out; clear TAH
    have vx := VXH.out; clear VXH
    have zb := ZB.out; clear ZB
    go_ret
    exact ⟨rfl, zb⟩
end Go.Proofs.Ythdncneahdiieaa
