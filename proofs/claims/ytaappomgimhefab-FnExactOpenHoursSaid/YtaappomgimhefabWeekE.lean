/- Chapter 1: the walks of the exact laws over weeks, over the contracts of what they call. -/
import Derived.Test.YtaappomgimhefabWeekD
import Derived.Test.YtaappomgimhefabOpen
import Derived.Deep.RegionHeld3
import Derived.Deep.DeepMust
namespace Go.Proofs.Ytaappomgimhefab
open Go.RowKit Go.ChangeShapes Go.WideShapes Go.Deep Go.Joins
set_option linter.unusedVariables false

section
variable {H : Type} {enc : TypeId × Value → H} {P : Program} {w : World} {base : Nat} {spare : Nat → Bool} {held : Bool}
theorem open_week_arg {r : Reach} {b0 : Nat} {tw : TypeId} {g0 g1 : Field} {t e : TypeId} {f0 f1 : Field} {v : Value} {d : DataW H} {p : List MemPlace} (hs : P.underlying tw = some (.struct #[g0, g1])) (honew : oneCellFields P #[g0, g1] = true) (hCw : P.cellsOf tw = 2)
    (hg0 : g0.type = t) (hg1 : g1.type = t) (ht : P.underlying t = some (.slice e)) (he : P.underlying e = some (.struct #[f0, f1])) (hone : oneCellFields P #[f0, f1] = true) (hC : P.cellsOf e = 2)
    (h0 : P.underlying f0.type = some (.int .i64)) (h1 : P.underlying f1.type = some (.int .i64)) (hv : Value.okWide P w r b0 tw v) (h : DataW.Trod enc P w base spare held tw v d p) :
    ∃ (A A' : Option Addr) (n n' : Nat) (o c : List (Int × Int)), v = .agg #[.slice A o.length n, .slice A' c.length n'] ∧ o.length ≤ maxLen ∧ c.length ≤ maxLen ∧ SL w w.heap.size A o ∧ SL w w.heap.size A' c := by
  obtain ⟨v0, v1, y0, y1, n, rfl, _, _, t0, t1⟩ := open_agg2 hs honew hCw hv h
  rw [hg0] at t0
  rw [hg1] at t1
  obtain ⟨A, m, o, e0, l0, S0⟩ := open_pairs ht he hone hC h0 h1 t0
  obtain ⟨A', m', c, e1, l1, S1⟩ := open_pairs ht he hone hC h0 h1 t1
  simp only [List.cons.injEq, and_true] at e0 e1
  subst e0 e1
  exact ⟨A, A', m, m', o, c, rfl, l0, l1, S0, S1⟩
end
theorem eq_ne {a b : Bool} (h : a = b) : (a != b) = false := by subst h; simp


set_option maxHeartbeats 1000000 in
theorem weekLaw_walk (A A' : Option Addr) (n n' : Nat) (o c : List (Int × Int)) (w : World) (ho : o.length ≤ maxLen) (hc : c.length ≤ maxLen) (hS : SL w w.heap.size A o) (hS' : SL w w.heap.size A' c) :
    Calls Try.prog 4 #[.agg #[.slice A o.length n, .slice A' c.length n']] w fun e w' => e = .returned (.bool true) ∧ Below w.heap.size w w' := by
  have HS := Lib.hid hS; clear hS
  have HS' := Lib.hid hS'; clear hS'
  by_cases hbig : szW 1048576 o.length c.length < 0
  · obtain ⟨s, hs⟩ : ∃ s, szW 1048576 o.length c.length = s := ⟨_, rfl⟩
    rw [hs] at hbig
    have Hs := Lib.hid hs; clear hs
    go_enter Try.func4, Try.ntmps4
    go_wp2_with fail
    generalize hW0 : (w.alloc (.cells #[.slice A o.length n, .slice A' c.length n'] 30)) = w0
    have b0 : Below w.heap.size w w0 := by rw [← hW0]; exact balloc _ _
    have k0 : Has w0 w.heap.size 30 #[.slice A o.length n, .slice A' c.length n'] := by rw [← hW0]; exact has_new _ _ _
    clear hW0
    have e0 := has_cell k0 0 rfl
    have e1 := has_cell k0 1 rfl
    have K0 := Lib.hid k0; clear k0
    refine (szW_any w0 A A' o.length n c.length n' 1048576 ho hc (by omega) (by omega)).mono ?_
    rintro e w1 ⟨rfl, hb1⟩
    rw [Hs.out]
    go_wp2_with fail
    go_ret
    exact ⟨rfl, bthen b0 hb1⟩
  · have hlen : o.length ≤ 1048576 ∧ c.length ≤ 1048576 := by
      unfold szW szI at hbig
      split at hbig
      · omega
      · split at hbig <;> omega
    obtain ⟨lo, lc⟩ := hlen
    obtain ⟨s, hs⟩ : ∃ s, szW 1048576 o.length c.length = s := ⟨_, rfl⟩
    rw [hs] at hbig
    have Hs := Lib.hid hs; clear hs
    obtain ⟨q, hq⟩ : ∃ q, weekB o c = q := ⟨_, rfl⟩
    have hqq : (q != q) = false := by simp
    have Hq := Lib.hid hq; clear hq
    go_enter Try.func4, Try.ntmps4
    go_wp2_with fail
    generalize hW0 : (w.alloc (.cells #[.slice A o.length n, .slice A' c.length n'] 30)) = w0
    have b0 : Below w.heap.size w w0 := by rw [← hW0]; exact balloc _ _
    have k0 : Has w0 w.heap.size 30 #[.slice A o.length n, .slice A' c.length n'] := by rw [← hW0]; exact has_new _ _ _
    clear hW0
    have e0 := has_cell k0 0 rfl
    have e1 := has_cell k0 1 rfl
    have K0 := Lib.hid k0; clear k0
    refine (szW_any w0 A A' o.length n c.length n' 1048576 ho hc (by omega) (by omega)).mono ?_
    rintro e w1 ⟨rfl, hb1⟩
    rw [Hs.out]
    clear e0 e1
    have c1 := bthen b0 hb1
    have k1 := has_call K0.out hb1
    have e0 := has_cell k1 0 rfl
    have e1 := has_cell k1 1 rfl
    have K1 := Lib.hid k1; clear k1
    go_wp2_with fail
    refine (toWeek_any w1 w.heap.size A A' n n' o c lo lc c1.size (HS.out.below c1) (HS'.out.below c1)).mono ?_
    rintro e w2 ⟨B2, B2', rfl, hS2, hS2', hb2⟩
    have HB2 := Lib.hid hS2; clear hS2
    have HB2' := Lib.hid hS2'; clear hS2'
    clear e0 e1
    have c2 := bthen c1 hb2
    have k2 := has_call K1.out hb2
    have e0 := has_cell k2 0 rfl
    have e1 := has_cell k2 1 rfl
    have K2 := Lib.hid k2; clear k2
    go_wp2_with fail
    refine (weekS_any w2 w2.heap.size B2 B2' o.length c.length o c  ho hc (Nat.le_refl _) HB2.out HB2'.out).mono ?_
    rintro e w3 ⟨rfl, hb3⟩
    rw [Hq.out]
    clear e0 e1
    have c3 := bthen c2 hb3
    have k3 := has_call K2.out hb3
    have e0 := has_cell k3 0 rfl
    have e1 := has_cell k3 1 rfl
    have K3 := Lib.hid k3; clear k3
    go_wp2_with fail
    refine (toWeek_any w3 w.heap.size A A' n n' o c lo lc c3.size (HS.out.below c3) (HS'.out.below c3)).mono ?_
    rintro e w4 ⟨B4, B4', rfl, hS4, hS4', hb4⟩
    have HB4 := Lib.hid hS4; clear hS4
    have HB4' := Lib.hid hS4'; clear hS4'
    clear e0 e1
    have c4 := bthen c3 hb4
    have k4 := has_call K3.out hb4
    have e0 := has_cell k4 0 rfl
    have e1 := has_cell k4 1 rfl
    have K4 := Lib.hid k4; clear k4
    go_wp2_with fail
    generalize hX : (w4.alloc (.cells #[.slice B4 o.length o.length, .slice B4' c.length c.length] 34)) = x4
    have bx : Below w4.heap.size w4 x4 := by rw [← hX]; exact balloc _ _
    have kx : Has x4 w4.heap.size 34 #[.slice B4 o.length o.length, .slice B4' c.length c.length] := by rw [← hX]; exact has_new _ _ _
    clear hX
    clear e0 e1
    have cx := bthen c4 bx
    have kk := has_call K4.out bx
    have e0 := has_cell kk 0 rfl
    have e1 := has_cell kk 1 rfl
    have x0 := has_cell kx 0 rfl
    have x1 := has_cell kx 1 rfl
    have KK := Lib.hid kk; clear kk
    have KX := Lib.hid kx; clear kx
    try go_wp2_with fail
    refine (weekI_any x4 w4.heap.size B4 B4' o.length c.length o c  ho hc bx.size (HB4.out.below bx) (HB4'.out.below bx)).mono ?_
    rintro e w5 ⟨rfl, hb5⟩
    rw [Hq.out]
    clear e0 e1
    have c5 := bthen cx hb5
    have k5 := has_call KK.out hb5
    have e0 := has_cell k5 0 rfl
    have e1 := has_cell k5 1 rfl
    have K5 := Lib.hid k5; clear k5
    clear x0 x1
    have x0 := has_cell (has_call KX.out hb5) 0 rfl
    have x1 := has_cell (has_call KX.out hb5) 1 rfl
    try go_wp2_with fail
    have c5d : Below w.heap.size w w5.drew := c5.drew
    have S0 : (fun W : World => (W.cell? ⟨w.heap.size, 0, none⟩ = some (.slice A o.length n) ∧ W.cell? ⟨w.heap.size, 1, none⟩ = some (.slice A' c.length n') ∧ W.cell? ⟨w4.heap.size, 0, none⟩ = some (.slice B4 o.length o.length) ∧ W.cell? ⟨w4.heap.size, 1, none⟩ = some (.slice B4' c.length c.length)) ∧ Below w5.heap.size w5 W) w5.drew := ⟨⟨e0, e1, x0, x1⟩, (Below.refl _ _).drew⟩
    have C5 := Lib.hid c5; clear c5
    have HB5 := Lib.hid hb5; clear hb5
    clear cx c4 hb4 hb1 hb2 hb3 c1 c2 c3
    have BX := Lib.hid bx; clear bx
    have hzx : w4.heap.size < x4.heap.size := has_lt KX.out
    have hz5 := HB5.out.size
    have hz6 := C5.out.size
    have hzk : w.heap.size < w5.heap.size := has_lt K5.out
    clear e0 e1 x0 x1
    go_region_held3 (fun W : World => (W.cell? ⟨w.heap.size, 0, none⟩ = some (.slice A o.length n) ∧ W.cell? ⟨w.heap.size, 1, none⟩ = some (.slice A' c.length n') ∧ W.cell? ⟨w4.heap.size, 0, none⟩ = some (.slice B4 o.length o.length) ∧ W.cell? ⟨w4.heap.size, 1, none⟩ = some (.slice B4' c.length c.length)) ∧ Below w5.heap.size w5 W) (first | assumption) (first
      | (go_at_call 16; go_must (refine (toWeek_any w5.drew w.heap.size A A' n n' o c lo lc c5d.size (HS.out.below c5d) (HS'.out.below c5d)).mono ?_); rintro e w6 ⟨B6, B6', rfl, hS6, hS6', hb6⟩; have HB6 := Lib.hid hS6; have HB6' := Lib.hid hS6'; clear hS6 hS6'; have hb56 : Below w5.heap.size w5 w6 := ((Below.refl w5.heap.size w5).drew).trans hb6; have hz56 := hb56.size; clear hb6; have S6 : (fun W : World => (W.cell? ⟨w.heap.size, 0, none⟩ = some (.slice A o.length n) ∧ W.cell? ⟨w.heap.size, 1, none⟩ = some (.slice A' c.length n') ∧ W.cell? ⟨w4.heap.size, 0, none⟩ = some (.slice B4 o.length o.length) ∧ W.cell? ⟨w4.heap.size, 1, none⟩ = some (.slice B4' c.length c.length)) ∧ Below w5.heap.size w5 W) w6 := ⟨⟨(bold hb56 _ _ (by omega)).trans S0.1.1, (bold hb56 _ _ (by omega)).trans S0.1.2.1, (bold hb56 _ _ (by omega)).trans S0.1.2.2.1, (bold hb56 _ _ (by omega)).trans S0.1.2.2.2⟩, hb56⟩)
      | (go_at_call 18; go_must (refine (eqWeek_any w6 w4.heap.size w6.heap.size B4 B4' B6 B6' o.length c.length o.length c.length o c ho hc (by omega) (Nat.le_refl _) (HB4.out.below (BX.out.trans ((HB5.out.trans (hb56.mono hz5)).mono BX.out.size))) (HB4'.out.below (BX.out.trans ((HB5.out.trans (hb56.mono hz5)).mono BX.out.size))) HB6.out HB6'.out).mono ?_); rintro e w7 ⟨rfl, hb7⟩; have hb57 := bthen hb56 hb7; have S7 : (fun W : World => (W.cell? ⟨w.heap.size, 0, none⟩ = some (.slice A o.length n) ∧ W.cell? ⟨w.heap.size, 1, none⟩ = some (.slice A' c.length n') ∧ W.cell? ⟨w4.heap.size, 0, none⟩ = some (.slice B4 o.length o.length) ∧ W.cell? ⟨w4.heap.size, 1, none⟩ = some (.slice B4' c.length c.length)) ∧ Below w5.heap.size w5 W) w7 := ⟨⟨(bold hb57 _ _ (by omega)).trans S0.1.1, (bold hb57 _ _ (by omega)).trans S0.1.2.1, (bold hb57 _ _ (by omega)).trans S0.1.2.2.1, (bold hb57 _ _ (by omega)).trans S0.1.2.2.2⟩, hb57⟩))
    go_wp2_with fail
    go_ret
    exact ⟨rfl, C5.out.trans (Below.mono hb57 hz6)⟩


set_option maxHeartbeats 1000000 in
theorem isOpenLaw_walk (A A' : Option Addr) (n n' : Nat) (o c : List (Int × Int)) (h : Int) (w : World) (ho : o.length ≤ maxLen) (hc : c.length ≤ maxLen) (hS : SL w w.heap.size A o) (hS' : SL w w.heap.size A' c) :
    Calls Try.prog 5 #[.agg #[.slice A o.length n, .slice A' c.length n'], .int .i64 h] w fun e w' => e = .returned (.bool true) ∧ Below w.heap.size w w' := by
  have HS := Lib.hid hS; clear hS
  have HS' := Lib.hid hS'; clear hS'
  by_cases hbig : szW 1048576 o.length c.length < 0
  · obtain ⟨s, hs⟩ : ∃ s, szW 1048576 o.length c.length = s := ⟨_, rfl⟩
    rw [hs] at hbig
    have Hs := Lib.hid hs; clear hs
    go_enter Try.func5, Try.ntmps5
    go_wp2_with fail
    generalize hW0 : (w.alloc (.cells #[.slice A o.length n, .slice A' c.length n'] 30)) = w0
    have b0 : Below w.heap.size w w0 := by rw [← hW0]; exact balloc _ _
    have k0 : Has w0 w.heap.size 30 #[.slice A o.length n, .slice A' c.length n'] := by rw [← hW0]; exact has_new _ _ _
    clear hW0
    have e0 := has_cell k0 0 rfl
    have e1 := has_cell k0 1 rfl
    have K0 := Lib.hid k0; clear k0
    refine (szW_any w0 A A' o.length n c.length n' 1048576 ho hc (by omega) (by omega)).mono ?_
    rintro e w1 ⟨rfl, hb1⟩
    rw [Hs.out]
    go_wp2_with fail
    go_ret
    exact ⟨rfl, bthen b0 hb1⟩
  · have hlen : o.length ≤ 1048576 ∧ c.length ≤ 1048576 := by
      unfold szW szI at hbig
      split at hbig
      · omega
      · split at hbig <;> omega
    obtain ⟨lo, lc⟩ := hlen
    obtain ⟨s, hs⟩ : ∃ s, szW 1048576 o.length c.length = s := ⟨_, rfl⟩
    rw [hs] at hbig
    have Hs := Lib.hid hs; clear hs
    obtain ⟨q, hq⟩ : ∃ q, isOpenB o c h = q := ⟨_, rfl⟩
    have hqq : (q != q) = false := by simp
    have Hq := Lib.hid hq; clear hq
    go_enter Try.func5, Try.ntmps5
    go_wp2_with fail
    generalize hW0 : (w.alloc (.cells #[.slice A o.length n, .slice A' c.length n'] 30)) = w0
    have b0 : Below w.heap.size w w0 := by rw [← hW0]; exact balloc _ _
    have k0 : Has w0 w.heap.size 30 #[.slice A o.length n, .slice A' c.length n'] := by rw [← hW0]; exact has_new _ _ _
    clear hW0
    have e0 := has_cell k0 0 rfl
    have e1 := has_cell k0 1 rfl
    have K0 := Lib.hid k0; clear k0
    refine (szW_any w0 A A' o.length n c.length n' 1048576 ho hc (by omega) (by omega)).mono ?_
    rintro e w1 ⟨rfl, hb1⟩
    rw [Hs.out]
    clear e0 e1
    have c1 := bthen b0 hb1
    have k1 := has_call K0.out hb1
    have e0 := has_cell k1 0 rfl
    have e1 := has_cell k1 1 rfl
    have K1 := Lib.hid k1; clear k1
    go_wp2_with fail
    refine (toWeek_any w1 w.heap.size A A' n n' o c lo lc c1.size (HS.out.below c1) (HS'.out.below c1)).mono ?_
    rintro e w2 ⟨B2, B2', rfl, hS2, hS2', hb2⟩
    have HB2 := Lib.hid hS2; clear hS2
    have HB2' := Lib.hid hS2'; clear hS2'
    clear e0 e1
    have c2 := bthen c1 hb2
    have k2 := has_call K1.out hb2
    have e0 := has_cell k2 0 rfl
    have e1 := has_cell k2 1 rfl
    have K2 := Lib.hid k2; clear k2
    go_wp2_with fail
    refine (isOpenS_any w2 w2.heap.size B2 B2' o.length c.length o c h  ho hc (Nat.le_refl _) HB2.out HB2'.out).mono ?_
    rintro e w3 ⟨rfl, hb3⟩
    rw [Hq.out]
    clear e0 e1
    have c3 := bthen c2 hb3
    have k3 := has_call K2.out hb3
    have e0 := has_cell k3 0 rfl
    have e1 := has_cell k3 1 rfl
    have K3 := Lib.hid k3; clear k3
    go_wp2_with fail
    refine (toWeek_any w3 w.heap.size A A' n n' o c lo lc c3.size (HS.out.below c3) (HS'.out.below c3)).mono ?_
    rintro e w4 ⟨B4, B4', rfl, hS4, hS4', hb4⟩
    have HB4 := Lib.hid hS4; clear hS4
    have HB4' := Lib.hid hS4'; clear hS4'
    clear e0 e1
    have c4 := bthen c3 hb4
    have k4 := has_call K3.out hb4
    have e0 := has_cell k4 0 rfl
    have e1 := has_cell k4 1 rfl
    have K4 := Lib.hid k4; clear k4
    go_wp2_with fail
    generalize hX : (w4.alloc (.cells #[.slice B4 o.length o.length, .slice B4' c.length c.length] 34)) = x4
    have bx : Below w4.heap.size w4 x4 := by rw [← hX]; exact balloc _ _
    have kx : Has x4 w4.heap.size 34 #[.slice B4 o.length o.length, .slice B4' c.length c.length] := by rw [← hX]; exact has_new _ _ _
    clear hX
    clear e0 e1
    have cx := bthen c4 bx
    have kk := has_call K4.out bx
    have e0 := has_cell kk 0 rfl
    have e1 := has_cell kk 1 rfl
    have x0 := has_cell kx 0 rfl
    have x1 := has_cell kx 1 rfl
    have KK := Lib.hid kk; clear kk
    have KX := Lib.hid kx; clear kx
    try go_wp2_with fail
    refine (isOpenI_any x4 w4.heap.size B4 B4' o.length c.length o c h  ho hc bx.size (HB4.out.below bx) (HB4'.out.below bx)).mono ?_
    rintro e w5 ⟨rfl, hb5⟩
    rw [Hq.out]
    clear e0 e1
    have c5 := bthen cx hb5
    have k5 := has_call KK.out hb5
    have e0 := has_cell k5 0 rfl
    have e1 := has_cell k5 1 rfl
    have K5 := Lib.hid k5; clear k5
    clear x0 x1
    have x0 := has_cell (has_call KX.out hb5) 0 rfl
    have x1 := has_cell (has_call KX.out hb5) 1 rfl
    try go_wp2_with fail
    have c5d : Below w.heap.size w w5.drew := c5.drew
    have S0 : (fun W : World => (W.cell? ⟨w.heap.size, 0, none⟩ = some (.slice A o.length n) ∧ W.cell? ⟨w.heap.size, 1, none⟩ = some (.slice A' c.length n') ∧ W.cell? ⟨w4.heap.size, 0, none⟩ = some (.slice B4 o.length o.length) ∧ W.cell? ⟨w4.heap.size, 1, none⟩ = some (.slice B4' c.length c.length)) ∧ Below w5.heap.size w5 W) w5.drew := ⟨⟨e0, e1, x0, x1⟩, (Below.refl _ _).drew⟩
    have C5 := Lib.hid c5; clear c5
    have HB5 := Lib.hid hb5; clear hb5
    clear cx c4 hb4 hb1 hb2 hb3 c1 c2 c3
    have BX := Lib.hid bx; clear bx
    have hzx : w4.heap.size < x4.heap.size := has_lt KX.out
    have hz5 := HB5.out.size
    have hz6 := C5.out.size
    have hzk : w.heap.size < w5.heap.size := has_lt K5.out
    clear e0 e1 x0 x1
    go_region_held3 (fun W : World => (W.cell? ⟨w.heap.size, 0, none⟩ = some (.slice A o.length n) ∧ W.cell? ⟨w.heap.size, 1, none⟩ = some (.slice A' c.length n') ∧ W.cell? ⟨w4.heap.size, 0, none⟩ = some (.slice B4 o.length o.length) ∧ W.cell? ⟨w4.heap.size, 1, none⟩ = some (.slice B4' c.length c.length)) ∧ Below w5.heap.size w5 W) (first | assumption) (first
      | (go_at_call 16; go_must (refine (toWeek_any w5.drew w.heap.size A A' n n' o c lo lc c5d.size (HS.out.below c5d) (HS'.out.below c5d)).mono ?_); rintro e w6 ⟨B6, B6', rfl, hS6, hS6', hb6⟩; have HB6 := Lib.hid hS6; have HB6' := Lib.hid hS6'; clear hS6 hS6'; have hb56 : Below w5.heap.size w5 w6 := ((Below.refl w5.heap.size w5).drew).trans hb6; have hz56 := hb56.size; clear hb6; have S6 : (fun W : World => (W.cell? ⟨w.heap.size, 0, none⟩ = some (.slice A o.length n) ∧ W.cell? ⟨w.heap.size, 1, none⟩ = some (.slice A' c.length n') ∧ W.cell? ⟨w4.heap.size, 0, none⟩ = some (.slice B4 o.length o.length) ∧ W.cell? ⟨w4.heap.size, 1, none⟩ = some (.slice B4' c.length c.length)) ∧ Below w5.heap.size w5 W) w6 := ⟨⟨(bold hb56 _ _ (by omega)).trans S0.1.1, (bold hb56 _ _ (by omega)).trans S0.1.2.1, (bold hb56 _ _ (by omega)).trans S0.1.2.2.1, (bold hb56 _ _ (by omega)).trans S0.1.2.2.2⟩, hb56⟩)
      | (go_at_call 18; go_must (refine (eqWeek_any w6 w4.heap.size w6.heap.size B4 B4' B6 B6' o.length c.length o.length c.length o c ho hc (by omega) (Nat.le_refl _) (HB4.out.below (BX.out.trans ((HB5.out.trans (hb56.mono hz5)).mono BX.out.size))) (HB4'.out.below (BX.out.trans ((HB5.out.trans (hb56.mono hz5)).mono BX.out.size))) HB6.out HB6'.out).mono ?_); rintro e w7 ⟨rfl, hb7⟩; have hb57 := bthen hb56 hb7; have S7 : (fun W : World => (W.cell? ⟨w.heap.size, 0, none⟩ = some (.slice A o.length n) ∧ W.cell? ⟨w.heap.size, 1, none⟩ = some (.slice A' c.length n') ∧ W.cell? ⟨w4.heap.size, 0, none⟩ = some (.slice B4 o.length o.length) ∧ W.cell? ⟨w4.heap.size, 1, none⟩ = some (.slice B4' c.length c.length)) ∧ Below w5.heap.size w5 W) w7 := ⟨⟨(bold hb57 _ _ (by omega)).trans S0.1.1, (bold hb57 _ _ (by omega)).trans S0.1.2.1, (bold hb57 _ _ (by omega)).trans S0.1.2.2.1, (bold hb57 _ _ (by omega)).trans S0.1.2.2.2⟩, hb57⟩))
    go_wp2_with fail
    go_ret
    exact ⟨rfl, C5.out.trans (Below.mono hb57 hz6)⟩


set_option maxHeartbeats 1000000 in
theorem hoursLaw_walk (A A' : Option Addr) (n n' : Nat) (o c : List (Int × Int)) (a b : Int) (w : World) (ho : o.length ≤ maxLen) (hc : c.length ≤ maxLen) (hS : SL w w.heap.size A o) (hS' : SL w w.heap.size A' c) :
    Calls Try.prog 6 #[.agg #[.slice A o.length n, .slice A' c.length n'], .int .i64 a, .int .i64 b] w fun e w' => e = .returned (.bool true) ∧ Below w.heap.size w w' := by
  have HS := Lib.hid hS; clear hS
  have HS' := Lib.hid hS'; clear hS'
  by_cases hbig : szW 1048576 o.length c.length < 0
  · obtain ⟨s, hs⟩ : ∃ s, szW 1048576 o.length c.length = s := ⟨_, rfl⟩
    rw [hs] at hbig
    have Hs := Lib.hid hs; clear hs
    go_enter Try.func6, Try.ntmps6
    go_wp2_with fail
    generalize hW0 : (w.alloc (.cells #[.slice A o.length n, .slice A' c.length n'] 30)) = w0
    have b0 : Below w.heap.size w w0 := by rw [← hW0]; exact balloc _ _
    have k0 : Has w0 w.heap.size 30 #[.slice A o.length n, .slice A' c.length n'] := by rw [← hW0]; exact has_new _ _ _
    clear hW0
    have e0 := has_cell k0 0 rfl
    have e1 := has_cell k0 1 rfl
    have K0 := Lib.hid k0; clear k0
    refine (szW_any w0 A A' o.length n c.length n' 1048576 ho hc (by omega) (by omega)).mono ?_
    rintro e w1 ⟨rfl, hb1⟩
    rw [Hs.out]
    go_wp2_with fail
    go_ret
    exact ⟨rfl, bthen b0 hb1⟩
  · have hlen : o.length ≤ 1048576 ∧ c.length ≤ 1048576 := by
      unfold szW szI at hbig
      split at hbig
      · omega
      · split at hbig <;> omega
    obtain ⟨lo, lc⟩ := hlen
    obtain ⟨s, hs⟩ : ∃ s, szW 1048576 o.length c.length = s := ⟨_, rfl⟩
    rw [hs] at hbig
    have Hs := Lib.hid hs; clear hs
    obtain ⟨q, hq⟩ : ∃ q, hoursB o c a b = q := ⟨_, rfl⟩
    have hqq : (q != q) = false := by simp
    have Hq := Lib.hid hq; clear hq
    go_enter Try.func6, Try.ntmps6
    go_wp2_with fail
    generalize hW0 : (w.alloc (.cells #[.slice A o.length n, .slice A' c.length n'] 30)) = w0
    have b0 : Below w.heap.size w w0 := by rw [← hW0]; exact balloc _ _
    have k0 : Has w0 w.heap.size 30 #[.slice A o.length n, .slice A' c.length n'] := by rw [← hW0]; exact has_new _ _ _
    clear hW0
    have e0 := has_cell k0 0 rfl
    have e1 := has_cell k0 1 rfl
    have K0 := Lib.hid k0; clear k0
    refine (szW_any w0 A A' o.length n c.length n' 1048576 ho hc (by omega) (by omega)).mono ?_
    rintro e w1 ⟨rfl, hb1⟩
    rw [Hs.out]
    clear e0 e1
    have c1 := bthen b0 hb1
    have k1 := has_call K0.out hb1
    have e0 := has_cell k1 0 rfl
    have e1 := has_cell k1 1 rfl
    have K1 := Lib.hid k1; clear k1
    go_wp2_with fail
    refine (toWeek_any w1 w.heap.size A A' n n' o c lo lc c1.size (HS.out.below c1) (HS'.out.below c1)).mono ?_
    rintro e w2 ⟨B2, B2', rfl, hS2, hS2', hb2⟩
    have HB2 := Lib.hid hS2; clear hS2
    have HB2' := Lib.hid hS2'; clear hS2'
    clear e0 e1
    have c2 := bthen c1 hb2
    have k2 := has_call K1.out hb2
    have e0 := has_cell k2 0 rfl
    have e1 := has_cell k2 1 rfl
    have K2 := Lib.hid k2; clear k2
    go_wp2_with fail
    refine (hoursS_any w2 w2.heap.size B2 B2' o.length c.length o c a b  ho hc (Nat.le_refl _) HB2.out HB2'.out).mono ?_
    rintro e w3 ⟨rfl, hb3⟩
    rw [Hq.out]
    clear e0 e1
    have c3 := bthen c2 hb3
    have k3 := has_call K2.out hb3
    have e0 := has_cell k3 0 rfl
    have e1 := has_cell k3 1 rfl
    have K3 := Lib.hid k3; clear k3
    go_wp2_with fail
    refine (toWeek_any w3 w.heap.size A A' n n' o c lo lc c3.size (HS.out.below c3) (HS'.out.below c3)).mono ?_
    rintro e w4 ⟨B4, B4', rfl, hS4, hS4', hb4⟩
    have HB4 := Lib.hid hS4; clear hS4
    have HB4' := Lib.hid hS4'; clear hS4'
    clear e0 e1
    have c4 := bthen c3 hb4
    have k4 := has_call K3.out hb4
    have e0 := has_cell k4 0 rfl
    have e1 := has_cell k4 1 rfl
    have K4 := Lib.hid k4; clear k4
    go_wp2_with fail
    generalize hX : (w4.alloc (.cells #[.slice B4 o.length o.length, .slice B4' c.length c.length] 34)) = x4
    have bx : Below w4.heap.size w4 x4 := by rw [← hX]; exact balloc _ _
    have kx : Has x4 w4.heap.size 34 #[.slice B4 o.length o.length, .slice B4' c.length c.length] := by rw [← hX]; exact has_new _ _ _
    clear hX
    clear e0 e1
    have cx := bthen c4 bx
    have kk := has_call K4.out bx
    have e0 := has_cell kk 0 rfl
    have e1 := has_cell kk 1 rfl
    have x0 := has_cell kx 0 rfl
    have x1 := has_cell kx 1 rfl
    have KK := Lib.hid kk; clear kk
    have KX := Lib.hid kx; clear kx
    try go_wp2_with fail
    refine (hoursI_any x4 w4.heap.size B4 B4' o.length c.length o c a b  ho hc bx.size (HB4.out.below bx) (HB4'.out.below bx)).mono ?_
    rintro e w5 ⟨rfl, hb5⟩
    rw [Hq.out]
    clear e0 e1
    have c5 := bthen cx hb5
    have k5 := has_call KK.out hb5
    have e0 := has_cell k5 0 rfl
    have e1 := has_cell k5 1 rfl
    have K5 := Lib.hid k5; clear k5
    clear x0 x1
    have x0 := has_cell (has_call KX.out hb5) 0 rfl
    have x1 := has_cell (has_call KX.out hb5) 1 rfl
    try go_wp2_with fail
    have c5d : Below w.heap.size w w5.drew := c5.drew
    have S0 : (fun W : World => (W.cell? ⟨w.heap.size, 0, none⟩ = some (.slice A o.length n) ∧ W.cell? ⟨w.heap.size, 1, none⟩ = some (.slice A' c.length n') ∧ W.cell? ⟨w4.heap.size, 0, none⟩ = some (.slice B4 o.length o.length) ∧ W.cell? ⟨w4.heap.size, 1, none⟩ = some (.slice B4' c.length c.length)) ∧ Below w5.heap.size w5 W) w5.drew := ⟨⟨e0, e1, x0, x1⟩, (Below.refl _ _).drew⟩
    have C5 := Lib.hid c5; clear c5
    have HB5 := Lib.hid hb5; clear hb5
    clear cx c4 hb4 hb1 hb2 hb3 c1 c2 c3
    have BX := Lib.hid bx; clear bx
    have hzx : w4.heap.size < x4.heap.size := has_lt KX.out
    have hz5 := HB5.out.size
    have hz6 := C5.out.size
    have hzk : w.heap.size < w5.heap.size := has_lt K5.out
    clear e0 e1 x0 x1
    go_region_held3 (fun W : World => (W.cell? ⟨w.heap.size, 0, none⟩ = some (.slice A o.length n) ∧ W.cell? ⟨w.heap.size, 1, none⟩ = some (.slice A' c.length n') ∧ W.cell? ⟨w4.heap.size, 0, none⟩ = some (.slice B4 o.length o.length) ∧ W.cell? ⟨w4.heap.size, 1, none⟩ = some (.slice B4' c.length c.length)) ∧ Below w5.heap.size w5 W) (first | assumption) (first
      | (go_at_call 16; go_must (refine (toWeek_any w5.drew w.heap.size A A' n n' o c lo lc c5d.size (HS.out.below c5d) (HS'.out.below c5d)).mono ?_); rintro e w6 ⟨B6, B6', rfl, hS6, hS6', hb6⟩; have HB6 := Lib.hid hS6; have HB6' := Lib.hid hS6'; clear hS6 hS6'; have hb56 : Below w5.heap.size w5 w6 := ((Below.refl w5.heap.size w5).drew).trans hb6; have hz56 := hb56.size; clear hb6; have S6 : (fun W : World => (W.cell? ⟨w.heap.size, 0, none⟩ = some (.slice A o.length n) ∧ W.cell? ⟨w.heap.size, 1, none⟩ = some (.slice A' c.length n') ∧ W.cell? ⟨w4.heap.size, 0, none⟩ = some (.slice B4 o.length o.length) ∧ W.cell? ⟨w4.heap.size, 1, none⟩ = some (.slice B4' c.length c.length)) ∧ Below w5.heap.size w5 W) w6 := ⟨⟨(bold hb56 _ _ (by omega)).trans S0.1.1, (bold hb56 _ _ (by omega)).trans S0.1.2.1, (bold hb56 _ _ (by omega)).trans S0.1.2.2.1, (bold hb56 _ _ (by omega)).trans S0.1.2.2.2⟩, hb56⟩)
      | (go_at_call 18; go_must (refine (eqWeek_any w6 w4.heap.size w6.heap.size B4 B4' B6 B6' o.length c.length o.length c.length o c ho hc (by omega) (Nat.le_refl _) (HB4.out.below (BX.out.trans ((HB5.out.trans (hb56.mono hz5)).mono BX.out.size))) (HB4'.out.below (BX.out.trans ((HB5.out.trans (hb56.mono hz5)).mono BX.out.size))) HB6.out HB6'.out).mono ?_); rintro e w7 ⟨rfl, hb7⟩; have hb57 := bthen hb56 hb7; have S7 : (fun W : World => (W.cell? ⟨w.heap.size, 0, none⟩ = some (.slice A o.length n) ∧ W.cell? ⟨w.heap.size, 1, none⟩ = some (.slice A' c.length n') ∧ W.cell? ⟨w4.heap.size, 0, none⟩ = some (.slice B4 o.length o.length) ∧ W.cell? ⟨w4.heap.size, 1, none⟩ = some (.slice B4' c.length c.length)) ∧ Below w5.heap.size w5 W) w7 := ⟨⟨(bold hb57 _ _ (by omega)).trans S0.1.1, (bold hb57 _ _ (by omega)).trans S0.1.2.1, (bold hb57 _ _ (by omega)).trans S0.1.2.2.1, (bold hb57 _ _ (by omega)).trans S0.1.2.2.2⟩, hb57⟩))
    go_wp2_with fail
    go_ret
    exact ⟨rfl, C5.out.trans (Below.mono hb57 hz6)⟩


set_option maxHeartbeats 1000000 in
theorem afterLaw_walk (A A' : Option Addr) (n n' : Nat) (o c : List (Int × Int)) (a m : Int) (a1 : -9223372036854775808 ≤ a) (a2 : a ≤ 9223372036854775807) (m1 : -9223372036854775808 ≤ m) (m2 : m ≤ 9223372036854775807) (w : World) (ho : o.length ≤ maxLen) (hc : c.length ≤ maxLen) (hS : SL w w.heap.size A o) (hS' : SL w w.heap.size A' c) :
    Calls Try.prog 7 #[.agg #[.slice A o.length n, .slice A' c.length n'], .int .i64 a, .int .i64 m] w fun e w' => e = .returned (.bool true) ∧ Below w.heap.size w w' := by
  have HS := Lib.hid hS; clear hS
  have HS' := Lib.hid hS'; clear hS'
  by_cases hbig : szW 1048576 o.length c.length < 0
  · obtain ⟨s, hs⟩ : ∃ s, szW 1048576 o.length c.length = s := ⟨_, rfl⟩
    rw [hs] at hbig
    have Hs := Lib.hid hs; clear hs
    go_enter Try.func7, Try.ntmps7
    go_wp2_with fail
    generalize hW0 : (w.alloc (.cells #[.slice A o.length n, .slice A' c.length n'] 30)) = w0
    have b0 : Below w.heap.size w w0 := by rw [← hW0]; exact balloc _ _
    have k0 : Has w0 w.heap.size 30 #[.slice A o.length n, .slice A' c.length n'] := by rw [← hW0]; exact has_new _ _ _
    clear hW0
    have e0 := has_cell k0 0 rfl
    have e1 := has_cell k0 1 rfl
    have K0 := Lib.hid k0; clear k0
    refine (szW_any w0 A A' o.length n c.length n' 1048576 ho hc (by omega) (by omega)).mono ?_
    rintro e w1 ⟨rfl, hb1⟩
    rw [Hs.out]
    go_wp2_with fail
    go_ret
    exact ⟨rfl, bthen b0 hb1⟩
  · have hlen : o.length ≤ 1048576 ∧ c.length ≤ 1048576 := by
      unfold szW szI at hbig
      split at hbig
      · omega
      · split at hbig <;> omega
    obtain ⟨lo, lc⟩ := hlen
    obtain ⟨s, hs⟩ : ∃ s, szW 1048576 o.length c.length = s := ⟨_, rfl⟩
    rw [hs] at hbig
    have Hs := Lib.hid hs; clear hs
    obtain ⟨q, hq⟩ : ∃ q, afterB o c a m = q := ⟨_, rfl⟩
    have Hq := Lib.hid hq; clear hq
    cases q with
    | none =>
      go_enter Try.func7, Try.ntmps7
      go_wp2_with fail
      generalize hW0 : (w.alloc (.cells #[.slice A o.length n, .slice A' c.length n'] 30)) = w0
      have b0 : Below w.heap.size w w0 := by rw [← hW0]; exact balloc _ _
      have k0 : Has w0 w.heap.size 30 #[.slice A o.length n, .slice A' c.length n'] := by rw [← hW0]; exact has_new _ _ _
      clear hW0
      have e0 := has_cell k0 0 rfl
      have e1 := has_cell k0 1 rfl
      have K0 := Lib.hid k0; clear k0
      refine (szW_any w0 A A' o.length n c.length n' 1048576 ho hc (by omega) (by omega)).mono ?_
      rintro e w1 ⟨rfl, hb1⟩
      rw [Hs.out]
      clear e0 e1
      have c1 := bthen b0 hb1
      have k1 := has_call K0.out hb1
      have e0 := has_cell k1 0 rfl
      have e1 := has_cell k1 1 rfl
      have K1 := Lib.hid k1; clear k1
      go_wp2_with fail
      refine (toWeek_any w1 w.heap.size A A' n n' o c lo lc c1.size (HS.out.below c1) (HS'.out.below c1)).mono ?_
      rintro e w2 ⟨B2, B2', rfl, hS2, hS2', hb2⟩
      have HB2 := Lib.hid hS2; clear hS2
      have HB2' := Lib.hid hS2'; clear hS2'
      clear e0 e1
      have c2 := bthen c1 hb2
      have k2 := has_call K1.out hb2
      have e0 := has_cell k2 0 rfl
      have e1 := has_cell k2 1 rfl
      have K2 := Lib.hid k2; clear k2
      go_wp2_with fail
      refine (afterS_any w2 w2.heap.size B2 B2' o.length c.length o c a m m1 m2 ho hc (Nat.le_refl _) HB2.out HB2'.out).mono ?_
      rintro e w3 ⟨rfl, hb3⟩
      rw [Hq.out]; unfold pairV
      clear e0 e1
      have c3 := bthen c2 hb3
      have k3 := has_call K2.out hb3
      have e0 := has_cell k3 0 rfl
      have e1 := has_cell k3 1 rfl
      have K3 := Lib.hid k3; clear k3
      go_wp2_with fail
      refine (toWeek_any w3 w.heap.size A A' n n' o c lo lc c3.size (HS.out.below c3) (HS'.out.below c3)).mono ?_
      rintro e w4 ⟨B4, B4', rfl, hS4, hS4', hb4⟩
      have HB4 := Lib.hid hS4; clear hS4
      have HB4' := Lib.hid hS4'; clear hS4'
      clear e0 e1
      have c4 := bthen c3 hb4
      have k4 := has_call K3.out hb4
      have e0 := has_cell k4 0 rfl
      have e1 := has_cell k4 1 rfl
      have K4 := Lib.hid k4; clear k4
      go_wp2_with fail
      generalize hX : (w4.alloc (.cells #[.slice B4 o.length o.length, .slice B4' c.length c.length] 34)) = x4
      have bx : Below w4.heap.size w4 x4 := by rw [← hX]; exact balloc _ _
      have kx : Has x4 w4.heap.size 34 #[.slice B4 o.length o.length, .slice B4' c.length c.length] := by rw [← hX]; exact has_new _ _ _
      clear hX
      clear e0 e1
      have cx := bthen c4 bx
      have kk := has_call K4.out bx
      have e0 := has_cell kk 0 rfl
      have e1 := has_cell kk 1 rfl
      have x0 := has_cell kx 0 rfl
      have x1 := has_cell kx 1 rfl
      have KK := Lib.hid kk; clear kk
      have KX := Lib.hid kx; clear kx
      try go_wp2_with fail
      refine (afterI_any x4 w4.heap.size B4 B4' o.length c.length o c a m m1 m2 ho hc bx.size (HB4.out.below bx) (HB4'.out.below bx)).mono ?_
      rintro e w5 ⟨rfl, hb5⟩
      rw [Hq.out]; unfold pairV
      clear e0 e1
      have c5 := bthen cx hb5
      have k5 := has_call KK.out hb5
      have e0 := has_cell k5 0 rfl
      have e1 := has_cell k5 1 rfl
      have K5 := Lib.hid k5; clear k5
      clear x0 x1
      have x0 := has_cell (has_call KX.out hb5) 0 rfl
      have x1 := has_cell (has_call KX.out hb5) 1 rfl
      try go_wp2_with fail
      have c5d : Below w.heap.size w w5.drew := c5.drew
      have S0 : (fun W : World => (W.cell? ⟨w.heap.size, 0, none⟩ = some (.slice A o.length n) ∧ W.cell? ⟨w.heap.size, 1, none⟩ = some (.slice A' c.length n') ∧ W.cell? ⟨w4.heap.size, 0, none⟩ = some (.slice B4 o.length o.length) ∧ W.cell? ⟨w4.heap.size, 1, none⟩ = some (.slice B4' c.length c.length)) ∧ Below w5.heap.size w5 W) w5.drew := ⟨⟨e0, e1, x0, x1⟩, (Below.refl _ _).drew⟩
      have C5 := Lib.hid c5; clear c5
      have HB5 := Lib.hid hb5; clear hb5
      clear cx c4 hb4 hb1 hb2 hb3 c1 c2 c3
      have BX := Lib.hid bx; clear bx
      have hzx : w4.heap.size < x4.heap.size := has_lt KX.out
      have hz5 := HB5.out.size
      have hz6 := C5.out.size
      have hzk : w.heap.size < w5.heap.size := has_lt K5.out
      clear e0 e1 x0 x1
      go_region_held3 (fun W : World => (W.cell? ⟨w.heap.size, 0, none⟩ = some (.slice A o.length n) ∧ W.cell? ⟨w.heap.size, 1, none⟩ = some (.slice A' c.length n') ∧ W.cell? ⟨w4.heap.size, 0, none⟩ = some (.slice B4 o.length o.length) ∧ W.cell? ⟨w4.heap.size, 1, none⟩ = some (.slice B4' c.length c.length)) ∧ Below w5.heap.size w5 W) (first | assumption) (first
        | (go_at_call 16; go_must (refine (toWeek_any w5.drew w.heap.size A A' n n' o c lo lc c5d.size (HS.out.below c5d) (HS'.out.below c5d)).mono ?_); rintro e w6 ⟨B6, B6', rfl, hS6, hS6', hb6⟩; have HB6 := Lib.hid hS6; have HB6' := Lib.hid hS6'; clear hS6 hS6'; have hb56 : Below w5.heap.size w5 w6 := ((Below.refl w5.heap.size w5).drew).trans hb6; have hz56 := hb56.size; clear hb6; have S6 : (fun W : World => (W.cell? ⟨w.heap.size, 0, none⟩ = some (.slice A o.length n) ∧ W.cell? ⟨w.heap.size, 1, none⟩ = some (.slice A' c.length n') ∧ W.cell? ⟨w4.heap.size, 0, none⟩ = some (.slice B4 o.length o.length) ∧ W.cell? ⟨w4.heap.size, 1, none⟩ = some (.slice B4' c.length c.length)) ∧ Below w5.heap.size w5 W) w6 := ⟨⟨(bold hb56 _ _ (by omega)).trans S0.1.1, (bold hb56 _ _ (by omega)).trans S0.1.2.1, (bold hb56 _ _ (by omega)).trans S0.1.2.2.1, (bold hb56 _ _ (by omega)).trans S0.1.2.2.2⟩, hb56⟩)
        | (go_at_call 18; go_must (refine (eqWeek_any w6 w4.heap.size w6.heap.size B4 B4' B6 B6' o.length c.length o.length c.length o c ho hc (by omega) (Nat.le_refl _) (HB4.out.below (BX.out.trans ((HB5.out.trans (hb56.mono hz5)).mono BX.out.size))) (HB4'.out.below (BX.out.trans ((HB5.out.trans (hb56.mono hz5)).mono BX.out.size))) HB6.out HB6'.out).mono ?_); rintro e w7 ⟨rfl, hb7⟩; have hb57 := bthen hb56 hb7; have S7 : (fun W : World => (W.cell? ⟨w.heap.size, 0, none⟩ = some (.slice A o.length n) ∧ W.cell? ⟨w.heap.size, 1, none⟩ = some (.slice A' c.length n') ∧ W.cell? ⟨w4.heap.size, 0, none⟩ = some (.slice B4 o.length o.length) ∧ W.cell? ⟨w4.heap.size, 1, none⟩ = some (.slice B4' c.length c.length)) ∧ Below w5.heap.size w5 W) w7 := ⟨⟨(bold hb57 _ _ (by omega)).trans S0.1.1, (bold hb57 _ _ (by omega)).trans S0.1.2.1, (bold hb57 _ _ (by omega)).trans S0.1.2.2.1, (bold hb57 _ _ (by omega)).trans S0.1.2.2.2⟩, hb57⟩))
      go_wp2_with fail
      go_ret
      exact ⟨rfl, C5.out.trans (Below.mono hb57 hz6)⟩
    | some x =>
      have hxx : (x != x) = false := by simp
      go_enter Try.func7, Try.ntmps7
      go_wp2_with fail
      generalize hW0 : (w.alloc (.cells #[.slice A o.length n, .slice A' c.length n'] 30)) = w0
      have b0 : Below w.heap.size w w0 := by rw [← hW0]; exact balloc _ _
      have k0 : Has w0 w.heap.size 30 #[.slice A o.length n, .slice A' c.length n'] := by rw [← hW0]; exact has_new _ _ _
      clear hW0
      have e0 := has_cell k0 0 rfl
      have e1 := has_cell k0 1 rfl
      have K0 := Lib.hid k0; clear k0
      refine (szW_any w0 A A' o.length n c.length n' 1048576 ho hc (by omega) (by omega)).mono ?_
      rintro e w1 ⟨rfl, hb1⟩
      rw [Hs.out]
      clear e0 e1
      have c1 := bthen b0 hb1
      have k1 := has_call K0.out hb1
      have e0 := has_cell k1 0 rfl
      have e1 := has_cell k1 1 rfl
      have K1 := Lib.hid k1; clear k1
      go_wp2_with fail
      refine (toWeek_any w1 w.heap.size A A' n n' o c lo lc c1.size (HS.out.below c1) (HS'.out.below c1)).mono ?_
      rintro e w2 ⟨B2, B2', rfl, hS2, hS2', hb2⟩
      have HB2 := Lib.hid hS2; clear hS2
      have HB2' := Lib.hid hS2'; clear hS2'
      clear e0 e1
      have c2 := bthen c1 hb2
      have k2 := has_call K1.out hb2
      have e0 := has_cell k2 0 rfl
      have e1 := has_cell k2 1 rfl
      have K2 := Lib.hid k2; clear k2
      go_wp2_with fail
      refine (afterS_any w2 w2.heap.size B2 B2' o.length c.length o c a m m1 m2 ho hc (Nat.le_refl _) HB2.out HB2'.out).mono ?_
      rintro e w3 ⟨rfl, hb3⟩
      rw [Hq.out]; unfold pairV
      clear e0 e1
      have c3 := bthen c2 hb3
      have k3 := has_call K2.out hb3
      have e0 := has_cell k3 0 rfl
      have e1 := has_cell k3 1 rfl
      have K3 := Lib.hid k3; clear k3
      go_wp2_with fail
      refine (toWeek_any w3 w.heap.size A A' n n' o c lo lc c3.size (HS.out.below c3) (HS'.out.below c3)).mono ?_
      rintro e w4 ⟨B4, B4', rfl, hS4, hS4', hb4⟩
      have HB4 := Lib.hid hS4; clear hS4
      have HB4' := Lib.hid hS4'; clear hS4'
      clear e0 e1
      have c4 := bthen c3 hb4
      have k4 := has_call K3.out hb4
      have e0 := has_cell k4 0 rfl
      have e1 := has_cell k4 1 rfl
      have K4 := Lib.hid k4; clear k4
      go_wp2_with fail
      generalize hX : (w4.alloc (.cells #[.slice B4 o.length o.length, .slice B4' c.length c.length] 34)) = x4
      have bx : Below w4.heap.size w4 x4 := by rw [← hX]; exact balloc _ _
      have kx : Has x4 w4.heap.size 34 #[.slice B4 o.length o.length, .slice B4' c.length c.length] := by rw [← hX]; exact has_new _ _ _
      clear hX
      clear e0 e1
      have cx := bthen c4 bx
      have kk := has_call K4.out bx
      have e0 := has_cell kk 0 rfl
      have e1 := has_cell kk 1 rfl
      have x0 := has_cell kx 0 rfl
      have x1 := has_cell kx 1 rfl
      have KK := Lib.hid kk; clear kk
      have KX := Lib.hid kx; clear kx
      try go_wp2_with fail
      refine (afterI_any x4 w4.heap.size B4 B4' o.length c.length o c a m m1 m2 ho hc bx.size (HB4.out.below bx) (HB4'.out.below bx)).mono ?_
      rintro e w5 ⟨rfl, hb5⟩
      rw [Hq.out]; unfold pairV
      clear e0 e1
      have c5 := bthen cx hb5
      have k5 := has_call KK.out hb5
      have e0 := has_cell k5 0 rfl
      have e1 := has_cell k5 1 rfl
      have K5 := Lib.hid k5; clear k5
      clear x0 x1
      have x0 := has_cell (has_call KX.out hb5) 0 rfl
      have x1 := has_cell (has_call KX.out hb5) 1 rfl
      try go_wp2_with fail
      have c5d : Below w.heap.size w w5.drew := c5.drew
      have S0 : (fun W : World => (W.cell? ⟨w.heap.size, 0, none⟩ = some (.slice A o.length n) ∧ W.cell? ⟨w.heap.size, 1, none⟩ = some (.slice A' c.length n') ∧ W.cell? ⟨w4.heap.size, 0, none⟩ = some (.slice B4 o.length o.length) ∧ W.cell? ⟨w4.heap.size, 1, none⟩ = some (.slice B4' c.length c.length)) ∧ Below w5.heap.size w5 W) w5.drew := ⟨⟨e0, e1, x0, x1⟩, (Below.refl _ _).drew⟩
      have C5 := Lib.hid c5; clear c5
      have HB5 := Lib.hid hb5; clear hb5
      clear cx c4 hb4 hb1 hb2 hb3 c1 c2 c3
      have BX := Lib.hid bx; clear bx
      have hzx : w4.heap.size < x4.heap.size := has_lt KX.out
      have hz5 := HB5.out.size
      have hz6 := C5.out.size
      have hzk : w.heap.size < w5.heap.size := has_lt K5.out
      clear e0 e1 x0 x1
      go_region_held3 (fun W : World => (W.cell? ⟨w.heap.size, 0, none⟩ = some (.slice A o.length n) ∧ W.cell? ⟨w.heap.size, 1, none⟩ = some (.slice A' c.length n') ∧ W.cell? ⟨w4.heap.size, 0, none⟩ = some (.slice B4 o.length o.length) ∧ W.cell? ⟨w4.heap.size, 1, none⟩ = some (.slice B4' c.length c.length)) ∧ Below w5.heap.size w5 W) (first | assumption) (first
        | (go_at_call 16; go_must (refine (toWeek_any w5.drew w.heap.size A A' n n' o c lo lc c5d.size (HS.out.below c5d) (HS'.out.below c5d)).mono ?_); rintro e w6 ⟨B6, B6', rfl, hS6, hS6', hb6⟩; have HB6 := Lib.hid hS6; have HB6' := Lib.hid hS6'; clear hS6 hS6'; have hb56 : Below w5.heap.size w5 w6 := ((Below.refl w5.heap.size w5).drew).trans hb6; have hz56 := hb56.size; clear hb6; have S6 : (fun W : World => (W.cell? ⟨w.heap.size, 0, none⟩ = some (.slice A o.length n) ∧ W.cell? ⟨w.heap.size, 1, none⟩ = some (.slice A' c.length n') ∧ W.cell? ⟨w4.heap.size, 0, none⟩ = some (.slice B4 o.length o.length) ∧ W.cell? ⟨w4.heap.size, 1, none⟩ = some (.slice B4' c.length c.length)) ∧ Below w5.heap.size w5 W) w6 := ⟨⟨(bold hb56 _ _ (by omega)).trans S0.1.1, (bold hb56 _ _ (by omega)).trans S0.1.2.1, (bold hb56 _ _ (by omega)).trans S0.1.2.2.1, (bold hb56 _ _ (by omega)).trans S0.1.2.2.2⟩, hb56⟩)
        | (go_at_call 18; go_must (refine (eqWeek_any w6 w4.heap.size w6.heap.size B4 B4' B6 B6' o.length c.length o.length c.length o c ho hc (by omega) (Nat.le_refl _) (HB4.out.below (BX.out.trans ((HB5.out.trans (hb56.mono hz5)).mono BX.out.size))) (HB4'.out.below (BX.out.trans ((HB5.out.trans (hb56.mono hz5)).mono BX.out.size))) HB6.out HB6'.out).mono ?_); rintro e w7 ⟨rfl, hb7⟩; have hb57 := bthen hb56 hb7; have S7 : (fun W : World => (W.cell? ⟨w.heap.size, 0, none⟩ = some (.slice A o.length n) ∧ W.cell? ⟨w.heap.size, 1, none⟩ = some (.slice A' c.length n') ∧ W.cell? ⟨w4.heap.size, 0, none⟩ = some (.slice B4 o.length o.length) ∧ W.cell? ⟨w4.heap.size, 1, none⟩ = some (.slice B4' c.length c.length)) ∧ Below w5.heap.size w5 W) w7 := ⟨⟨(bold hb57 _ _ (by omega)).trans S0.1.1, (bold hb57 _ _ (by omega)).trans S0.1.2.1, (bold hb57 _ _ (by omega)).trans S0.1.2.2.1, (bold hb57 _ _ (by omega)).trans S0.1.2.2.2⟩, hb57⟩))
      go_wp2_with fail
      go_ret
      exact ⟨rfl, C5.out.trans (Below.mono hb57 hz6)⟩


set_option maxHeartbeats 1000000 in
theorem beforeLaw_walk (A A' : Option Addr) (n n' : Nat) (o c : List (Int × Int)) (a m : Int) (a1 : -9223372036854775808 ≤ a) (a2 : a ≤ 9223372036854775807) (m1 : -9223372036854775808 ≤ m) (m2 : m ≤ 9223372036854775807) (w : World) (ho : o.length ≤ maxLen) (hc : c.length ≤ maxLen) (hS : SL w w.heap.size A o) (hS' : SL w w.heap.size A' c) :
    Calls Try.prog 8 #[.agg #[.slice A o.length n, .slice A' c.length n'], .int .i64 a, .int .i64 m] w fun e w' => e = .returned (.bool true) ∧ Below w.heap.size w w' := by
  have HS := Lib.hid hS; clear hS
  have HS' := Lib.hid hS'; clear hS'
  by_cases hbig : szW 1048576 o.length c.length < 0
  · obtain ⟨s, hs⟩ : ∃ s, szW 1048576 o.length c.length = s := ⟨_, rfl⟩
    rw [hs] at hbig
    have Hs := Lib.hid hs; clear hs
    go_enter Try.func8, Try.ntmps8
    go_wp2_with fail
    generalize hW0 : (w.alloc (.cells #[.slice A o.length n, .slice A' c.length n'] 30)) = w0
    have b0 : Below w.heap.size w w0 := by rw [← hW0]; exact balloc _ _
    have k0 : Has w0 w.heap.size 30 #[.slice A o.length n, .slice A' c.length n'] := by rw [← hW0]; exact has_new _ _ _
    clear hW0
    have e0 := has_cell k0 0 rfl
    have e1 := has_cell k0 1 rfl
    have K0 := Lib.hid k0; clear k0
    refine (szW_any w0 A A' o.length n c.length n' 1048576 ho hc (by omega) (by omega)).mono ?_
    rintro e w1 ⟨rfl, hb1⟩
    rw [Hs.out]
    go_wp2_with fail
    go_ret
    exact ⟨rfl, bthen b0 hb1⟩
  · have hlen : o.length ≤ 1048576 ∧ c.length ≤ 1048576 := by
      unfold szW szI at hbig
      split at hbig
      · omega
      · split at hbig <;> omega
    obtain ⟨lo, lc⟩ := hlen
    obtain ⟨s, hs⟩ : ∃ s, szW 1048576 o.length c.length = s := ⟨_, rfl⟩
    rw [hs] at hbig
    have Hs := Lib.hid hs; clear hs
    obtain ⟨q, hq⟩ : ∃ q, beforeB o c a m = q := ⟨_, rfl⟩
    have Hq := Lib.hid hq; clear hq
    cases q with
    | none =>
      go_enter Try.func8, Try.ntmps8
      go_wp2_with fail
      generalize hW0 : (w.alloc (.cells #[.slice A o.length n, .slice A' c.length n'] 30)) = w0
      have b0 : Below w.heap.size w w0 := by rw [← hW0]; exact balloc _ _
      have k0 : Has w0 w.heap.size 30 #[.slice A o.length n, .slice A' c.length n'] := by rw [← hW0]; exact has_new _ _ _
      clear hW0
      have e0 := has_cell k0 0 rfl
      have e1 := has_cell k0 1 rfl
      have K0 := Lib.hid k0; clear k0
      refine (szW_any w0 A A' o.length n c.length n' 1048576 ho hc (by omega) (by omega)).mono ?_
      rintro e w1 ⟨rfl, hb1⟩
      rw [Hs.out]
      clear e0 e1
      have c1 := bthen b0 hb1
      have k1 := has_call K0.out hb1
      have e0 := has_cell k1 0 rfl
      have e1 := has_cell k1 1 rfl
      have K1 := Lib.hid k1; clear k1
      go_wp2_with fail
      refine (toWeek_any w1 w.heap.size A A' n n' o c lo lc c1.size (HS.out.below c1) (HS'.out.below c1)).mono ?_
      rintro e w2 ⟨B2, B2', rfl, hS2, hS2', hb2⟩
      have HB2 := Lib.hid hS2; clear hS2
      have HB2' := Lib.hid hS2'; clear hS2'
      clear e0 e1
      have c2 := bthen c1 hb2
      have k2 := has_call K1.out hb2
      have e0 := has_cell k2 0 rfl
      have e1 := has_cell k2 1 rfl
      have K2 := Lib.hid k2; clear k2
      go_wp2_with fail
      refine (beforeS_any w2 w2.heap.size B2 B2' o.length c.length o c a m m1 m2 ho hc (Nat.le_refl _) HB2.out HB2'.out).mono ?_
      rintro e w3 ⟨rfl, hb3⟩
      rw [Hq.out]; unfold pairV
      clear e0 e1
      have c3 := bthen c2 hb3
      have k3 := has_call K2.out hb3
      have e0 := has_cell k3 0 rfl
      have e1 := has_cell k3 1 rfl
      have K3 := Lib.hid k3; clear k3
      go_wp2_with fail
      refine (toWeek_any w3 w.heap.size A A' n n' o c lo lc c3.size (HS.out.below c3) (HS'.out.below c3)).mono ?_
      rintro e w4 ⟨B4, B4', rfl, hS4, hS4', hb4⟩
      have HB4 := Lib.hid hS4; clear hS4
      have HB4' := Lib.hid hS4'; clear hS4'
      clear e0 e1
      have c4 := bthen c3 hb4
      have k4 := has_call K3.out hb4
      have e0 := has_cell k4 0 rfl
      have e1 := has_cell k4 1 rfl
      have K4 := Lib.hid k4; clear k4
      go_wp2_with fail
      generalize hX : (w4.alloc (.cells #[.slice B4 o.length o.length, .slice B4' c.length c.length] 34)) = x4
      have bx : Below w4.heap.size w4 x4 := by rw [← hX]; exact balloc _ _
      have kx : Has x4 w4.heap.size 34 #[.slice B4 o.length o.length, .slice B4' c.length c.length] := by rw [← hX]; exact has_new _ _ _
      clear hX
      clear e0 e1
      have cx := bthen c4 bx
      have kk := has_call K4.out bx
      have e0 := has_cell kk 0 rfl
      have e1 := has_cell kk 1 rfl
      have x0 := has_cell kx 0 rfl
      have x1 := has_cell kx 1 rfl
      have KK := Lib.hid kk; clear kk
      have KX := Lib.hid kx; clear kx
      try go_wp2_with fail
      refine (beforeI_any x4 w4.heap.size B4 B4' o.length c.length o c a m m1 m2 ho hc bx.size (HB4.out.below bx) (HB4'.out.below bx)).mono ?_
      rintro e w5 ⟨rfl, hb5⟩
      rw [Hq.out]; unfold pairV
      clear e0 e1
      have c5 := bthen cx hb5
      have k5 := has_call KK.out hb5
      have e0 := has_cell k5 0 rfl
      have e1 := has_cell k5 1 rfl
      have K5 := Lib.hid k5; clear k5
      clear x0 x1
      have x0 := has_cell (has_call KX.out hb5) 0 rfl
      have x1 := has_cell (has_call KX.out hb5) 1 rfl
      try go_wp2_with fail
      have c5d : Below w.heap.size w w5.drew := c5.drew
      have S0 : (fun W : World => (W.cell? ⟨w.heap.size, 0, none⟩ = some (.slice A o.length n) ∧ W.cell? ⟨w.heap.size, 1, none⟩ = some (.slice A' c.length n') ∧ W.cell? ⟨w4.heap.size, 0, none⟩ = some (.slice B4 o.length o.length) ∧ W.cell? ⟨w4.heap.size, 1, none⟩ = some (.slice B4' c.length c.length)) ∧ Below w5.heap.size w5 W) w5.drew := ⟨⟨e0, e1, x0, x1⟩, (Below.refl _ _).drew⟩
      have C5 := Lib.hid c5; clear c5
      have HB5 := Lib.hid hb5; clear hb5
      clear cx c4 hb4 hb1 hb2 hb3 c1 c2 c3
      have BX := Lib.hid bx; clear bx
      have hzx : w4.heap.size < x4.heap.size := has_lt KX.out
      have hz5 := HB5.out.size
      have hz6 := C5.out.size
      have hzk : w.heap.size < w5.heap.size := has_lt K5.out
      clear e0 e1 x0 x1
      go_region_held3 (fun W : World => (W.cell? ⟨w.heap.size, 0, none⟩ = some (.slice A o.length n) ∧ W.cell? ⟨w.heap.size, 1, none⟩ = some (.slice A' c.length n') ∧ W.cell? ⟨w4.heap.size, 0, none⟩ = some (.slice B4 o.length o.length) ∧ W.cell? ⟨w4.heap.size, 1, none⟩ = some (.slice B4' c.length c.length)) ∧ Below w5.heap.size w5 W) (first | assumption) (first
        | (go_at_call 16; go_must (refine (toWeek_any w5.drew w.heap.size A A' n n' o c lo lc c5d.size (HS.out.below c5d) (HS'.out.below c5d)).mono ?_); rintro e w6 ⟨B6, B6', rfl, hS6, hS6', hb6⟩; have HB6 := Lib.hid hS6; have HB6' := Lib.hid hS6'; clear hS6 hS6'; have hb56 : Below w5.heap.size w5 w6 := ((Below.refl w5.heap.size w5).drew).trans hb6; have hz56 := hb56.size; clear hb6; have S6 : (fun W : World => (W.cell? ⟨w.heap.size, 0, none⟩ = some (.slice A o.length n) ∧ W.cell? ⟨w.heap.size, 1, none⟩ = some (.slice A' c.length n') ∧ W.cell? ⟨w4.heap.size, 0, none⟩ = some (.slice B4 o.length o.length) ∧ W.cell? ⟨w4.heap.size, 1, none⟩ = some (.slice B4' c.length c.length)) ∧ Below w5.heap.size w5 W) w6 := ⟨⟨(bold hb56 _ _ (by omega)).trans S0.1.1, (bold hb56 _ _ (by omega)).trans S0.1.2.1, (bold hb56 _ _ (by omega)).trans S0.1.2.2.1, (bold hb56 _ _ (by omega)).trans S0.1.2.2.2⟩, hb56⟩)
        | (go_at_call 18; go_must (refine (eqWeek_any w6 w4.heap.size w6.heap.size B4 B4' B6 B6' o.length c.length o.length c.length o c ho hc (by omega) (Nat.le_refl _) (HB4.out.below (BX.out.trans ((HB5.out.trans (hb56.mono hz5)).mono BX.out.size))) (HB4'.out.below (BX.out.trans ((HB5.out.trans (hb56.mono hz5)).mono BX.out.size))) HB6.out HB6'.out).mono ?_); rintro e w7 ⟨rfl, hb7⟩; have hb57 := bthen hb56 hb7; have S7 : (fun W : World => (W.cell? ⟨w.heap.size, 0, none⟩ = some (.slice A o.length n) ∧ W.cell? ⟨w.heap.size, 1, none⟩ = some (.slice A' c.length n') ∧ W.cell? ⟨w4.heap.size, 0, none⟩ = some (.slice B4 o.length o.length) ∧ W.cell? ⟨w4.heap.size, 1, none⟩ = some (.slice B4' c.length c.length)) ∧ Below w5.heap.size w5 W) w7 := ⟨⟨(bold hb57 _ _ (by omega)).trans S0.1.1, (bold hb57 _ _ (by omega)).trans S0.1.2.1, (bold hb57 _ _ (by omega)).trans S0.1.2.2.1, (bold hb57 _ _ (by omega)).trans S0.1.2.2.2⟩, hb57⟩))
      go_wp2_with fail
      go_ret
      exact ⟨rfl, C5.out.trans (Below.mono hb57 hz6)⟩
    | some x =>
      have hxx : (x != x) = false := by simp
      go_enter Try.func8, Try.ntmps8
      go_wp2_with fail
      generalize hW0 : (w.alloc (.cells #[.slice A o.length n, .slice A' c.length n'] 30)) = w0
      have b0 : Below w.heap.size w w0 := by rw [← hW0]; exact balloc _ _
      have k0 : Has w0 w.heap.size 30 #[.slice A o.length n, .slice A' c.length n'] := by rw [← hW0]; exact has_new _ _ _
      clear hW0
      have e0 := has_cell k0 0 rfl
      have e1 := has_cell k0 1 rfl
      have K0 := Lib.hid k0; clear k0
      refine (szW_any w0 A A' o.length n c.length n' 1048576 ho hc (by omega) (by omega)).mono ?_
      rintro e w1 ⟨rfl, hb1⟩
      rw [Hs.out]
      clear e0 e1
      have c1 := bthen b0 hb1
      have k1 := has_call K0.out hb1
      have e0 := has_cell k1 0 rfl
      have e1 := has_cell k1 1 rfl
      have K1 := Lib.hid k1; clear k1
      go_wp2_with fail
      refine (toWeek_any w1 w.heap.size A A' n n' o c lo lc c1.size (HS.out.below c1) (HS'.out.below c1)).mono ?_
      rintro e w2 ⟨B2, B2', rfl, hS2, hS2', hb2⟩
      have HB2 := Lib.hid hS2; clear hS2
      have HB2' := Lib.hid hS2'; clear hS2'
      clear e0 e1
      have c2 := bthen c1 hb2
      have k2 := has_call K1.out hb2
      have e0 := has_cell k2 0 rfl
      have e1 := has_cell k2 1 rfl
      have K2 := Lib.hid k2; clear k2
      go_wp2_with fail
      refine (beforeS_any w2 w2.heap.size B2 B2' o.length c.length o c a m m1 m2 ho hc (Nat.le_refl _) HB2.out HB2'.out).mono ?_
      rintro e w3 ⟨rfl, hb3⟩
      rw [Hq.out]; unfold pairV
      clear e0 e1
      have c3 := bthen c2 hb3
      have k3 := has_call K2.out hb3
      have e0 := has_cell k3 0 rfl
      have e1 := has_cell k3 1 rfl
      have K3 := Lib.hid k3; clear k3
      go_wp2_with fail
      refine (toWeek_any w3 w.heap.size A A' n n' o c lo lc c3.size (HS.out.below c3) (HS'.out.below c3)).mono ?_
      rintro e w4 ⟨B4, B4', rfl, hS4, hS4', hb4⟩
      have HB4 := Lib.hid hS4; clear hS4
      have HB4' := Lib.hid hS4'; clear hS4'
      clear e0 e1
      have c4 := bthen c3 hb4
      have k4 := has_call K3.out hb4
      have e0 := has_cell k4 0 rfl
      have e1 := has_cell k4 1 rfl
      have K4 := Lib.hid k4; clear k4
      go_wp2_with fail
      generalize hX : (w4.alloc (.cells #[.slice B4 o.length o.length, .slice B4' c.length c.length] 34)) = x4
      have bx : Below w4.heap.size w4 x4 := by rw [← hX]; exact balloc _ _
      have kx : Has x4 w4.heap.size 34 #[.slice B4 o.length o.length, .slice B4' c.length c.length] := by rw [← hX]; exact has_new _ _ _
      clear hX
      clear e0 e1
      have cx := bthen c4 bx
      have kk := has_call K4.out bx
      have e0 := has_cell kk 0 rfl
      have e1 := has_cell kk 1 rfl
      have x0 := has_cell kx 0 rfl
      have x1 := has_cell kx 1 rfl
      have KK := Lib.hid kk; clear kk
      have KX := Lib.hid kx; clear kx
      try go_wp2_with fail
      refine (beforeI_any x4 w4.heap.size B4 B4' o.length c.length o c a m m1 m2 ho hc bx.size (HB4.out.below bx) (HB4'.out.below bx)).mono ?_
      rintro e w5 ⟨rfl, hb5⟩
      rw [Hq.out]; unfold pairV
      clear e0 e1
      have c5 := bthen cx hb5
      have k5 := has_call KK.out hb5
      have e0 := has_cell k5 0 rfl
      have e1 := has_cell k5 1 rfl
      have K5 := Lib.hid k5; clear k5
      clear x0 x1
      have x0 := has_cell (has_call KX.out hb5) 0 rfl
      have x1 := has_cell (has_call KX.out hb5) 1 rfl
      try go_wp2_with fail
      have c5d : Below w.heap.size w w5.drew := c5.drew
      have S0 : (fun W : World => (W.cell? ⟨w.heap.size, 0, none⟩ = some (.slice A o.length n) ∧ W.cell? ⟨w.heap.size, 1, none⟩ = some (.slice A' c.length n') ∧ W.cell? ⟨w4.heap.size, 0, none⟩ = some (.slice B4 o.length o.length) ∧ W.cell? ⟨w4.heap.size, 1, none⟩ = some (.slice B4' c.length c.length)) ∧ Below w5.heap.size w5 W) w5.drew := ⟨⟨e0, e1, x0, x1⟩, (Below.refl _ _).drew⟩
      have C5 := Lib.hid c5; clear c5
      have HB5 := Lib.hid hb5; clear hb5
      clear cx c4 hb4 hb1 hb2 hb3 c1 c2 c3
      have BX := Lib.hid bx; clear bx
      have hzx : w4.heap.size < x4.heap.size := has_lt KX.out
      have hz5 := HB5.out.size
      have hz6 := C5.out.size
      have hzk : w.heap.size < w5.heap.size := has_lt K5.out
      clear e0 e1 x0 x1
      go_region_held3 (fun W : World => (W.cell? ⟨w.heap.size, 0, none⟩ = some (.slice A o.length n) ∧ W.cell? ⟨w.heap.size, 1, none⟩ = some (.slice A' c.length n') ∧ W.cell? ⟨w4.heap.size, 0, none⟩ = some (.slice B4 o.length o.length) ∧ W.cell? ⟨w4.heap.size, 1, none⟩ = some (.slice B4' c.length c.length)) ∧ Below w5.heap.size w5 W) (first | assumption) (first
        | (go_at_call 16; go_must (refine (toWeek_any w5.drew w.heap.size A A' n n' o c lo lc c5d.size (HS.out.below c5d) (HS'.out.below c5d)).mono ?_); rintro e w6 ⟨B6, B6', rfl, hS6, hS6', hb6⟩; have HB6 := Lib.hid hS6; have HB6' := Lib.hid hS6'; clear hS6 hS6'; have hb56 : Below w5.heap.size w5 w6 := ((Below.refl w5.heap.size w5).drew).trans hb6; have hz56 := hb56.size; clear hb6; have S6 : (fun W : World => (W.cell? ⟨w.heap.size, 0, none⟩ = some (.slice A o.length n) ∧ W.cell? ⟨w.heap.size, 1, none⟩ = some (.slice A' c.length n') ∧ W.cell? ⟨w4.heap.size, 0, none⟩ = some (.slice B4 o.length o.length) ∧ W.cell? ⟨w4.heap.size, 1, none⟩ = some (.slice B4' c.length c.length)) ∧ Below w5.heap.size w5 W) w6 := ⟨⟨(bold hb56 _ _ (by omega)).trans S0.1.1, (bold hb56 _ _ (by omega)).trans S0.1.2.1, (bold hb56 _ _ (by omega)).trans S0.1.2.2.1, (bold hb56 _ _ (by omega)).trans S0.1.2.2.2⟩, hb56⟩)
        | (go_at_call 18; go_must (refine (eqWeek_any w6 w4.heap.size w6.heap.size B4 B4' B6 B6' o.length c.length o.length c.length o c ho hc (by omega) (Nat.le_refl _) (HB4.out.below (BX.out.trans ((HB5.out.trans (hb56.mono hz5)).mono BX.out.size))) (HB4'.out.below (BX.out.trans ((HB5.out.trans (hb56.mono hz5)).mono BX.out.size))) HB6.out HB6'.out).mono ?_); rintro e w7 ⟨rfl, hb7⟩; have hb57 := bthen hb56 hb7; have S7 : (fun W : World => (W.cell? ⟨w.heap.size, 0, none⟩ = some (.slice A o.length n) ∧ W.cell? ⟨w.heap.size, 1, none⟩ = some (.slice A' c.length n') ∧ W.cell? ⟨w4.heap.size, 0, none⟩ = some (.slice B4 o.length o.length) ∧ W.cell? ⟨w4.heap.size, 1, none⟩ = some (.slice B4' c.length c.length)) ∧ Below w5.heap.size w5 W) w7 := ⟨⟨(bold hb57 _ _ (by omega)).trans S0.1.1, (bold hb57 _ _ (by omega)).trans S0.1.2.1, (bold hb57 _ _ (by omega)).trans S0.1.2.2.1, (bold hb57 _ _ (by omega)).trans S0.1.2.2.2⟩, hb57⟩))
      go_wp2_with fail
      go_ret
      exact ⟨rfl, C5.out.trans (Below.mono hb57 hz6)⟩

end Go.Proofs.Ytaappomgimhefab
