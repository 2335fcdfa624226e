/- The walk of the law FnOpenHours. -/
import Derived.Test.YtaappomgimhefaaWeekLw
import Derived.Deep.RegionHeld3
namespace Go.Proofs.Ytaappomgimhefaa
open Go.RowKit
set_option linter.unusedVariables false

set_option maxRecDepth 100000 in
set_option maxHeartbeats 2000000 in
theorem openHours_walk (A0 : Option Addr) (n0 c0 : Nat) (w : World) (hn : n0 ≤ maxLen) (hS : BS w w.heap.size A0 n0) :
    Calls Try.prog 4 #[.slice A0 n0 c0] w fun e w' => e = .returned (.bool true) ∧ Below w.heap.size w w' := by
  have HS := Lib.hid hS; clear hS
  by_cases hbig : (1048576 : Int) < n0
  · have hd : decide ((1048576 : Int) < n0) = true := by simpa using hbig
    have Hd := Lib.hid hd; clear hd
    go_enter Try.func4, Try.ntmps4
    go_wp2_with fail
    refine (big_any w A0 n0 c0 hn).mono ?_
    rintro e w1 ⟨rfl, rfl⟩
    rw [Hd.out]
    go_wp2_with fail
    go_ret
    exact ⟨rfl, Below.refl _ _⟩
  have hd : decide ((1048576 : Int) < n0) = false := by simpa using hbig
  have Hd := Lib.hid hd; clear hd
  go_enter Try.func4, Try.ntmps4
  go_wp2_with fail
  refine (big_any w A0 n0 c0 hn).mono ?_
  rintro e w1 ⟨rfl, rfl⟩
  rw [Hd.out]
  go_wp2_with fail
  refine (drawWeek_any w1 A0 n0 c0 hn HS.out).mono ?_
  rintro e w2 ⟨A, A', n, n', o, c, rfl, hw, hlo, hlc, s1, s2, b2⟩
  have hlo' : o.length ≤ maxLen := by unfold maxLen; omega
  have hlc' : c.length ≤ maxLen := by unfold maxLen; omega
  have HW := Lib.hid hw; clear hw
  go_wp2_with fail
  generalize hW3 : w2.alloc (.cells #[.slice A o.length n, .slice A' c.length n'] 29) = w3
  have q3 : WS w1 w2.heap.size w2.heap.size A A' n n' o c w3 := by
    rw [← hW3]
    exact ⟨has_new _ _ _, s1.below (balloc _ _), s2.below (balloc _ _), (balloc _ _).size, bthen b2 (balloc _ _)⟩
  clear hW3 s1 s2
  have Q3 := Lib.hid q3; clear q3
  refine (places_any w3 A0 n0 c0 hn ((HS.out.below Q3.out.below).below' Q3.out.below.size)).mono ?_
  rintro e w4 ⟨b, cp, l, rfl, hl, hall, hcell, hbz, hbn, b4⟩
  have q4 := Q3.out.call b4
  have Q4 := Lib.hid q4; clear q4
  obtain ⟨x0, hx0⟩ : ∃ x, l[0]? = some x := ⟨_, List.getElem?_eq_getElem (by omega)⟩
  obtain ⟨x1, hx1⟩ : ∃ x, l[1]? = some x := ⟨_, List.getElem?_eq_getElem (by omega)⟩
  obtain ⟨x2, hx2⟩ : ∃ x, l[2]? = some x := ⟨_, List.getElem?_eq_getElem (by omega)⟩
  have e0 := hcell 0 x0 hx0
  have e1 := hcell 1 x1 hx1
  have e2 := hcell 2 x2 hx2
  have r0 := hall x0 (List.mem_of_getElem? hx0)
  have r1 := hall x1 (List.mem_of_getElem? hx1)
  have r2 := hall x2 (List.mem_of_getElem? hx2)
  clear hcell hall hx0 hx1 hx2 hl
  obtain ⟨p0, p1⟩ := r0
  obtain ⟨t0, t1⟩ := r1
  obtain ⟨v0, v1⟩ := r2
  have QB := Lib.hid b4; clear b4
  go_wp2_with fail
  clear e0 e1 e2
  generalize ha : x0 % 500 = a
  have ha0 : 0 ≤ a ∧ a < 500 := by omega
  clear ha
  generalize hd : x1 % 200 = d
  have hd0 : 0 ≤ d ∧ d < 200 := by omega
  clear hd
  generalize hf : x2 % 3000 = f
  have hf0 : 0 ≤ f ∧ f < 3000 := by omega
  clear hf p0 p1 t0 t1 v0 v1
  obtain ⟨a0, a1⟩ := ha0
  obtain ⟨d0, d1⟩ := hd0
  obtain ⟨f0, f1⟩ := hf0
  go_loopw [8, 9] (fun u h wr => ∃ k : Nat, (k : Int) ≤ d ∧ h = .int .i64 (a + k) ∧ u = .int .i64 (cntB o c a k) ∧ WS w1 w2.heap.size w2.heap.size A A' n n' o c wr) (fun _ h _ => (a + d - intOf h).toNat)
  case atStart => exact ⟨0, by omega, by simp, rfl, Q4.out⟩
  case round =>
    obtain ⟨k, hk, rfl, rfl, hq⟩ := hrel
    have hcb := cnt_bd o c a k
    obtain ⟨hc0, hc1⟩ := hcb
    have HQ := Lib.hid hq; clear hq
    have ec := HQ.out.cells
    by_cases hlt : (k : Int) < d
    · obtain ⟨g0, g1⟩ := ec
      have hop : isOpenB o c (a + k) = openB o c (a + k) := isOpen_in o c (a + k) HW.out (by omega) (by omega)
      cases hop' : openB o c (a + k)
      all_goals
        rw [hop'] at hop
        have Hop := Lib.hid hop; clear hop
        have Hop' := Lib.hid hop'; clear hop'
        go_wp2_with fail
        refine (isOpen_S (a + k) hlo' hlc' HQ.out).mono ?_
        rintro e w5 ⟨rfl, hq5⟩
        rw [Hop.out]
        go_wp2_with fail
        go_roundw
        case rel => first | exact ⟨k + 1, by omega, by rw [show a + ((k + 1 : Nat) : Int) = a + k + 1 by omega], by rw [cnt_no o c a k Hop'.out], hq5⟩ | exact ⟨k + 1, by omega, by rw [show a + ((k + 1 : Nat) : Int) = a + k + 1 by omega], by rw [cnt_yes o c a k Hop'.out], hq5⟩
        case measure => simp [intOf]; omega
    · have hkd : (k : Int) = d := by omega
      have hge : ¬ (a + (k : Int) < a + d) := by omega
      have HKD := Lib.hid hkd; clear hkd
      obtain ⟨g0, g1⟩ := ec
      go_wp2_with fail
      have hkd := HKD.out
      have h1 : hoursB o c a (a + d) = cntB o c a k := by rw [hours_eq o c a (a + d) HW.out a0 (by omega) (by omega), show (a + d - a).toNat = k by omega]
      have h2 : hoursB o c a (a + d + f) = hoursB o c a (a + d) + hoursB o c (a + d) (a + d + f) := hours_add o c a (a + d) (a + d + f) HW.out a0 (by omega) (by omega) (by omega)
      have h3 : hoursB o c (a + d) (a - 1) = 0 := hours_back o c _ _ (by omega)
      have h4 := cnt_bd o c (a + d) f.toNat
      have h5 : hoursB o c (a + d) (a + d + f) = cntB o c (a + d) f.toNat := by rw [hours_eq o c _ _ HW.out (by omega) (by omega) (by omega), show (a + d + f - (a + d)).toNat = f.toNat by omega]
      rw [← h5] at h4
      rw [h1] at h2
      clear h5 hkd HKD
      generalize cntB o c a k = m at *
      generalize hz : hoursB o c (a + d) (a + d + f) = y at *
      have H1 := Lib.hid h1; have H2 := Lib.hid h2; have H3 := Lib.hid h3; have H4 := Lib.hid hz
      clear h1 h2 h3 hz
      obtain ⟨y0, y1⟩ := h4
      have hy : y ≤ 20000 := by omega
      have qa : IntKind.i64.wrap (a - 1) = a - 1 := IntWalk.i64_in _ (by omega)
      have qm : IntKind.i64.wrap (m + y) = m + y := IntWalk.i64_in _ (by omega)
      have S0 : (fun W : World => (W.cell? ⟨w2.heap.size, 0, none⟩ = some (.slice A o.length n) ∧ W.cell? ⟨w2.heap.size, 1, none⟩ = some (.slice A' c.length n')) ∧ WS w1 w2.heap.size w2.heap.size A A' n n' o c W) wr.drew := ⟨⟨g0, g1⟩, HQ.out.drew⟩
      have P0 : WS w1 w2.heap.size w2.heap.size A A' n n' o c wr.drew := HQ.out.drew
      have t1 : (m == m) = true := by simp
      have t2 : (m + y == m + y) = true := by simp
      generalize hb2 : a + d = b2 at *
      go_region_held3 (fun W : World => (W.cell? ⟨w2.heap.size, 0, none⟩ = some (.slice A o.length n) ∧ W.cell? ⟨w2.heap.size, 1, none⟩ = some (.slice A' c.length n')) ∧ WS w1 w2.heap.size w2.heap.size A A' n n' o c W) (first | assumption) (first
        | (go_at_call 17; refine (weekOk_S hlo' hlc' (by assumption)).mono ?_; rintro e w' ⟨rfl, hq⟩; have S5 : (fun W : World => (W.cell? ⟨w2.heap.size, 0, none⟩ = some (.slice A o.length n) ∧ W.cell? ⟨w2.heap.size, 1, none⟩ = some (.slice A' c.length n')) ∧ WS w1 w2.heap.size w2.heap.size A A' n n' o c W) w' := ⟨hq.cells, hq⟩; rw [HW.out])
        | (go_at_call 18; refine (hours_S _ _ hlo' hlc' (by assumption)).mono ?_; rintro e w' ⟨rfl, hq⟩; have S5 : (fun W : World => (W.cell? ⟨w2.heap.size, 0, none⟩ = some (.slice A o.length n) ∧ W.cell? ⟨w2.heap.size, 1, none⟩ = some (.slice A' c.length n')) ∧ WS w1 w2.heap.size w2.heap.size A A' n n' o c W) w' := ⟨hq.cells, hq⟩; first | rw [H1.out] | rw [H2.out] | rw [H3.out] | rw [H4.out]))
      all_goals
        clear qa qm S0 P0
        go_wp2_with fail
        go_ret
        exact ⟨rfl, hq.below⟩
end Go.Proofs.Ytaappomgimhefaa
