/- The walk of the law FnAfterOpen. -/
import Derived.Test.YtaappomgimhefaaAfterPl
namespace Go.Proofs.Ytaappomgimhefaa
open Go.RowKit
set_option linter.unusedVariables false
section
variable {w0 W : World} {gw B n n' : Nat} {A A' : Option Addr} {o c : List (Int × Int)}
theorem after_S (a m : Int) (h1 : 0 ≤ m) (h2 : m ≤ 60) (ho : o.length ≤ maxLen) (hc : c.length ≤ maxLen) (h : WS w0 gw B A A' n n' o c W) :
    Calls Try.prog 19 #[.agg #[.slice A o.length n, .slice A' c.length n'], .int .i64 a, .int .i64 m] W fun e w' => e = .returned (pairV (afterB o c a m)) ∧ WS w0 gw B A A' n n' o c w' :=
  (afterI_any W B A A' n n' o c a m (by omega) (by omega) ho hc h.bz h.so h.sc).mono fun _ _ ⟨he, hb⟩ => ⟨he, h.call hb⟩
theorem before_S (a m : Int) (h1 : 0 ≤ m) (h2 : m ≤ 60) (ho : o.length ≤ maxLen) (hc : c.length ≤ maxLen) (h : WS w0 gw B A A' n n' o c W) :
    Calls Try.prog 20 #[.agg #[.slice A o.length n, .slice A' c.length n'], .int .i64 a, .int .i64 m] W fun e w' => e = .returned (pairV (beforeB o c a m)) ∧ WS w0 gw B A A' n n' o c w' :=
  (beforeI_any W B A A' n n' o c a m (by omega) (by omega) ho hc h.bz h.so h.sc).mono fun _ _ ⟨he, hb⟩ => ⟨he, h.call hb⟩
end

set_option maxRecDepth 100000 in
set_option maxHeartbeats 2000000 in
theorem afterOpen_walk (A0 : Option Addr) (n0 c0 : Nat) (w : World) (hn : n0 ≤ maxLen) (hS : BS w w.heap.size A0 n0) :
    Calls Try.prog 5 #[.slice A0 n0 c0] w fun e w' => e = .returned (.bool true) ∧ Below w.heap.size w w' := by
  have HS := Lib.hid hS; clear hS
  by_cases hbig : (1048576 : Int) < n0
  · have hd : decide ((1048576 : Int) < n0) = true := by simpa using hbig
    have Hd := Lib.hid hd; clear hd
    go_enter Try.func5, Try.ntmps5
    go_wp2_with fail
    refine (big_any w A0 n0 c0 hn).mono ?_
    rintro e w1 ⟨rfl, rfl⟩
    rw [Hd.out]
    go_wp2_with fail
    go_ret
    exact ⟨rfl, Below.refl _ _⟩
  have hd : decide ((1048576 : Int) < n0) = false := by simpa using hbig
  have Hd := Lib.hid hd; clear hd
  go_enter Try.func5, Try.ntmps5
  go_wp2_with fail
  refine (big_any w A0 n0 c0 hn).mono ?_
  rintro e w1 ⟨rfl, rfl⟩
  rw [Hd.out]
  go_wp2_with fail
  refine (drawWeek_any w1 A0 n0 c0 hn HS.out).mono ?_
  rintro e w2 ⟨A, A', n, n', o, c, rfl, hw, hlo, hlc, s1, s2, b2⟩
  have hlo' : o.length ≤ maxLen := by unfold maxLen; omega
  have hlc' : c.length ≤ maxLen := by unfold maxLen; omega
  have HW := Lib.hid hw; clear hw
  go_wp2_with fail
  generalize hW3 : w2.alloc (.cells #[.slice A o.length n, .slice A' c.length n'] 29) = w3
  have q3 : WS w1 w2.heap.size w2.heap.size A A' n n' o c w3 := by
    rw [← hW3]
    exact ⟨has_new _ _ _, s1.below (balloc _ _), s2.below (balloc _ _), (balloc _ _).size, bthen b2 (balloc _ _)⟩
  clear hW3 s1 s2
  have Q3 := Lib.hid q3; clear q3
  refine (places_any w3 A0 n0 c0 hn ((HS.out.below Q3.out.below).below' Q3.out.below.size)).mono ?_
  rintro e w4 ⟨b, cp, l, rfl, hl, hall, hcell, hbz, hbn, b4⟩
  have q4 := Q3.out.call b4
  have Q4 := Lib.hid q4; clear q4
  obtain ⟨x0, hx0⟩ : ∃ x, l[0]? = some x := ⟨_, List.getElem?_eq_getElem (by omega)⟩
  obtain ⟨x1, hx1⟩ : ∃ x, l[1]? = some x := ⟨_, List.getElem?_eq_getElem (by omega)⟩
  obtain ⟨x2, hx2⟩ : ∃ x, l[2]? = some x := ⟨_, List.getElem?_eq_getElem (by omega)⟩
  have e0 := hcell 0 x0 hx0
  have e1 := hcell 1 x1 hx1
  have e2 := hcell 2 x2 hx2
  have r0 := hall x0 (List.mem_of_getElem? hx0)
  have r1 := hall x1 (List.mem_of_getElem? hx1)
  have r2 := hall x2 (List.mem_of_getElem? hx2)
  clear hcell hall hx0 hx1 hx2 hl
  obtain ⟨p0, p1⟩ := r0
  obtain ⟨t0, t1⟩ := r1
  obtain ⟨v0, v1⟩ := r2
  have QB := Lib.hid b4; clear b4
  obtain ⟨g0, g1⟩ := Q4.out.cells
  go_wp2_with fail
  clear e0 e1 e2
  generalize ha : x0 % 500 = a
  have ha0 : 0 ≤ a ∧ a < 500 := by omega
  clear ha
  generalize hd : x1 % 60 = m
  have hd0 : 0 ≤ m ∧ m < 60 := by omega
  clear hd p0 p1 t0 t1 v0 v1
  obtain ⟨a0, a1⟩ := ha0
  obtain ⟨m0, m1⟩ := hd0
  obtain ⟨u, hB, hu, u0, u1, hu2, hu3⟩ := before_law o c a m HW.out a0 (by omega) m0
  have HB := Lib.hid hB; clear hB
  obtain ⟨y, hy⟩ : ∃ y, hoursB o c a u = y := ⟨_, rfl⟩
  rw [hy] at hu2
  have HY := Lib.hid hy; clear hy
  have HU3 := Lib.hid hu3; clear hu3
  have fin : ∀ W, WS w1 w2.heap.size w2.heap.size A A' n n' o c W → Below w1.heap.size w1 W := fun W h => h.below
  have FIN := Lib.hid fin; clear fin
  have mm : (m == m) = true := by simp
  have mm1 : (m + 1 != m + 1) = false := by simp
  cases hA : afterB o c a m with
  | none =>
    have hn0 := after_none o c a m HW.out a0 (by omega) m0 hA
    obtain ⟨z, hz⟩ : ∃ z, hoursB o c a 20000 = z := ⟨_, rfl⟩
    rw [hz] at hn0
    have HZ := Lib.hid hz; clear hz
    have HA := Lib.hid hA; clear hA
    clear hu
    by_cases hul : u < 20000
    · have hu4 := HU3.out hul
      have HU4 := Lib.hid hu4; clear hu4
      refine (after_S a m m0 (by omega) hlo' hlc' Q4.out).mono ?_
      rintro e wq ⟨rfl, hq⟩
      rw [HA.out]; unfold pairV
      clear g0 g1
      have HQ1 := Lib.hid hq
      obtain ⟨g0, g1⟩ := hq.cells
      clear hq
      go_wp2_with fail
      refine (before_S a m m0 (by omega) hlo' hlc' HQ1.out).mono ?_
      rintro e wq ⟨rfl, hq⟩
      rw [HB.out]; unfold pairV
      clear g0 g1
      have HQ2 := Lib.hid hq
      obtain ⟨g0, g1⟩ := hq.cells
      clear hq
      go_wp2_with fail
      refine (hours_S _ _ hlo' hlc' HQ2.out).mono ?_
      rintro e wq ⟨rfl, hq⟩
      rw [HY.out]
      clear g0 g1
      have HQ3 := Lib.hid hq
      obtain ⟨g0, g1⟩ := hq.cells
      clear hq
      go_wp2_with fail
      refine (hours_S _ _ hlo' hlc' HQ3.out).mono ?_
      rintro e wq ⟨rfl, hq⟩
      rw [HU4.out]
      clear g0 g1
      have HQ4 := Lib.hid hq
      obtain ⟨g0, g1⟩ := hq.cells
      clear hq
      go_wp2_with fail
      refine (hours_S _ _ hlo' hlc' HQ4.out).mono ?_
      rintro e wq ⟨rfl, hq⟩
      rw [HZ.out]
      go_wp2_with fail
      go_ret
      exact ⟨rfl, FIN.out _ hq⟩
    · skip
      refine (after_S a m m0 (by omega) hlo' hlc' Q4.out).mono ?_
      rintro e wq ⟨rfl, hq⟩
      rw [HA.out]; unfold pairV
      clear g0 g1
      have HQ1 := Lib.hid hq
      obtain ⟨g0, g1⟩ := hq.cells
      clear hq
      go_wp2_with fail
      refine (before_S a m m0 (by omega) hlo' hlc' HQ1.out).mono ?_
      rintro e wq ⟨rfl, hq⟩
      rw [HB.out]; unfold pairV
      clear g0 g1
      have HQ2 := Lib.hid hq
      obtain ⟨g0, g1⟩ := hq.cells
      clear hq
      go_wp2_with fail
      refine (hours_S _ _ hlo' hlc' HQ2.out).mono ?_
      rintro e wq ⟨rfl, hq⟩
      rw [HY.out]
      clear g0 g1
      have HQ3 := Lib.hid hq
      obtain ⟨g0, g1⟩ := hq.cells
      clear hq
      go_wp2_with fail
      refine (hours_S _ _ hlo' hlc' HQ3.out).mono ?_
      rintro e wq ⟨rfl, hq⟩
      rw [HZ.out]
      go_wp2_with fail
      go_ret
      exact ⟨rfl, FIN.out _ hq⟩
  | some t =>
    obtain ⟨ht0, ht1, ht2, ht3, ht4⟩ := after_law o c a m t HW.out a0 (by omega) m0 hA
    rw [← hu] at ht1
    clear hu
    have HT := Lib.hid ht2; clear ht2
    have HA := Lib.hid hA; clear hA
    rcases ht4 with ⟨hm0, hta⟩ | ⟨hm0, hop⟩
    · subst hta
      have hmz : (m == 0) = true := by simp [hm0]
      have htt : (t == t) = true := by simp
      clear hm0
      by_cases hul : u < 20000
      · have hu4 := HU3.out hul
        have HU4 := Lib.hid hu4; clear hu4
        refine (after_S t m m0 (by omega) hlo' hlc' Q4.out).mono ?_
        rintro e wq ⟨rfl, hq⟩
        rw [HA.out]; unfold pairV
        clear g0 g1
        have HQ1 := Lib.hid hq
        obtain ⟨g0, g1⟩ := hq.cells
        clear hq
        go_wp2_with fail
        refine (before_S t m m0 (by omega) hlo' hlc' HQ1.out).mono ?_
        rintro e wq ⟨rfl, hq⟩
        rw [HB.out]; unfold pairV
        clear g0 g1
        have HQ2 := Lib.hid hq
        obtain ⟨g0, g1⟩ := hq.cells
        clear hq
        go_wp2_with fail
        refine (hours_S _ _ hlo' hlc' HQ2.out).mono ?_
        rintro e wq ⟨rfl, hq⟩
        rw [HY.out]
        clear g0 g1
        have HQ3 := Lib.hid hq
        obtain ⟨g0, g1⟩ := hq.cells
        clear hq
        go_wp2_with fail
        refine (hours_S _ _ hlo' hlc' HQ3.out).mono ?_
        rintro e wq ⟨rfl, hq⟩
        rw [HU4.out]
        clear g0 g1
        have HQ4 := Lib.hid hq
        obtain ⟨g0, g1⟩ := hq.cells
        clear hq
        go_wp2_with fail
        refine (hours_S _ _ hlo' hlc' HQ4.out).mono ?_
        rintro e wq ⟨rfl, hq⟩
        rw [HT.out]
        clear g0 g1
        have HQF := Lib.hid hq
        obtain ⟨g0, g1⟩ := hq.cells
        clear hq
        go_wp2_with fail
        go_ret
        exact ⟨rfl, FIN.out _ HQF.out⟩
      · skip
        refine (after_S t m m0 (by omega) hlo' hlc' Q4.out).mono ?_
        rintro e wq ⟨rfl, hq⟩
        rw [HA.out]; unfold pairV
        clear g0 g1
        have HQ1 := Lib.hid hq
        obtain ⟨g0, g1⟩ := hq.cells
        clear hq
        go_wp2_with fail
        refine (before_S t m m0 (by omega) hlo' hlc' HQ1.out).mono ?_
        rintro e wq ⟨rfl, hq⟩
        rw [HB.out]; unfold pairV
        clear g0 g1
        have HQ2 := Lib.hid hq
        obtain ⟨g0, g1⟩ := hq.cells
        clear hq
        go_wp2_with fail
        refine (hours_S _ _ hlo' hlc' HQ2.out).mono ?_
        rintro e wq ⟨rfl, hq⟩
        rw [HY.out]
        clear g0 g1
        have HQ3 := Lib.hid hq
        obtain ⟨g0, g1⟩ := hq.cells
        clear hq
        go_wp2_with fail
        refine (hours_S _ _ hlo' hlc' HQ3.out).mono ?_
        rintro e wq ⟨rfl, hq⟩
        rw [HT.out]
        clear g0 g1
        have HQF := Lib.hid hq
        obtain ⟨g0, g1⟩ := hq.cells
        clear hq
        go_wp2_with fail
        go_ret
        exact ⟨rfl, FIN.out _ HQF.out⟩
    · have HOP := Lib.hid hop; clear hop
      have hmz : (m == 0) = false := by simp; omega
      by_cases hul : u < 20000
      · have hu4 := HU3.out hul
        have HU4 := Lib.hid hu4; clear hu4
        refine (after_S a m m0 (by omega) hlo' hlc' Q4.out).mono ?_
        rintro e wq ⟨rfl, hq⟩
        rw [HA.out]; unfold pairV
        clear g0 g1
        have HQ1 := Lib.hid hq
        obtain ⟨g0, g1⟩ := hq.cells
        clear hq
        go_wp2_with fail
        refine (before_S a m m0 (by omega) hlo' hlc' HQ1.out).mono ?_
        rintro e wq ⟨rfl, hq⟩
        rw [HB.out]; unfold pairV
        clear g0 g1
        have HQ2 := Lib.hid hq
        obtain ⟨g0, g1⟩ := hq.cells
        clear hq
        go_wp2_with fail
        refine (hours_S _ _ hlo' hlc' HQ2.out).mono ?_
        rintro e wq ⟨rfl, hq⟩
        rw [HY.out]
        clear g0 g1
        have HQ3 := Lib.hid hq
        obtain ⟨g0, g1⟩ := hq.cells
        clear hq
        go_wp2_with fail
        refine (hours_S _ _ hlo' hlc' HQ3.out).mono ?_
        rintro e wq ⟨rfl, hq⟩
        rw [HU4.out]
        clear g0 g1
        have HQ4 := Lib.hid hq
        obtain ⟨g0, g1⟩ := hq.cells
        clear hq
        go_wp2_with fail
        refine (hours_S _ _ hlo' hlc' HQ4.out).mono ?_
        rintro e wq ⟨rfl, hq⟩
        rw [HT.out]
        clear g0 g1
        have HQF := Lib.hid hq
        obtain ⟨g0, g1⟩ := hq.cells
        clear hq
        go_wp2_with fail
        refine (isOpen_S _ hlo' hlc' HQF.out).mono ?_
        rintro e wq ⟨rfl, hq⟩
        rw [HOP.out]
        go_wp2_with fail
        go_ret
        exact ⟨rfl, FIN.out _ hq⟩
      · skip
        refine (after_S a m m0 (by omega) hlo' hlc' Q4.out).mono ?_
        rintro e wq ⟨rfl, hq⟩
        rw [HA.out]; unfold pairV
        clear g0 g1
        have HQ1 := Lib.hid hq
        obtain ⟨g0, g1⟩ := hq.cells
        clear hq
        go_wp2_with fail
        refine (before_S a m m0 (by omega) hlo' hlc' HQ1.out).mono ?_
        rintro e wq ⟨rfl, hq⟩
        rw [HB.out]; unfold pairV
        clear g0 g1
        have HQ2 := Lib.hid hq
        obtain ⟨g0, g1⟩ := hq.cells
        clear hq
        go_wp2_with fail
        refine (hours_S _ _ hlo' hlc' HQ2.out).mono ?_
        rintro e wq ⟨rfl, hq⟩
        rw [HY.out]
        clear g0 g1
        have HQ3 := Lib.hid hq
        obtain ⟨g0, g1⟩ := hq.cells
        clear hq
        go_wp2_with fail
        refine (hours_S _ _ hlo' hlc' HQ3.out).mono ?_
        rintro e wq ⟨rfl, hq⟩
        rw [HT.out]
        clear g0 g1
        have HQF := Lib.hid hq
        obtain ⟨g0, g1⟩ := hq.cells
        clear hq
        go_wp2_with fail
        refine (isOpen_S _ hlo' hlc' HQF.out).mono ?_
        rintro e wq ⟨rfl, hq⟩
        rw [HOP.out]
        go_wp2_with fail
        go_ret
        exact ⟨rfl, FIN.out _ hq⟩
end Go.Proofs.Ytaappomgimhefaa
