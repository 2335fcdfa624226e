/- Chapter 6: contracts of stepsBegun, of the tariff and of l06Fee (gen_feeb.py). -/
import Derived.Test.YtfkhhefphbhppaaFeeP
import Derived.Test.YtfkhhefphbhppaaOwn
import Derived.Deep.RegionHeld3
import Derived.Deep.DeepMust
import Derived.WalkLawsBesides
namespace Go.Proofs.Ytfkhhefphbhppaa
open Go.RowKit
set_option linter.unusedVariables false
theorem lt_of_cell6 {w : World} {b o : Nat} {v : Value} (h : w.cell? ⟨b, o, none⟩ = some v) : b < w.heap.size := by
  rcases Nat.lt_or_ge b w.heap.size with hlt | hge
  · exact hlt
  · unfold World.cell? at h
    rw [Array.getElem?_eq_none hge] at h
    simp at h
theorem fint {k : IntKind} {a b : Int} (h : a = b) : Ending.returned (.int k a) = .returned (.int k b) := by rw [h]

set_option maxRecDepth 100000 in
set_option maxHeartbeats 2000000 in
theorem stepsI_any (w : World) (t : Tm) (x : Int) (ht : termsB t = true) (hh : 0 ≤ x ∧ x ≤ 50000) : Calls Try.prog 38 #[.agg #[.int .i64 t.keep, .int .i64 t.free, .int .i64 t.step, .int .i64 t.rate, .int .i64 t.cap, .int .i64 t.longer, .int .i64 t.price, .int .i64 t.most], .int .i64 x] w fun e w' => e = .returned (.int .i64 (stepsB t x)) ∧ Below w.heap.size w w' := by
  obtain ⟨h1, h2, h3, h4, h5, h6, h7, h8⟩ := (terms_iff t).1 ht
  have HT := Lib.hid ht; clear ht
  go_enter Try.func38, Try.ntmps38
  go_wp2
  all_goals
    go_ret
    exact ⟨fint (by unfold stepsB; first | (rw [show max (x - t.free) 0 = x - t.free by omega]; done) | (rw [show max (x - t.free) 0 = 0 by omega]; congr 1; omega)), balloc _ _⟩

/-- what the tariff has caught: the terms' and the size's boxes -/
def Caught6 (W : World) (b1 b2 : Nat) (t : Tm) (z : Int) : Prop := (W.cell? ⟨b1, 0, none⟩ = some (.int .i64 t.keep) ∧ W.cell? ⟨b1, 1, none⟩ = some (.int .i64 t.free) ∧ W.cell? ⟨b1, 2, none⟩ = some (.int .i64 t.step) ∧ W.cell? ⟨b1, 3, none⟩ = some (.int .i64 t.rate) ∧ W.cell? ⟨b1, 4, none⟩ = some (.int .i64 t.cap) ∧ W.cell? ⟨b1, 5, none⟩ = some (.int .i64 t.longer) ∧ W.cell? ⟨b1, 6, none⟩ = some (.int .i64 t.price) ∧ W.cell? ⟨b1, 7, none⟩ = some (.int .i64 t.most)) ∧ W.cell? ⟨b2, 0, none⟩ = some (.int .i64 z)
theorem Caught6.call {W W' : World} {b1 b2 : Nat} {t : Tm} {z : Int} (h : Caught6 W b1 b2 t z) (hb : Below W.heap.size W W') : Caught6 W' b1 b2 t z := by
  have l1 := lt_of_cell6 h.1.1
  have l2 := lt_of_cell6 h.2
  obtain ⟨⟨c0, c1, c2, c3, c4, c5, c6, c7⟩, d0⟩ := h
  exact ⟨⟨(bold hb b1 0 l1).trans c0, (bold hb b1 1 l1).trans c1, (bold hb b1 2 l1).trans c2, (bold hb b1 3 l1).trans c3, (bold hb b1 4 l1).trans c4, (bold hb b1 5 l1).trans c5, (bold hb b1 6 l1).trans c6, (bold hb b1 7 l1).trans c7⟩, (bold hb b2 0 l2).trans d0⟩
set_option maxRecDepth 100000 in
set_option maxHeartbeats 4000000 in
theorem tariff_any (w : World) (b1 b2 : Nat) (t : Tm) (z x : Int) (hz : 0 ≤ z ∧ z ≤ 24) (ht : termsB t = true) (hh : 0 ≤ x ∧ x ≤ 50000) (hC : Caught6 w b1 b2 t z) :
    Calls Try.prog 37 #[.int .i64 x, .pointer (some ⟨b1, 0, none⟩), .pointer (some ⟨b2, 0, none⟩)] w fun e w' => e = .returned (.int .i64 (storB t z x)) ∧ Below w.heap.size w w' := by
  obtain ⟨h1, h2, h3, h4, h5, h6, h7, h8⟩ := (terms_iff t).1 ht
  have sb := steps_bound h2.1 h4.1 hh.2
  have sn := steps_nonneg h2.1 x
  have pb := prod_bound sn sb h5.1 h5.2 hz.1 hz.2
  obtain ⟨pb0, pb1, pb2, pb3⟩ := pb
  have hw1 : IntKind.i64.wrap (stepsB t x * t.rate) = stepsB t x * t.rate := IntWalk.i64_in _ (by omega)
  have hw2 : IntKind.i64.wrap (stepsB t x * t.rate * z) = stepsB t x * t.rate * z := IntWalk.i64_in _ (by omega)
  have HT := Lib.hid ht; clear ht
  have l1 := lt_of_cell6 hC.1.1
  have l2 := lt_of_cell6 hC.2
  have S0 : (fun W : World => ((W.cell? ⟨b1, 0, none⟩ = some (.int .i64 t.keep) ∧ W.cell? ⟨b1, 1, none⟩ = some (.int .i64 t.free) ∧ W.cell? ⟨b1, 2, none⟩ = some (.int .i64 t.step) ∧ W.cell? ⟨b1, 3, none⟩ = some (.int .i64 t.rate) ∧ W.cell? ⟨b1, 4, none⟩ = some (.int .i64 t.cap) ∧ W.cell? ⟨b1, 5, none⟩ = some (.int .i64 t.longer) ∧ W.cell? ⟨b1, 6, none⟩ = some (.int .i64 t.price) ∧ W.cell? ⟨b1, 7, none⟩ = some (.int .i64 t.most)) ∧ W.cell? ⟨b2, 0, none⟩ = some (.int .i64 z)) ∧ Below w.heap.size w W) w.drew := ⟨hC, (Below.refl _ _).drew⟩
  clear hC
  go_enter Try.func37, Try.ntmps37
  go_wp2_with fail
  go_region_held3 (fun W : World => ((W.cell? ⟨b1, 0, none⟩ = some (.int .i64 t.keep) ∧ W.cell? ⟨b1, 1, none⟩ = some (.int .i64 t.free) ∧ W.cell? ⟨b1, 2, none⟩ = some (.int .i64 t.step) ∧ W.cell? ⟨b1, 3, none⟩ = some (.int .i64 t.rate) ∧ W.cell? ⟨b1, 4, none⟩ = some (.int .i64 t.cap) ∧ W.cell? ⟨b1, 5, none⟩ = some (.int .i64 t.longer) ∧ W.cell? ⟨b1, 6, none⟩ = some (.int .i64 t.price) ∧ W.cell? ⟨b1, 7, none⟩ = some (.int .i64 t.most)) ∧ W.cell? ⟨b2, 0, none⟩ = some (.int .i64 z)) ∧ Below w.heap.size w W) (first | assumption) (first
    | (go_at_call 38; go_must (refine (stepsI_any _ t x HT.out hh).mono ?_); rintro e w1 ⟨rfl, hb⟩; have hb2 := bthen S0.2 hb; have S1 : (fun W : World => ((W.cell? ⟨b1, 0, none⟩ = some (.int .i64 t.keep) ∧ W.cell? ⟨b1, 1, none⟩ = some (.int .i64 t.free) ∧ W.cell? ⟨b1, 2, none⟩ = some (.int .i64 t.step) ∧ W.cell? ⟨b1, 3, none⟩ = some (.int .i64 t.rate) ∧ W.cell? ⟨b1, 4, none⟩ = some (.int .i64 t.cap) ∧ W.cell? ⟨b1, 5, none⟩ = some (.int .i64 t.longer) ∧ W.cell? ⟨b1, 6, none⟩ = some (.int .i64 t.price) ∧ W.cell? ⟨b1, 7, none⟩ = some (.int .i64 t.most)) ∧ W.cell? ⟨b2, 0, none⟩ = some (.int .i64 z)) ∧ Below w.heap.size w W) w1 := ⟨Caught6.call (show Caught6 w.drew b1 b2 t z from S0.1) hb, hb2⟩; clear hb))
  all_goals go_wp2_with fail
  all_goals
    go_ret
    exact ⟨fint (by unfold storB; omega), hb2⟩
set_option maxRecDepth 100000 in
set_option maxHeartbeats 1000000 in
theorem tariffOf_any (w : World) (t : Tm) (z : Int) : Calls Try.prog 24 #[.agg #[.int .i64 t.keep, .int .i64 t.free, .int .i64 t.step, .int .i64 t.rate, .int .i64 t.cap, .int .i64 t.longer, .int .i64 t.price, .int .i64 t.most], .int .i64 z] w fun e w' => ∃ b1 b2, e = .returned (.func (.func 37) #[] #[.pointer (some ⟨b1, 0, none⟩), .pointer (some ⟨b2, 0, none⟩)]) ∧ Caught6 w' b1 b2 t z ∧ Below w.heap.size w w' := by
  go_enter Try.func24, Try.ntmps24
  go_wp2_with fail
  generalize hX : w.alloc (.cells #[.int .i64 t.keep, .int .i64 t.free, .int .i64 t.step, .int .i64 t.rate, .int .i64 t.cap, .int .i64 t.longer, .int .i64 t.price, .int .i64 t.most] 35) = w1
  have k1 : Has w1 w.heap.size 35 #[.int .i64 t.keep, .int .i64 t.free, .int .i64 t.step, .int .i64 t.rate, .int .i64 t.cap, .int .i64 t.longer, .int .i64 t.price, .int .i64 t.most] := by rw [← hX]; exact has_new _ _ _
  have b1 : Below w.heap.size w w1 := by rw [← hX]; exact balloc _ _
  have z1 : w1.heap.size = w.heap.size + 1 := by rw [← hX]; simp
  clear hX
  generalize hY : w1.alloc (.cells #[.int .i64 z] 3) = w2
  have k2 : Has w2 w1.heap.size 3 #[.int .i64 z] := by rw [← hY]; exact has_new _ _ _
  have b2 : Below w1.heap.size w1 w2 := by rw [← hY]; exact balloc _ _
  clear hY
  have k3 := has_call k1 b2
  rw [z1] at k2
  go_ret
  exact ⟨_, _, rfl, ⟨⟨has_cell k3 0 rfl, has_cell k3 1 rfl, has_cell k3 2 rfl, has_cell k3 3 rfl, has_cell k3 4 rfl, has_cell k3 5 rfl, has_cell k3 6 rfl, has_cell k3 7 rfl⟩, has_cell k2 0 rfl⟩, bthen b1 b2⟩

set_option maxRecDepth 100000 in
set_option maxHeartbeats 4000000 in
theorem fee6_low (w : World) (t : Tm) (z x e : Int) (hz : 0 ≤ z ∧ z ≤ 24) (ht : termsB t = true) (hh : 0 ≤ x ∧ x ≤ 50000) (he : 0 ≤ e ∧ e ≤ t.most) (hx : x - t.free ≤ 0) :
    Calls Try.prog 35 #[.agg #[.int .i64 t.keep, .int .i64 t.free, .int .i64 t.step, .int .i64 t.rate, .int .i64 t.cap, .int .i64 t.longer, .int .i64 t.price, .int .i64 t.most], .int .i64 z, .int .i64 x, .int .i64 e] w fun r w' => r = .returned (.int .i64 (storB t z x + t.price * e)) ∧ Below w.heap.size w w' := by
  obtain ⟨h1, h2, h3, h4, h5, h6, h7, h8⟩ := (terms_iff t).1 ht
  have sb := steps_bound h2.1 h4.1 hh.2
  have sn := steps_nonneg h2.1 x
  have pb := prod_bound sn sb h5.1 h5.2 hz.1 hz.2
  obtain ⟨pb0, pb1, pb2, pb3⟩ := pb
  have qb := price_bound ht he.1 he.2
  obtain ⟨qb0, qb1⟩ := qb
  have hw1 : IntKind.i64.wrap (stepsB t x * t.rate) = stepsB t x * t.rate := IntWalk.i64_in _ (by omega)
  have hw2 : IntKind.i64.wrap (stepsB t x * t.rate * z) = stepsB t x * t.rate * z := IntWalk.i64_in _ (by omega)
  have hw3 : IntKind.i64.wrap (t.price * e) = t.price * e := IntWalk.i64_in _ (by omega)
  have HT := Lib.hid ht; clear ht
  have hs : storB t z x = 0 := by
    have : stepsB t x ≤ 0 := (steps_le h2.1).2 (by omega)
    have e0 : stepsB t x = 0 := by omega
    unfold storB; rw [e0]; simp; omega
  rw [hs]; clear hs hw1 hw2 pb0 pb1 pb2 pb3 sb sn
  go_enter Try.func35, Try.ntmps35
  go_wp2
  go_ret
  exact ⟨fint (by omega), balloc _ _⟩
set_option maxRecDepth 100000 in
set_option maxHeartbeats 4000000 in
theorem fee6_high (w : World) (t : Tm) (z x e : Int) (hz : 0 ≤ z ∧ z ≤ 24) (ht : termsB t = true) (hh : 0 ≤ x ∧ x ≤ 50000) (he : 0 ≤ e ∧ e ≤ t.most) (hx : 0 < x - t.free) :
    Calls Try.prog 35 #[.agg #[.int .i64 t.keep, .int .i64 t.free, .int .i64 t.step, .int .i64 t.rate, .int .i64 t.cap, .int .i64 t.longer, .int .i64 t.price, .int .i64 t.most], .int .i64 z, .int .i64 x, .int .i64 e] w fun r w' => r = .returned (.int .i64 (storB t z x + t.price * e)) ∧ Below w.heap.size w w' := by
  obtain ⟨h1, h2, h3, h4, h5, h6, h7, h8⟩ := (terms_iff t).1 ht
  have sb := steps_bound h2.1 h4.1 hh.2
  have sn := steps_nonneg h2.1 x
  have pb := prod_bound sn sb h5.1 h5.2 hz.1 hz.2
  obtain ⟨pb0, pb1, pb2, pb3⟩ := pb
  have qb := price_bound ht he.1 he.2
  obtain ⟨qb0, qb1⟩ := qb
  have hw1 : IntKind.i64.wrap (stepsB t x * t.rate) = stepsB t x * t.rate := IntWalk.i64_in _ (by omega)
  have hw2 : IntKind.i64.wrap (stepsB t x * t.rate * z) = stepsB t x * t.rate * z := IntWalk.i64_in _ (by omega)
  have hw3 : IntKind.i64.wrap (t.price * e) = t.price * e := IntWalk.i64_in _ (by omega)
  have HT := Lib.hid ht; clear ht
  have hd : (x - t.free + t.step - 1) / t.step = stepsB t x := by unfold stepsB; rw [show max (x - t.free) 0 = x - t.free by omega]
  have hq0 : (t.step == 0) = false := by simp; omega
  have hq1 : ¬ t.step = 0 := by omega
  have hq2 : IntKind.i64.wrap ((x - t.free + t.step - 1).tdiv t.step) = (x - t.free + t.step - 1) / t.step := IntWalk.i64_quo _ _ (by omega)
  rw [← hd] at sb sn pb0 pb1 pb2 pb3 hw1 hw2
  have hst : storB t z x = min ((x - t.free + t.step - 1) / t.step * t.rate * z) t.cap := by rw [hd]; rfl
  rw [hst]
  clear hd hst
  go_enter Try.func35, Try.ntmps35
  go_wp2_with fail
  generalize hX : w.alloc (.cells #[.int .i64 t.keep, .int .i64 t.free, .int .i64 t.step, .int .i64 t.rate, .int .i64 t.cap, .int .i64 t.longer, .int .i64 t.price, .int .i64 t.most] 35) = w0
  have k0 : Has w0 w.heap.size 35 #[.int .i64 t.keep, .int .i64 t.free, .int .i64 t.step, .int .i64 t.rate, .int .i64 t.cap, .int .i64 t.longer, .int .i64 t.price, .int .i64 t.most] := by rw [← hX]; exact has_new _ _ _
  have b0 : Below w.heap.size w w0 := by rw [← hX]; exact balloc _ _
  clear hX
  have e0 := has_cell k0 0 rfl
  have e1 := has_cell k0 1 rfl
  have e2 := has_cell k0 2 rfl
  have e3 := has_cell k0 3 rfl
  have e4 := has_cell k0 4 rfl
  have e5 := has_cell k0 5 rfl
  have e6 := has_cell k0 6 rfl
  have e7 := has_cell k0 7 rfl
  have K0 := Lib.hid k0; clear k0
  have S0 : (fun W : World => (W.cell? ⟨w.heap.size, 0, none⟩ = some (.int .i64 t.keep) ∧ W.cell? ⟨w.heap.size, 1, none⟩ = some (.int .i64 t.free) ∧ W.cell? ⟨w.heap.size, 2, none⟩ = some (.int .i64 t.step) ∧ W.cell? ⟨w.heap.size, 3, none⟩ = some (.int .i64 t.rate) ∧ W.cell? ⟨w.heap.size, 4, none⟩ = some (.int .i64 t.cap) ∧ W.cell? ⟨w.heap.size, 5, none⟩ = some (.int .i64 t.longer) ∧ W.cell? ⟨w.heap.size, 6, none⟩ = some (.int .i64 t.price) ∧ W.cell? ⟨w.heap.size, 7, none⟩ = some (.int .i64 t.most)) ∧ Below w0.heap.size w0 W) w0.drew := ⟨⟨e0, e1, e2, e3, e4, e5, e6, e7⟩, (Below.refl _ _).drew⟩
  try go_wp2_with fail
  go_region_held3 (fun W : World => (W.cell? ⟨w.heap.size, 0, none⟩ = some (.int .i64 t.keep) ∧ W.cell? ⟨w.heap.size, 1, none⟩ = some (.int .i64 t.free) ∧ W.cell? ⟨w.heap.size, 2, none⟩ = some (.int .i64 t.step) ∧ W.cell? ⟨w.heap.size, 3, none⟩ = some (.int .i64 t.rate) ∧ W.cell? ⟨w.heap.size, 4, none⟩ = some (.int .i64 t.cap) ∧ W.cell? ⟨w.heap.size, 5, none⟩ = some (.int .i64 t.longer) ∧ W.cell? ⟨w.heap.size, 6, none⟩ = some (.int .i64 t.price) ∧ W.cell? ⟨w.heap.size, 7, none⟩ = some (.int .i64 t.most)) ∧ Below w0.heap.size w0 W) (first | assumption) (first
    | (go_at_call 38; go_must (fail)))
  all_goals go_wp2_with fail
  all_goals
    go_ret
    exact ⟨fint (by omega), bthen b0 S0.2⟩
theorem fee6_any (w : World) (t : Tm) (z x e : Int) (hz : 0 ≤ z ∧ z ≤ 24) (ht : termsB t = true) (hh : 0 ≤ x ∧ x ≤ 50000) (he : 0 ≤ e ∧ e ≤ t.most) :
    Calls Try.prog 35 #[.agg #[.int .i64 t.keep, .int .i64 t.free, .int .i64 t.step, .int .i64 t.rate, .int .i64 t.cap, .int .i64 t.longer, .int .i64 t.price, .int .i64 t.most], .int .i64 z, .int .i64 x, .int .i64 e] w fun r w' => r = .returned (.int .i64 (storB t z x + t.price * e)) ∧ Below w.heap.size w w' := by
  rcases Int.lt_or_le 0 (x - t.free) with hx | hx
  · exact fee6_high w t z x e hz ht hh he hx
  · exact fee6_low w t z x e hz ht hh he hx

end Go.Proofs.Ytfkhhefphbhppaa
