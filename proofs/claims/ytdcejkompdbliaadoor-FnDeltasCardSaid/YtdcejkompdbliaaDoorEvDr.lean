/- Chapter 8: the drawing of two journals (gen_evdr.py). -/
import Derived.Test.YtdcejkompdbliaaDoorEvMy
import Derived.Test.YtdcejkompdbliaaDoorEvE
import Derived.Test.YtdcejkompdbliaaDoorDraw
namespace Go.Proofs.YtdcejkompdbliaaDoor
open Go.RowKit
set_option linter.unusedVariables false
theorem or_only8 {w w' : World} {lo g : Nat} {e : TypeId} {A : Option Addr} {xs : List Value} (h : OR w lo e A xs) (ho : Only w g w') (hg : g < lo) : OR w' lo e A xs := by
  rcases h with h | ⟨b, cur, rfl, hb, hh, hc⟩
  · exact .inl h
  · exact .inr ⟨b, cur, rfl, hb, has_only hh ho (by omega), hc⟩
theorem only_below8 {w w' : World} (g : Nat) (h : Below w.heap.size w w') : Only w g w' := ⟨h.os, h.tape, h.output, h.size, fun k hk _ => h.block k hk⟩
theorem cur_below8 {w w' : World} {B g : Nat} (h : Cur w B g) (hb : Below w.heap.size w w') : Cur w' B g := by
  have hB := h.lt.1
  obtain ⟨A, n, c, i, hh, hH, hS, r⟩ := h
  exact ⟨A, n, c, i, hh, has_call hH hb, hS.below (hb.mono hB), r⟩
set_option maxHeartbeats 400000 in
theorem pickQ_any (Q : Int → Prop) (w : World) (B g gl m : Nat) (cs : Array Value) (hC : Cur w B g) (hL : Has w gl 3 cs) (hm : cs.size = m) (h1 : 1 ≤ m) (h2 : m ≤ 1000) (hne : gl ≠ g)
    (hall : ∀ k, k < m → ∃ x : Int, Q x ∧ cs[k]? = some (.int .i64 x)) :
    Calls Tryd.prog 25 #[.pointer (some ⟨g, 0, none⟩), .slice (some ⟨gl, 0, none⟩) m m] w fun e w' => ∃ x : Int, Q x ∧ e = .returned (.int .i64 x) ∧ Cur w' B g ∧ Only w g w' := by
  have HC := Lib.hid hC; clear hC
  have HL := Lib.hid hL; clear hL
  have HA := Lib.hid hall; clear hall
  go_enter Tryd.func25, Tryd.ntmps25
  go_wp2_with fail
  refine (below_any w B g m (by omega) (by omega) HC.out).mono ?_
  rintro e w1 ⟨x, hx0, hx1, rfl, hC1, ho1⟩
  have HC1 := Lib.hid hC1; clear hC1
  have k1 := has_only HL.out ho1 hne
  obtain ⟨k, rfl⟩ := Int.eq_ofNat_of_zero_le hx0
  obtain ⟨y, hy0, hyc⟩ := HA.out k (by omega)
  have HY := Lib.hid hy0; clear hy0
  have e1 := has_cell k1 k hyc
  clear k1 hyc
  go_wp2_with fail
  go_ret
  exact ⟨y, HY.out, rfl, HC1.out, ho1⟩
def AddG (lo B g n : Nat) (P : Int → Bool) (w : World) (e : Ending) (w' : World) : Prop := ∃ (l' : List Ev) (A' : Option Addr) (c' : Nat), DrE l' n P ∧ l'.length ≤ c' ∧ e = .returned (.slice A' l'.length c') ∧ OR w' lo 40 A' (evV l') ∧ Cur w' B g ∧ Only w g w'

set_option maxRecDepth 100000 in
set_option maxHeartbeats 4000000 in
theorem lAdd_any (w : World) (B g lo : Nat) (A : Option Addr) (c : Nat) (l : List Ev) (n : Nat) (P : Int → Bool) (nd : Int) (hC : Cur w B g) (hg : g < lo) (hlo : lo ≤ w.heap.size) (hO : OR w lo 40 A (evV l)) (hcap : l.length ≤ c) (hD : DrE l n P) (hn : n ≤ 58) (hnd : 0 ≤ nd ∧ nd ≤ 5) (hP : P nd = true) : Calls Tryd.prog 24 #[.pointer (some ⟨g, 0, none⟩), .slice A l.length c, .int .i64 nd] w (AddG lo B g (n + 1) P w) := by
  have hl60 := hD.len
  have HC := Lib.hid hC; have HO := Lib.hid hO; have HD := Lib.hid hD; clear hC hO hD
  go_enter Tryd.func24, Tryd.ntmps24
  go_wp2_with fail
  refine (below_any w B g 4 (by omega) (by omega) HC.out).mono ?_
  rintro e w1 ⟨k1, a1, b1, rfl, hC1, ho1⟩
  have HC1 := Lib.hid hC1; have HON := Lib.hid ho1; have b11 : k1 ≤ 3 := (by omega); clear hC1 ho1 b1
  have hw1 : IntKind.i64.wrap (1 + k1) = 1 + k1 := by rw [IntKind.wrap_i64]; omega
  go_wp2_with fail
  refine (below_any w1 B g 4 (by omega) (by omega) HC1.out).mono ?_
  rintro e w2 ⟨k2, a2, b2, rfl, hC2, ho2⟩
  have HC2 := Lib.hid hC2; have HON2 := Lib.hid ho2; have b22 : k2 ≤ 3 := (by omega); clear hC2 ho2 b2
  by_cases hk : (1 : Int) + k1 = 2
  · have hkd : ((1 : Int) + k1 == 2) = true := by simp [hk]
    have HK := Lib.hid hk; clear hk
    go_wp2_with fail
    refine (below_any w2 B g 3 (by omega) (by omega) HC2.out).mono ?_
    rintro e w3 ⟨k3, a3, b3, rfl, hC3, ho3⟩
    have HC3 := Lib.hid hC3; have b33 : k3 ≤ 2 := (by omega); clear hC3 b3
    have hw3 : IntKind.i64.wrap (1 + k3) = 1 + k3 := by rw [IntKind.wrap_i64]; omega
    go_wp2_with fail
    refine (below_any w3 B g 40 (by omega) (by omega) HC3.out).mono ?_
    rintro e w4 ⟨k4, a4, b4, rfl, hC4, ho4⟩
    have HC4 := Lib.hid hC4; have b44 : k4 ≤ 39 := (by omega); clear hC4 b4
    have hon := only_trans (only_trans (only_trans HON.out HON2.out) ho3) ho4
    have HO4 := Lib.hid (or_only8 HO.out hon hg); have HON4 := Lib.hid hon; have hs4 := hon.size; clear hon ho3 ho4
    have hadd := HD.out.add hn hnd hP (kd := 1 + k1) (pa := 1 + k3) (a := 0) (b := k4) (by omega) (by omega) (by omega) (by omega)
    have HAD := Lib.hid hadd; clear hadd
    go_wp2_with fail
    refine (addS_any8 w4 w4.heap.size A c l nd (1 + k1) (1 + k3) (0) k4 (by omega) hcap (Nat.le_refl _) HO4.out.ev).mono ?_
    rintro e w5 hans
    rw [HAD.out.1] at hans
    obtain ⟨A5, c5, hc5, rfl, hor, hb⟩ := hans
    have HB := Lib.hid hb; have HOR := Lib.hid hor; have HC5 := Lib.hid hc5; clear hb hor hc5
    go_wp2_with fail
    go_ret
    exact ⟨_, A5, c5, HAD.out.2, HC5.out, rfl, HOR.out.more (by omega), cur_below8 HC4.out HB.out, only_trans HON4.out (only_below8 g HB.out)⟩
  · have hkd : ((1 : Int) + k1 == 2) = false := by simp [hk]
    have HK := Lib.hid hk; clear hk
    go_wp2_with fail
    refine (below_any w2 B g 3 (by omega) (by omega) HC2.out).mono ?_
    rintro e w3 ⟨k3, a3, b3, rfl, hC3, ho3⟩
    have HC3 := Lib.hid hC3; have b33 : k3 ≤ 2 := (by omega); clear hC3 b3
    have hw3 : IntKind.i64.wrap (1 + k3) = 1 + k3 := by rw [IntKind.wrap_i64]; omega
    go_wp2_with fail
    refine (below_any w3 B g 40 (by omega) (by omega) HC3.out).mono ?_
    rintro e w4 ⟨k4, a4, b4, rfl, hC4, ho4⟩
    have HC4 := Lib.hid hC4; have b44 : k4 ≤ 39 := (by omega); clear hC4 b4
    have hon := only_trans (only_trans (only_trans HON.out HON2.out) ho3) ho4
    have HO4 := Lib.hid (or_only8 HO.out hon hg); have HON4 := Lib.hid hon; have hs4 := hon.size; clear hon ho3 ho4
    have hadd := HD.out.add hn hnd hP (kd := 1 + k1) (pa := 1 + k3) (a := k2) (b := k4) (by omega) (by omega) (by omega) (by omega)
    have HAD := Lib.hid hadd; clear hadd
    go_wp2_with fail
    refine (addS_any8 w4 w4.heap.size A c l nd (1 + k1) (1 + k3) (k2) k4 (by omega) hcap (Nat.le_refl _) HO4.out.ev).mono ?_
    rintro e w5 hans
    rw [HAD.out.1] at hans
    obtain ⟨A5, c5, hc5, rfl, hor, hb⟩ := hans
    have HB := Lib.hid hb; have HOR := Lib.hid hor; have HC5 := Lib.hid hc5; clear hb hor hc5
    go_wp2_with fail
    go_ret
    exact ⟨_, A5, c5, HAD.out.2, HC5.out, rfl, HOR.out.more (by omega), cur_below8 HC4.out HB.out, only_trans HON4.out (only_below8 g HB.out)⟩
def pA (x : Int) : Bool := decide (0 ≤ x) && decide (x ≤ 2)
def pB (x : Int) : Bool := decide (0 ≤ x) && decide (x ≤ 5) && decide (x ≠ 4)
theorem pA_pB (x : Int) (h : pA x = true) : pB x = true := by simp only [pA, pB, Bool.and_eq_true, decide_eq_true_eq] at *; omega
/-- a list that was drawn, and where it lies -/
def GivE (w : World) (lo n : Nat) (P : Int → Bool) (v : Value) (l : List Ev) : Prop := ∃ (A : Option Addr) (c : Nat), v = .slice A l.length c ∧ l.length ≤ c ∧ DrE l n P ∧ OR w lo 40 A (evV l)
theorem GivE.only {w w' : World} {lo n g : Nat} {P : Int → Bool} {v : Value} {l : List Ev} (h : GivE w lo n P v l) (ho : Only w g w') (hg : g < lo) : GivE w' lo n P v l := by
  obtain ⟨A, c, h1, h2, h3, h4⟩ := h
  exact ⟨A, c, h1, h2, h3, or_only8 h4 ho hg⟩
theorem GivE.more {w : World} {lo n m : Nat} {P Q : Int → Bool} {v : Value} {l : List Ev} (h : GivE w lo n P v l) (hm : n ≤ m) (hP : ∀ x, P x = true → Q x = true) : GivE w lo m Q v l := by
  obtain ⟨A, c, h1, h2, h3, h4⟩ := h
  exact ⟨A, c, h1, h2, h3.more hm hP, h4⟩
def BothG (lo B g : Nat) (w : World) (e : Ending) (w' : World) : Prop := ∃ (va vb : Value) (la lb : List Ev), e = .returned (.tuple #[va, vb]) ∧ GivE w' lo 10 pA va la ∧ GivE w' lo 10 pB vb lb ∧ Cur w' B g ∧ Only w g w'
set_option maxRecDepth 100000 in
set_option maxHeartbeats 8000000 in
theorem both_any (w : World) (B g lo : Nat) (hC : Cur w B g) (hg : g < lo) (hlo : lo ≤ w.heap.size) : Calls Tryd.prog 14 #[.pointer (some ⟨g, 0, none⟩)] w (BothG lo B g w) := by
  have HC := Lib.hid hC; clear hC
  go_enter Tryd.func14, Tryd.ntmps14
  go_wp2_with fail
  generalize hX : (w.alloc (.cells #[] 40)) = w1
  have hb1 : Below w.heap.size w w1 := by rw [← hX]; exact balloc _ _
  clear hX
  have HC1 := Lib.hid (cur_below8 HC.out hb1); have HO1 := Lib.hid (only_below8 g hb1); clear hb1
  refine (below_any w1 B g 6 (by omega) (by omega) HC1.out).mono ?_
  rintro e w2 ⟨k1, a1, b1, rfl, hC2, ho2⟩
  obtain ⟨m1, rfl⟩ := Int.eq_ofNat_of_zero_le a1
  have HC2 := Lib.hid hC2; have HO2 := Lib.hid (only_trans HO1.out ho2); clear hC2 ho2
  have hm1 : m1 ≤ 5 := (by omega)
  clear a1 b1
  go_wp2_with fail
  go_loopw [4, 5] (fun v i wr => ∃ (k m : Nat) (l2 : List Ev), k + m ≤ 5 ∧ i = .int .i64 (m : Int) ∧ GivE wr lo k pA v l2 ∧ Cur wr B g ∧ Only w g wr) (fun _ i _ => (intOf i).toNat)
  case atStart => exact ⟨0, m1, [], by omega, rfl, ⟨_, 0, rfl, Nat.le_refl _, drE_nil _ _, .inl rfl⟩, HC2.out, HO2.out⟩
  case round =>
    clear HC1 HO1 HC2 HO2
    obtain ⟨k, m, l, hkm, rfl, ⟨A, c, rfl, hcap, hD, hO⟩, hCu, hOn⟩ := hrel
    have hsz := hOn.size
    have HD := Lib.hid hD; have HO := Lib.hid hO; have HCU := Lib.hid hCu; have HON := Lib.hid hOn; clear hD hO hCu hOn
    by_cases hm0 : 0 < m
    · have hmi : (0 : Int) < (m : Int) := by omega
      have hm5 : m ≤ 5 := (by omega)
      go_wp2_with fail
      refine (below_any wr B g 3 (by omega) (by omega) HCU.out).mono ?_
      rintro e w3 ⟨x, ax, bx, rfl, hC3, ho3⟩
      have HC3 := Lib.hid hC3; have HO3 := Lib.hid ho3; have bxx : x ≤ 2 := (by omega); clear hC3 ho3 bx
      have hs3 := HO3.out.size
      go_wp2_with fail
      refine (lAdd_any w3 B g lo A c l k pA x HC3.out hg (by omega) (or_only8 HO.out HO3.out hg) hcap HD.out (by omega) (by omega) (by simp [pA]; omega)).mono ?_
      rintro e w4 ⟨l4, A4, c4, hD4, hc4, rfl, hO4, hC4, ho4⟩
      have HX := Lib.hid (show GivE w4 lo (k + 1) pA (.slice A4 l4.length c4) l4 from ⟨A4, c4, rfl, hc4, hD4, hO4⟩); have HC4 := Lib.hid hC4; have HO4 := Lib.hid (only_trans (only_trans HON.out HO3.out) ho4); clear hD4 hc4 hO4 hC4 ho4
      go_wp2_with fail
      go_roundw
      case rel => exact ⟨k + 1, m - 1, l4, by omega, by go_num, HX.out, HC4.out, HO4.out⟩
      case measure => simp [intOf]; omega
    · have hmz : m = 0 := by omega
      subst hmz
      have HG5 := Lib.hid (show GivE wr lo 5 pA (.slice A l.length c) l from ⟨A, c, rfl, hcap, HD.out.more (by omega) (fun _ h => h), HO.out⟩)
      clear HD HO hm0
      go_wp2_with fail
      refine (below_any wr B g 6 (by omega) (by omega) HCU.out).mono ?_
      rintro e w5 ⟨k2, a2, b2, rfl, hC5, ho5⟩
      obtain ⟨m2, rfl⟩ := Int.eq_ofNat_of_zero_le a2
      have hm2 : m2 ≤ 5 := (by omega)
      have HGA := Lib.hid (HG5.out.only ho5 hg); have HC5 := Lib.hid hC5; have HO5 := Lib.hid (only_trans HON.out ho5); clear hC5 ho5 a2 b2 HG5
      go_wp2_with fail
      go_loopw [4, 7] (fun v i wr => ∃ (k m : Nat) (l3 : List Ev), k + m ≤ 10 ∧ i = .int .i64 (m : Int) ∧ GivE wr lo k pA v l3 ∧ Cur wr B g ∧ Only w g wr ∧ GivE wr lo 5 pB (.slice A l.length c) l) (fun _ i _ => (intOf i).toNat)
      case atStart => exact ⟨5, m2, l, by omega, rfl, HGA.out, HC5.out, HO5.out, HGA.out.more (Nat.le_refl _) pA_pB⟩
      case round =>
        clear HGA HC5 HO5 HCU HON
        obtain ⟨k3, m3, l3, hkm3, rfl, ⟨A3, c3, rfl, hcap3, hD3, hO3⟩, hCu3, hOn3, hB3⟩ := hrel
        have hsz3 := hOn3.size
        have HD3 := Lib.hid hD3; have HOR3 := Lib.hid hO3; have HCU3 := Lib.hid hCu3; have HON3 := Lib.hid hOn3; have HB3 := Lib.hid hB3; clear hD3 hO3 hCu3 hOn3 hB3
        by_cases hm0 : 0 < m3
        · have hmi : (0 : Int) < (m3 : Int) := by omega
          have hm5 : m3 ≤ 10 := (by omega)
          go_wp2_with fail
          generalize hX : (wr.alloc (.cells #[.int .i64 0, .int .i64 1, .int .i64 1] 3)) = x1
          have hb1 : Below wr.heap.size wr x1 := by rw [← hX]; exact balloc _ _
          have hL : Has x1 wr.heap.size 3 #[.int .i64 0, .int .i64 1, .int .i64 1] := by rw [← hX]; exact has_new _ _ _
          clear hX
          have HC6 := Lib.hid (cur_below8 HCU3.out hb1); have HO6 := Lib.hid (only_below8 g hb1); clear hb1
          have hgn : wr.heap.size ≠ g := by omega
          refine (pickQ_any (fun x => x = 0 ∨ x = 1) x1 B g wr.heap.size 3 #[.int .i64 0, .int .i64 1, .int .i64 1] HC6.out hL rfl (by omega) (by omega) hgn (by intro j hj; rcases j with _ | _ | _ | j; exact ⟨_, .inl rfl, rfl⟩; exact ⟨_, .inr rfl, rfl⟩; exact ⟨_, .inr rfl, rfl⟩; omega)).mono ?_
          rintro e x2 ⟨x, hQ, rfl, hC7, ho7⟩
          have HC7 := Lib.hid hC7; have HO7 := Lib.hid (only_trans HO6.out ho7); have HQX := Lib.hid hQ; clear hC7 ho7 hQ hL HC6 HO6
          have hs7 := HO7.out.size
          have hQ9 := HQX.out; try dsimp only at hQ9
          have hnd9 : 0 ≤ x ∧ x ≤ 5 := by omega
          have hP9 : pA x = true := by simp only [pA, Bool.and_eq_true, decide_eq_true_eq]; omega
          clear hQ9
          go_wp2_with fail
          refine (lAdd_any x2 B g lo A3 c3 l3 k3 pA x HC7.out hg (by omega) (or_only8 HOR3.out HO7.out hg) hcap3 HD3.out (by omega) hnd9 hP9).mono ?_
          rintro e x3 ⟨l4, A4, c4, hD4, hc4, rfl, hO4, hC4, ho4⟩
          have HX := Lib.hid (show GivE x3 lo (k3 + 1) pA (.slice A4 l4.length c4) l4 from ⟨A4, c4, rfl, hc4, hD4, hO4⟩); have HC4 := Lib.hid hC4; have HO4 := Lib.hid (only_trans HO7.out ho4); have HOT := Lib.hid (HB3.out.only (only_trans HO7.out ho4) hg); clear hD4 hc4 hO4 hC4 ho4
          go_wp2_with fail
          go_roundw
          case rel => exact ⟨k3 + 1, m3 - 1, l4, by omega, by go_num, HX.out, HC4.out, only_trans HON3.out HO4.out, HOT.out⟩
          case measure => simp [intOf]; omega
        · have hmz3 : m3 = 0 := by omega
          subst hmz3
          have HGA3 := Lib.hid (show GivE wr lo 10 pA (.slice A3 l3.length c3) l3 from ⟨A3, c3, rfl, hcap3, HD3.out.more (by omega) (fun _ h => h), HOR3.out⟩)
          clear HD3 HOR3 hm0
          go_wp2_with fail
          refine (below_any wr B g 6 (by omega) (by omega) HCU3.out).mono ?_
          rintro e w6 ⟨k5, a5, b5, rfl, hC6, ho6⟩
          obtain ⟨m5, rfl⟩ := Int.eq_ofNat_of_zero_le a5
          have hm5 : m5 ≤ 5 := (by omega)
          have HGA5 := Lib.hid (HGA3.out.only ho6 hg); have HB5 := Lib.hid (HB3.out.only ho6 hg); have HC6 := Lib.hid hC6; have HO6 := Lib.hid (only_trans HON3.out ho6); clear hC6 ho6 a5 b5 HGA3 HB3
          go_wp2_with fail
          go_loopw [6, 8] (fun v i wr => ∃ (k m : Nat) (l4 : List Ev), k + m ≤ 10 ∧ i = .int .i64 (m : Int) ∧ GivE wr lo k pB v l4 ∧ Cur wr B g ∧ Only w g wr ∧ GivE wr lo 10 pA (.slice A3 l3.length c3) l3) (fun _ i _ => (intOf i).toNat)
          case atStart => exact ⟨5, m5, l, by omega, rfl, HB5.out, HC6.out, HO6.out, HGA5.out⟩
          case round =>
            clear HGA5 HB5 HC6 HO6 HCU3 HON3
            obtain ⟨k4, m4, l4b, hkm4, rfl, ⟨A4b, c4b, rfl, hcap4, hD4, hO4⟩, hCu4, hOn4, hA4⟩ := hrel
            have hsz4 := hOn4.size
            have HD4 := Lib.hid hD4; have HOR4 := Lib.hid hO4; have HCU4 := Lib.hid hCu4; have HON4 := Lib.hid hOn4; have HGA4 := Lib.hid hA4; clear hD4 hO4 hCu4 hOn4 hA4
            by_cases hm0 : 0 < m4
            · have hmi : (0 : Int) < (m4 : Int) := by omega
              have hm5 : m4 ≤ 10 := (by omega)
              go_wp2_with fail
              generalize hX : (wr.alloc (.cells #[.int .i64 2, .int .i64 3, .int .i64 5] 3)) = x1
              have hb1 : Below wr.heap.size wr x1 := by rw [← hX]; exact balloc _ _
              have hL : Has x1 wr.heap.size 3 #[.int .i64 2, .int .i64 3, .int .i64 5] := by rw [← hX]; exact has_new _ _ _
              clear hX
              have HC6 := Lib.hid (cur_below8 HCU4.out hb1); have HO6 := Lib.hid (only_below8 g hb1); clear hb1
              have hgn : wr.heap.size ≠ g := by omega
              refine (pickQ_any (fun x => x = 2 ∨ x = 3 ∨ x = 5) x1 B g wr.heap.size 3 #[.int .i64 2, .int .i64 3, .int .i64 5] HC6.out hL rfl (by omega) (by omega) hgn (by intro j hj; rcases j with _ | _ | _ | j; exact ⟨_, .inl rfl, rfl⟩; exact ⟨_, .inr (.inl rfl), rfl⟩; exact ⟨_, .inr (.inr rfl), rfl⟩; omega)).mono ?_
              rintro e x2 ⟨x, hQ, rfl, hC7, ho7⟩
              have HC7 := Lib.hid hC7; have HO7 := Lib.hid (only_trans HO6.out ho7); have HQX := Lib.hid hQ; clear hC7 ho7 hQ hL HC6 HO6
              have hs7 := HO7.out.size
              have hQ9 := HQX.out; try dsimp only at hQ9
              have hnd9 : 0 ≤ x ∧ x ≤ 5 := by omega
              have hP9 : pB x = true := by simp only [pB, Bool.and_eq_true, decide_eq_true_eq]; omega
              clear hQ9
              go_wp2_with fail
              refine (lAdd_any x2 B g lo A4b c4b l4b k4 pB x HC7.out hg (by omega) (or_only8 HOR4.out HO7.out hg) hcap4 HD4.out (by omega) hnd9 hP9).mono ?_
              rintro e x3 ⟨l4, A4, c4, hD4, hc4, rfl, hO4, hC4, ho4⟩
              have HX := Lib.hid (show GivE x3 lo (k4 + 1) pB (.slice A4 l4.length c4) l4 from ⟨A4, c4, rfl, hc4, hD4, hO4⟩); have HC4 := Lib.hid hC4; have HO4 := Lib.hid (only_trans HO7.out ho4); have HOT := Lib.hid (HGA4.out.only (only_trans HO7.out ho4) hg); clear hD4 hc4 hO4 hC4 ho4
              go_wp2_with fail
              go_roundw
              case rel => exact ⟨k4 + 1, m4 - 1, l4, by omega, by go_num, HX.out, HC4.out, only_trans HON4.out HO4.out, HOT.out⟩
              case measure => simp [intOf]; omega
            · have hmz4 : m4 = 0 := by omega
              subst hmz4
              have HGB := Lib.hid (show GivE wr lo 10 pB (.slice A4b l4b.length c4b) l4b from ⟨A4b, c4b, rfl, hcap4, HD4.out.more (by omega) (fun _ h => h), HOR4.out⟩)
              clear HD4 HOR4 hm0
              go_wp2
              go_ret2
              exact ⟨_, _, l3, l4b, rfl, HGA4.out, HGB.out, HCU4.out, HON4.out⟩
set_option maxRecDepth 100000 in
theorem GivE.lower {w : World} {lo lo2 n : Nat} {P : Int → Bool} {v : Value} {l : List Ev} (h : GivE w lo n P v l) (h2 : lo2 ≤ lo) : GivE w lo2 n P v l := by
  obtain ⟨A, c, h1, h3, h4, h5⟩ := h
  exact ⟨A, c, h1, h3, h4, h5.more h2⟩
set_option maxRecDepth 100000 in
theorem drawB_any (w : World) (A : Option Addr) (n ca : Nat) (hn : n ≤ maxLen) (hS : BS w w.heap.size A n) : Calls Tryd.prog 5 #[.slice A n ca] w fun e w' => ∃ (va vb : Value) (la lb : List Ev), e = .returned (.tuple #[va, vb]) ∧ GivE w' w.heap.size 10 pA va la ∧ GivE w' w.heap.size 10 pB vb lb ∧ Below w.heap.size w w' := by
  have HS := Lib.hid hS; clear hS
  go_enter Tryd.func5, Tryd.ntmps5
  go_wp2_with fail
  refine (new_any w w.heap.size A n ca hn (Nat.le_refl _) HS.out).mono ?_
  rintro e w1 ⟨rfl, hC, hb1⟩
  have hg := hC.lt.2; have hz := hb1.size
  have HC := Lib.hid hC; have HB1 := Lib.hid hb1; clear hC hb1
  go_wp2_with fail
  refine (both_any w1 w.heap.size w.heap.size w1.heap.size HC.out hg (Nat.le_refl _)).mono ?_
  rintro e w2 ⟨va, vb, la, lb, rfl, hA, hB, hC2, ho⟩
  have HA := Lib.hid hA; have HB := Lib.hid hB; have HO := Lib.hid ho; clear hA hB hC2 ho
  go_wp2_with fail
  go_ret2
  exact ⟨va, vb, la, lb, rfl, HA.out.lower hz, HB.out.lower hz, HB1.out.trans (only_below HO.out hz (Nat.le_refl _))⟩
end Go.Proofs.YtdcejkompdbliaaDoor
