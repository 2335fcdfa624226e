/- Chapter 2: contracts of TakeOut, the model's and the program's. -/
import Derived.Test.YthfpjfekemelaaaQ06
import Derived.Test.YthfpjfekemelaaaQ05
import Derived.Test.YthfpjfekemelaaaQ07
namespace Go.Proofs.Ythfpjfekemelaaa
open Go.RowKit
set_option linter.unusedVariables false

/-- the answer is a column in blocks of its own and a test -/
def ColAnsB (R : Int → List Int → List Bx → Bool → Prop) (w : World) (e : Ending) (w' : World) : Prop :=
  ∃ (z : Int) (F : List Int) (L : List Bx) (b : Bool) (A A' : Option Addr) (n n' : Nat), e = .returned (.tuple #[.agg #[.int .i64 z, .slice A F.length n, .slice A' L.length n'], .bool b]) ∧ R z F L b ∧ F.length ≤ 1048576 ∧ L.length ≤ 1048576 ∧ OR w' w.heap.size 3 A (intV F) ∧ OR w' w.heap.size 65 A' (boxV L) ∧ Below w.heap.size w w'
section
variable {w w' : World} {base g : Nat} {e e' : TypeId} {A : Option Addr} {xs : List Value}
theorem OR.set_other {cur : Array Value} (h : OR w base e A xs) (hh : Has w g e' cur) (hne : e ≠ e') (i : Nat) (v : Value) : OR (w.setCell ⟨g, i, none⟩ v) base e A xs := by
  rcases h with h | ⟨g', cur', rfl, hb, h', hc⟩
  · exact .inl h
  · refine .inr ⟨g', cur', rfl, hb, has_far h' (fun eq => ?_) v, hc⟩
    have : g' = g := eq
    subst this
    have := h'.symm.trans hh
    injection this with this; injection this with _ this _
    exact hne this
theorem or_set {L : List Bx} {j i : Nat} {x y : Bx} {v : Value} (h : OR w base e A (boxV L)) (hx : L[j]? = some x) (hi : i < 4) (hy : boxC y = (boxC x).set i v) :
    ∃ (g : Nat) (cur : Array Value), A = some ⟨g, 0, none⟩ ∧ base ≤ g ∧ Has w g e cur ∧ (∃ u, w.cell? ⟨g, j * 4 + i, none⟩ = some u) ∧ w.frozen? ⟨g, j * 4 + i, none⟩ = false ∧ OR (w.setCell ⟨g, j * 4 + i, none⟩ v) base e A (boxV (L.set j y)) := by
  have hj : j < L.length := (List.getElem?_eq_some_iff.1 hx).1
  rcases h with h | ⟨g, cur, rfl, hb, hh, hc⟩
  · have := boxV_nil h; rw [this] at hj; simp at hj
  · have hlen := boxV_len L
    have hin : ∀ k, k < 4 * L.length → k < cur.size := fun k hk => by
      have := hc k _ (List.getElem?_eq_getElem (by omega))
      exact (Array.getElem?_eq_some_iff.1 this).1
    refine ⟨g, cur, rfl, hb, hh, ⟨_, has_cell hh _ (Array.getElem?_eq_getElem (hin _ (by omega)))⟩, has_free hh _, .inr ⟨g, _, rfl, hb, has_set hh _ _, boxV_of fun k b hk hb' => ?_⟩⟩
    rw [List.length_set] at hk
    rw [List.getElem?_set] at hb'
    by_cases hjk : j = k
    · subst hjk
      rw [if_pos rfl, if_pos hj] at hb'
      injection hb' with hb'; subst hb'
      have hold := boxV_at hx
      have c0 := hc _ _ hold.1
      have c1 := hc _ _ hold.2.1
      have c2 := hc _ _ hold.2.2.1
      have c3 := hc _ _ hold.2.2.2
      have hs := hin (j * 4 + i) (by omega)
      obtain ⟨y0, y1, y2, y3⟩ := y
      obtain ⟨x0, x1, x2, x3⟩ := x
      simp only [Array.getElem?_setIfInBounds]
      rcases i with _ | _ | _ | _ | i
      · simp [boxC] at hy
        obtain ⟨h0, h1, h2, h3⟩ := hy
        subst h0 h1 h2 h3
        exact ⟨by rw [if_pos (by omega), if_pos (by omega)], by rw [if_neg (by omega)]; exact c1, by rw [if_neg (by omega)]; exact c2, by rw [if_neg (by omega)]; exact c3⟩
      · simp [boxC] at hy
        obtain ⟨h0, h1, h2, h3⟩ := hy
        subst h0 h1 h2 h3
        exact ⟨by rw [if_neg (by omega)]; exact c0, by rw [if_pos (by omega), if_pos (by omega)], by rw [if_neg (by omega)]; exact c2, by rw [if_neg (by omega)]; exact c3⟩
      · simp [boxC] at hy
        obtain ⟨h0, h1, h2, h3⟩ := hy
        subst h0 h1 h2 h3
        exact ⟨by rw [if_neg (by omega)]; exact c0, by rw [if_neg (by omega)]; exact c1, by rw [if_pos (by omega), if_pos (by omega)], by rw [if_neg (by omega)]; exact c3⟩
      · simp [boxC] at hy
        obtain ⟨h0, h1, h2, h3⟩ := hy
        subst h0 h1 h2 h3
        exact ⟨by rw [if_neg (by omega)]; exact c0, by rw [if_neg (by omega)]; exact c1, by rw [if_neg (by omega)]; exact c2, by rw [if_pos (by omega), if_pos (by omega)]⟩
      · omega
    · rw [if_neg hjk] at hb'
      have hold := boxV_at hb'
      simp only [Array.getElem?_setIfInBounds]
      exact ⟨by rw [if_neg (by omega)]; exact hc _ _ hold.1, by rw [if_neg (by omega)]; exact hc _ _ hold.2.1, by rw [if_neg (by omega)]; exact hc _ _ hold.2.2.1, by rw [if_neg (by omega)]; exact hc _ _ hold.2.2.2⟩
end
/-- behind the storing of the answer -/
theorem ans_fin {w w1 w2 : World} {A2 A3 : Option Addr} {F L : List Value} {e1 e2 : TypeId} {cs : Array Value} (hb : Below w.heap.size w w2) (hk : Has w2 (w.heap.size + 1) 57 cs) (h2 : OR w2 (w.heap.size + 2) e1 A2 F) (h3 : OR w2 (w.heap.size + 2) e2 A3 L) (u v x : Value) :
    OR (((w2.setCell ⟨w.heap.size + 1, 0, none⟩ u).setCell ⟨w.heap.size + 1, 1, none⟩ v).setCell ⟨w.heap.size + 1, 2, none⟩ x) w.heap.size e1 A2 F ∧ OR (((w2.setCell ⟨w.heap.size + 1, 0, none⟩ u).setCell ⟨w.heap.size + 1, 1, none⟩ v).setCell ⟨w.heap.size + 1, 2, none⟩ x) w.heap.size e2 A3 L ∧ Below w.heap.size w (((w2.setCell ⟨w.heap.size + 1, 0, none⟩ u).setCell ⟨w.heap.size + 1, 1, none⟩ v).setCell ⟨w.heap.size + 1, 2, none⟩ x) :=
  ⟨(((h2.setlow (by show w.heap.size + 1 < _; omega) _).setlow (by show w.heap.size + 1 < _; omega) _).setlow (by show w.heap.size + 1 < _; omega) _).more (by omega),
   (((h3.setlow (by show w.heap.size + 1 < _; omega) _).setlow (by show w.heap.size + 1 < _; omega) _).setlow (by show w.heap.size + 1 < _; omega) _).more (by omega),
   ((hb.setCell (by simp) _).setCell (by simp) _).setCell (by simp) _⟩
theorem set3 {w : World} {g : Nat} {t : TypeId} {a b c u v x : Value} (h : Has w g t #[a, b, c]) : Has (((w.setCell ⟨g, 0, none⟩ u).setCell ⟨g, 1, none⟩ v).setCell ⟨g, 2, none⟩ x) g t #[u, v, x] := by
  have := has_set (has_set (has_set h 0 u) 1 v) 2 x
  simpa using this

def takeR (z : Int) (F : List Int) (L : List Bx) (p : Int) (z' : Int) (F' : List Int) (L' : List Bx) (b : Bool) : Prop :=
  z' = z ∧ F' = F ∧ ((∃ (j : Nat) (x : Bx), (ColOk z F L ∧ fIdx (hasP0 p) L 0 = (j : Int) ∧ L[j]? = some x ∧ x.jam = false) ∧ b = true ∧ L' = L.set j ⟨x.low, x.size, 0, x.jam⟩) ∨
    ((∀ (j : Nat) (x : Bx), ¬ (ColOk z F L ∧ fIdx (hasP0 p) L 0 = (j : Int) ∧ L[j]? = some x ∧ x.jam = false)) ∧ b = false ∧ L' = L))
theorem take_det {z : Int} {F : List Int} {L : List Bx} {p z1 z2 : Int} {F1 F2 : List Int} {L1 L2 : List Bx} {b1 b2 : Bool} (h1 : takeR z F L p z1 F1 L1 b1) (h2 : takeR z F L p z2 F2 L2 b2) : z1 = z2 ∧ F1 = F2 ∧ L1 = L2 ∧ b1 = b2 := by
  obtain ⟨rfl, rfl, h1⟩ := h1
  obtain ⟨rfl, rfl, h2⟩ := h2
  rcases h1 with ⟨j, x, hx, rfl, rfl⟩ | ⟨hn, rfl, rfl⟩
  · rcases h2 with ⟨j', x', hx', rfl, rfl⟩ | ⟨hn', rfl, rfl⟩
    · have : j = j' := by have := hx.2.1.symm.trans hx'.2.1; omega
      subst this
      have : x = x' := by have := hx.2.2.1.symm.trans hx'.2.2.1; injection this
      subst this
      exact ⟨rfl, rfl, rfl, rfl⟩
    · exact absurd hx (hn' j x)
  · rcases h2 with ⟨j', x', hx', rfl, rfl⟩ | ⟨hn', rfl, rfl⟩
    · exact absurd hx' (hn j' x')
    · exact ⟨rfl, rfl, rfl, rfl⟩
theorem take_no {z : Int} {F : List Int} {L : List Bx} {p : Int} (h : ∀ (j : Nat) (x : Bx), ¬ (ColOk z F L ∧ fIdx (hasP0 p) L 0 = (j : Int) ∧ L[j]? = some x ∧ x.jam = false)) : takeR z F L p z F L false := ⟨rfl, rfl, .inr ⟨h, rfl, rfl⟩⟩
theorem take_yes {z : Int} {F : List Int} {L : List Bx} {p : Int} {j : Nat} {x : Bx} (h0 : ColOk z F L) (h1 : fIdx (hasP0 p) L 0 = (j : Int)) (h2 : L[j]? = some x) (h3 : x.jam = false) : takeR z F L p z F (L.set j ⟨x.low, x.size, 0, x.jam⟩) true := ⟨rfl, rfl, .inl ⟨j, x, ⟨h0, h1, h2, h3⟩, rfl, rfl⟩⟩

set_option maxRecDepth 100000 in
set_option maxHeartbeats 4000000 in
theorem takeS_any (w : World) (B : Nat) (x : Cl) (p : Int) (lf : x.F.length ≤ 1048576) (lb : x.L.length ≤ 1048576) (hB : B ≤ w.heap.size) (hV : CV w B x) :
    Calls Try.prog 82 #[.agg #[.int .i64 x.z, .slice x.AF x.F.length x.cF, .slice x.AB x.L.length x.cB], .int .i64 p] w (ColAnsB (takeR x.z x.F x.L p) w) := by
  have HV := Lib.hid hV; clear hV
  have hlm : x.L.length ≤ maxLen := by unfold maxLen; omega
  go_enter Try.func82, Try.ntmps82
  go_wp2_with fail
  generalize hW0 : (w.alloc (.cells #[.int .i64 x.z, .slice x.AF x.F.length x.cF, .slice x.AB x.L.length x.cB] 57)).alloc (.cells #[.int .i64 0, .slice none 0 0, .slice none 0 0] 57) = w0
  have b0 : Below w.heap.size w w0 := by rw [← hW0]; exact bthen (balloc _ _) (balloc _ _)
  have k0 : Has w0 w.heap.size 57 #[.int .i64 x.z, .slice x.AF x.F.length x.cF, .slice x.AB x.L.length x.cB] := by rw [← hW0]; exact has_alloc (has_new _ _ _) _
  have k1 : Has w0 (w.heap.size + 1) 57 #[.int .i64 0, .slice none 0 0, .slice none 0 0] := by rw [← hW0]; have := has_new (w.alloc (.cells #[.int .i64 x.z, .slice x.AF x.F.length x.cF, .slice x.AB x.L.length x.cB] 57)) 57 #[.int .i64 0, .slice none 0 0, .slice none 0 0]; simpa using this
  clear hW0
  have hz0 : w.heap.size + 2 ≤ w0.heap.size := has_lt k1
  have K0 := Lib.hid k0; have K1 := Lib.hid k1; clear k0 k1
  refine (copyS_any w0 B x lf lb (by omega) (HV.out.later hB b0)).mono ?_
  rintro e w1 ⟨A2, A3, n2, n3, rfl, ho2, ho3, hb1⟩
  have HO2 := Lib.hid ho2; have HO3 := Lib.hid ho3; clear ho2 ho3
  have k0 := has_call K0.out hb1
  have e0 := has_cell k0 0 rfl
  have e1 := has_cell k0 1 rfl
  have e2 := has_cell k0 2 rfl
  have hz1 := hb1.size
  have hlw : w.heap.size < w1.heap.size := has_lt k0
  go_wp2_with fail
  clear e0 e1 e2
  generalize hX : (w1.alloc (.cells #[.int .i64 x.z, .slice A2 x.F.length n2, .slice A3 x.L.length n3] 57)) = w2
  have bx : Below w1.heap.size w1 w2 := by rw [← hX]; exact balloc _ _
  have k3 : Has w2 w1.heap.size 57 #[.int .i64 x.z, .slice A2 x.F.length n2, .slice A3 x.L.length n3] := by rw [← hX]; exact has_new _ _ _
  clear hX
  have b2 := bthen hb1 bx
  have c2 := bthen b0 b2
  have K3 := Lib.hid k3; clear k3
  have hz2 := bx.size
  refine (boxS_any w2 B x.AF x.AB x.cF x.cB x.z p x.F.length x.L hlm (by omega) (HV.out.later hB c2).b).mono ?_
  rintro e w3 ⟨rfl, hb3⟩
  have c3 := bthen c2 hb3
  have b3 := bthen b2 hb3
  have hz3 := hb3.size
  have k0 := has_call (has_call k0 bx) hb3
  have e0 := has_cell k0 0 rfl
  have e1 := has_cell k0 1 rfl
  have e2 := has_cell k0 2 rfl
  have hid := fIdx_lt (p := hasP0 p) (l := x.L)
  generalize hk : fIdx (hasP0 p) x.L 0 = k at *
  have HK := Lib.hid hk; clear hk
  have HID := Lib.hid hid; clear hid
  go_wp2_with fail
  clear e0 e1 e2
  refine (colS_any w3 B x (by omega) (HV.out.later hB c3)).mono ?_
  rintro e w4 ⟨q, rfl, hq, hb4⟩
  have HQ := Lib.hid hq; clear hq
  have c4 := bthen c3 hb4
  have b4 := bthen b3 hb4
  have hz4 := hb4.size
  have k0 := has_call k0 hb4
  have k3 := has_call (has_call K3.out hb3) hb4
  have k1 := has_call K1.out b4
  have o2 : OR w4 (w.heap.size + 2) 3 A2 (intV x.F) := ((HO2.out.below (bthen (bthen bx hb3) hb4)).more hz0)
  have o3 : OR w4 (w.heap.size + 2) 65 A3 (boxV x.L) := ((HO3.out.below (bthen (bthen bx hb3) hb4)).more hz0)
  have e0 := has_cell k0 0 rfl
  have e1 := has_cell k0 1 rfl
  have e2 := has_cell k0 2 rfl
  have r0 := has_cell k3 0 rfl
  have r1 := has_cell k3 1 rfl
  have r2 := has_cell k3 2 rfl
  have y0 := has_cell k1 0 rfl
  have y1 := has_cell k1 1 rfl
  have y2 := has_cell k1 2 rfl
  have f0 := has_free k1 0
  have f1 := has_free k1 1
  have f2 := has_free k1 2
  have hk4 : w1.heap.size < w4.heap.size := has_lt k3
  have X1 := Lib.hid (set3 (u := .int .i64 x.z) (v := .slice A2 x.F.length n2) (x := .slice A3 x.L.length n3) k1)
  have FIN := Lib.hid (ans_fin (w1 := w) c4 k1 o2 o3 (.int .i64 x.z) (.slice A2 x.F.length n2) (.slice A3 x.L.length n3))
  have HK0 := Lib.hid k0; have HK1 := Lib.hid k1; have HK3 := Lib.hid k3; have O2 := Lib.hid o2; have O3 := Lib.hid o3
  clear k0 k1 k3 o2 o3
  cases q
  · go_wp2_with fail
    have g0 := has_cell X1.out 0 rfl
    have g1 := has_cell X1.out 1 rfl
    have g2 := has_cell X1.out 2 rfl
    refine bodyPost_ret (v := .tuple #[.agg #[.int .i64 x.z, .slice A2 x.F.length n2, .slice A3 x.L.length n3], .bool false]) (by simp [results, Try.results82, go_sem, g0, g1, g2]) rfl ⟨x.z, x.F, x.L, false, A2, A3, n2, n3, rfl, take_no (fun j y h => ?_), lf, lb, FIN.out⟩
    have := HQ.out.2 h.1
    simp at this
  · by_cases hkn : k < 0
    · go_wp2_with fail
      have g0 := has_cell X1.out 0 rfl
      have g1 := has_cell X1.out 1 rfl
      have g2 := has_cell X1.out 2 rfl
      refine bodyPost_ret (v := .tuple #[.agg #[.int .i64 x.z, .slice A2 x.F.length n2, .slice A3 x.L.length n3], .bool false]) (by simp [results, Try.results82, go_sem, g0, g1, g2]) rfl ⟨x.z, x.F, x.L, false, A2, A3, n2, n3, rfl, take_no (fun j y h => ?_), lf, lb, FIN.out⟩
      have := HK.out.symm.trans h.2.1
      omega
    · obtain ⟨j, y, hkj, hy, hpy⟩ := HID.out (by omega)
      subst hkj
      have hjl : j < x.L.length := (List.getElem?_eq_some_iff.1 hy).1
      obtain ⟨b, off, y', hA, hbB, hy', hc0, hc1, hc2, hc3⟩ := (HV.out.later hB c4).b.at_ hjl
      obtain rfl : y = y' := by rw [hy] at hy'; injection hy'
      rw [hA] at e2
      have hbw : b < w4.heap.size := by omega
      obtain ⟨y0', y1', y2', y3'⟩ := y
      dsimp only at hc0 hc1 hc2 hc3
      have HY := Lib.hid hy; clear hy hy' hA hpy
      cases y3'
      · obtain ⟨g, cur, hA3, hgb, hhg, ⟨u, hu⟩, hfr, hor⟩ := or_set (j := j) (i := 2) (x := ⟨y0', y1', y2', false⟩) (y := ⟨y0', y1', 0, false⟩) (v := .int .i64 0) O3.out HY.out (by omega) rfl
        subst hA3
        have hn1 : g ≠ w1.heap.size := fun eq => by
          subst eq
          have := hhg.symm.trans HK3.out
          injection this with this; injection this with _ this _
          exact absurd this (by decide)
        have k3' := has_far HK3.out (p := ⟨g, j * 4 + 2, none⟩) (fun e => hn1 e.symm) (.int .i64 0)
        have k1' := has_far HK1.out (p := ⟨g, j * 4 + 2, none⟩) (by show w.heap.size + 1 ≠ g; omega) (.int .i64 0)
        have fin' := ans_fin (w1 := w) (c4.setCell (p := ⟨g, j * 4 + 2, none⟩) (by show w.heap.size ≤ g; omega) (.int .i64 0)) k1' (O2.out.set_other hhg (by decide) _ _) hor (.int .i64 x.z) (.slice A2 x.F.length n2) (.slice (some ⟨g, 0, none⟩) x.L.length n3)
        have x1' := set3 (u := .int .i64 x.z) (v := .slice A2 x.F.length n2) (x := .slice (some ⟨g, 0, none⟩) x.L.length n3) k1'
        have FIN' := Lib.hid fin'; have X1' := Lib.hid x1'; clear fin' x1' hor
        have hz5 : w.heap.size + 1 < g := by omega
        have hn2 : ¬ g = w.heap.size + 1 := by omega
        have hn3 : ¬ w.heap.size + 1 = g := by omega
        have hn4 : ¬ w1.heap.size = g := fun e => hn1 e.symm
        have hn5 : ¬ g = w1.heap.size := hn1
        clear hn1 k1'
        have r0 := has_cell k3' 0 rfl
        have r1 := has_cell k3' 1 rfl
        have r2 := has_cell k3' 2 rfl
        clear k3'
        go_wp2_with fail
        have g0 := has_cell X1'.out 0 rfl
        have g1 := has_cell X1'.out 1 rfl
        have g2 := has_cell X1'.out 2 rfl
        refine bodyPost_ret (v := .tuple #[.agg #[.int .i64 x.z, .slice A2 x.F.length n2, .slice (some ⟨g, 0, none⟩) x.L.length n3], .bool true]) (by simp [results, Try.results82, go_sem, g0, g1, g2]) rfl ⟨x.z, x.F, x.L.set j ⟨y0', y1', 0, false⟩, true, A2, some ⟨g, 0, none⟩, n2, n3, by rw [List.length_set], take_yes (HQ.out.1 (by simp)) HK.out HY.out rfl, lf, by rw [List.length_set]; exact lb, FIN'.out⟩
      · go_wp2_with fail
        have g0 := has_cell X1.out 0 rfl
        have g1 := has_cell X1.out 1 rfl
        have g2 := has_cell X1.out 2 rfl
        refine bodyPost_ret (v := .tuple #[.agg #[.int .i64 x.z, .slice A2 x.F.length n2, .slice A3 x.L.length n3], .bool false]) (by simp [results, Try.results82, go_sem, g0, g1, g2]) rfl ⟨x.z, x.F, x.L, false, A2, A3, n2, n3, rfl, take_no (fun j' y h => ?_), lf, lb, FIN.out⟩
        obtain ⟨_, h1, h2, h3⟩ := h
        have : j = j' := by have := HK.out.symm.trans h1; omega
        subst this
        rw [HY.out] at h2; injection h2 with h2; subst h2; simp at h3
set_option maxRecDepth 100000 in
set_option maxHeartbeats 4000000 in
theorem takeI_any (w : World) (B : Nat) (x : Cl) (p : Int) (lf : x.F.length ≤ 1048576) (lb : x.L.length ≤ 1048576) (hB : B ≤ w.heap.size) (hV : CV w B x) :
    Calls Try.prog 44 #[.agg #[.int .i64 x.z, .slice x.AF x.F.length x.cF, .slice x.AB x.L.length x.cB], .int .i64 p] w (ColAnsB (takeR x.z x.F x.L p) w) := by
  have HV := Lib.hid hV; clear hV
  have hlm : x.L.length ≤ maxLen := by unfold maxLen; omega
  go_enter Try.func44, Try.ntmps44
  go_wp2_with fail
  generalize hW0 : (w.alloc (.cells #[.int .i64 x.z, .slice x.AF x.F.length x.cF, .slice x.AB x.L.length x.cB] 57)).alloc (.cells #[.int .i64 0, .slice none 0 0, .slice none 0 0] 57) = w0
  have b0 : Below w.heap.size w w0 := by rw [← hW0]; exact bthen (balloc _ _) (balloc _ _)
  have k0 : Has w0 w.heap.size 57 #[.int .i64 x.z, .slice x.AF x.F.length x.cF, .slice x.AB x.L.length x.cB] := by rw [← hW0]; exact has_alloc (has_new _ _ _) _
  have k1 : Has w0 (w.heap.size + 1) 57 #[.int .i64 0, .slice none 0 0, .slice none 0 0] := by rw [← hW0]; have := has_new (w.alloc (.cells #[.int .i64 x.z, .slice x.AF x.F.length x.cF, .slice x.AB x.L.length x.cB] 57)) 57 #[.int .i64 0, .slice none 0 0, .slice none 0 0]; simpa using this
  clear hW0
  have hz0 : w.heap.size + 2 ≤ w0.heap.size := has_lt k1
  have K0 := Lib.hid k0; have K1 := Lib.hid k1; clear k0 k1
  refine (copyI_any w0 B x lf lb (by omega) (HV.out.later hB b0)).mono ?_
  rintro e w1 ⟨A2, A3, n2, n3, rfl, ho2, ho3, hb1⟩
  have HO2 := Lib.hid ho2; have HO3 := Lib.hid ho3; clear ho2 ho3
  have k0 := has_call K0.out hb1
  have e0 := has_cell k0 0 rfl
  have e1 := has_cell k0 1 rfl
  have e2 := has_cell k0 2 rfl
  have hz1 := hb1.size
  have hlw : w.heap.size < w1.heap.size := has_lt k0
  go_wp2_with fail
  clear e0 e1 e2
  generalize hX : (w1.alloc (.cells #[.int .i64 x.z, .slice A2 x.F.length n2, .slice A3 x.L.length n3] 57)) = w2
  have bx : Below w1.heap.size w1 w2 := by rw [← hX]; exact balloc _ _
  have k3 : Has w2 w1.heap.size 57 #[.int .i64 x.z, .slice A2 x.F.length n2, .slice A3 x.L.length n3] := by rw [← hX]; exact has_new _ _ _
  clear hX
  have b2 := bthen hb1 bx
  have c2 := bthen b0 b2
  have K3 := Lib.hid k3; clear k3
  have hz2 := bx.size
  have c4' := c2
  refine (colI_any w2 B x (by omega) (HV.out.later hB c2)).mono ?_
  rintro e w3 ⟨q, rfl, hq, hb3⟩
  have HQ := Lib.hid hq; clear hq
  have c3 := bthen c2 hb3
  have b3 := bthen b2 hb3
  have hz3 := hb3.size
  have k0 := has_call (has_call k0 bx) hb3
  have k3 := has_call K3.out hb3
  have k1 := has_call K1.out b3
  have o2 : OR w3 (w.heap.size + 2) 3 A2 (intV x.F) := ((HO2.out.below (bthen bx hb3)).more hz0)
  have o3 : OR w3 (w.heap.size + 2) 65 A3 (boxV x.L) := ((HO3.out.below (bthen bx hb3)).more hz0)
  have hk3 : w1.heap.size < w3.heap.size := has_lt k3
  have hlw3 : w.heap.size < w3.heap.size := has_lt k0
  have HK0 := Lib.hid k0; have HK1 := Lib.hid k1; have HK3 := Lib.hid k3; have O2 := Lib.hid o2; have O3 := Lib.hid o3
  clear k0 k1 k3 o2 o3
  have hno : ¬ (q = true ∧ 1 ≤ p) → takeR x.z x.F x.L p x.z x.F x.L false := fun hn => take_no (fun j y h => by
    have h1 := HQ.out.2 h.1
    obtain ⟨y1, y2, y3, y4⟩ := y
    have hl := fIdx_lt (p := hasP0 p) (l := x.L) (by rw [h.2.1]; omega)
    obtain ⟨j', y', _, _, h5⟩ := hl
    simp only [hasP0, Bool.and_eq_true, decide_eq_true_eq] at h5
    exact hn ⟨h1, by omega⟩)
  by_cases hqp : q = true ∧ 1 ≤ p
  rotate_left
  · have HNO := Lib.hid (hno hqp); clear hno
    have k0 := HK0.out; have k1 := HK1.out; have k3 := HK3.out
    have r0 := has_cell k3 0 rfl
    have r1 := has_cell k3 1 rfl
    have r2 := has_cell k3 2 rfl
    have y0 := has_cell k1 0 rfl
    have y1 := has_cell k1 1 rfl
    have y2 := has_cell k1 2 rfl
    have f0 := has_free k1 0
    have f1 := has_free k1 1
    have f2 := has_free k1 2
    have X1 := Lib.hid (set3 (u := .int .i64 x.z) (v := .slice A2 x.F.length n2) (x := .slice A3 x.L.length n3) k1)
    have FIN := Lib.hid (ans_fin (w1 := w) c3 k1 O2.out O3.out (.int .i64 x.z) (.slice A2 x.F.length n2) (.slice A3 x.L.length n3))
    clear k0 k1 k3
    cases q
    · clear hqp
      go_wp2_with fail
      have g0 := has_cell X1.out 0 rfl
      have g1 := has_cell X1.out 1 rfl
      have g2 := has_cell X1.out 2 rfl
      exact bodyPost_ret (v := .tuple #[.agg #[.int .i64 x.z, .slice A2 x.F.length n2, .slice A3 x.L.length n3], .bool false]) (by simp [results, Try.results44, go_sem, g0, g1, g2]) rfl ⟨x.z, x.F, x.L, false, A2, A3, n2, n3, rfl, HNO.out, lf, lb, FIN.out⟩
    · have hp1 : p < 1 := by simp at hqp; omega
      clear hqp
      go_wp2_with fail
      have g0 := has_cell X1.out 0 rfl
      have g1 := has_cell X1.out 1 rfl
      have g2 := has_cell X1.out 2 rfl
      exact bodyPost_ret (v := .tuple #[.agg #[.int .i64 x.z, .slice A2 x.F.length n2, .slice A3 x.L.length n3], .bool false]) (by simp [results, Try.results44, go_sem, g0, g1, g2]) rfl ⟨x.z, x.F, x.L, false, A2, A3, n2, n3, rfl, HNO.out, lf, lb, FIN.out⟩
  obtain ⟨hq1, hp1⟩ := hqp
  subst hq1
  clear hno
  have hcong : fIdx (hasP p) x.L 0 = fIdx (hasP0 p) x.L 0 := fIdx_congr _ _ fun y _ => by
    have h0 : 0 < p := by omega
    simp [hasP, hasP0, h0]
  have HCONG := Lib.hid hcong; clear hcong
  have k0 := HK0.out
  have e0 := has_cell k0 0 rfl
  have e1 := has_cell k0 1 rfl
  have e2 := has_cell k0 2 rfl
  clear k0
  go_wp2_with fail
  clear e0 e1 e2
  refine (boxI_any w3 B x.AF x.AB x.cF x.cB x.z p x.F.length x.L hlm (by omega) (HV.out.later hB c3).b).mono ?_
  rintro e w4 ⟨rfl, hb4⟩
  rw [HCONG.out]
  have hid := fIdx_lt (p := hasP0 p) (l := x.L)
  generalize hk : fIdx (hasP0 p) x.L 0 = k at *
  have HK := Lib.hid hk; clear hk
  have HID := Lib.hid hid; clear hid HCONG
  have c4 := bthen c3 hb4
  have hz4 := hb4.size
  have k0 := has_call HK0.out hb4
  have k3 := has_call HK3.out hb4
  have k1 := has_call HK1.out hb4
  have o2 := O2.out.below hb4
  have o3 := O3.out.below hb4
  clear HK0 HK1 HK3 O2 O3
  have e0 := has_cell k0 0 rfl
  have e1 := has_cell k0 1 rfl
  have e2 := has_cell k0 2 rfl
  have r0 := has_cell k3 0 rfl
  have r1 := has_cell k3 1 rfl
  have r2 := has_cell k3 2 rfl
  have y0 := has_cell k1 0 rfl
  have y1 := has_cell k1 1 rfl
  have y2 := has_cell k1 2 rfl
  have f0 := has_free k1 0
  have f1 := has_free k1 1
  have f2 := has_free k1 2
  have hk4 : w1.heap.size < w4.heap.size := has_lt k3
  have X1 := Lib.hid (set3 (u := .int .i64 x.z) (v := .slice A2 x.F.length n2) (x := .slice A3 x.L.length n3) k1)
  have FIN := Lib.hid (ans_fin (w1 := w) c4 k1 o2 o3 (.int .i64 x.z) (.slice A2 x.F.length n2) (.slice A3 x.L.length n3))
  have HK0 := Lib.hid k0; have HK1 := Lib.hid k1; have HK3 := Lib.hid k3; have O2 := Lib.hid o2; have O3 := Lib.hid o3
  clear k0 k1 k3 o2 o3
  by_cases hkn : k < 0
  · go_wp2_with fail
    have g0 := has_cell X1.out 0 rfl
    have g1 := has_cell X1.out 1 rfl
    have g2 := has_cell X1.out 2 rfl
    refine bodyPost_ret (v := .tuple #[.agg #[.int .i64 x.z, .slice A2 x.F.length n2, .slice A3 x.L.length n3], .bool false]) (by simp [results, Try.results44, go_sem, g0, g1, g2]) rfl ⟨x.z, x.F, x.L, false, A2, A3, n2, n3, rfl, take_no (fun j y h => ?_), lf, lb, FIN.out⟩
    have := HK.out.symm.trans h.2.1
    omega
  · obtain ⟨j, y, hkj, hy, hpy⟩ := HID.out (by omega)
    subst hkj
    have hjl : j < x.L.length := (List.getElem?_eq_some_iff.1 hy).1
    obtain ⟨b, off, y', hA, hbB, hy', hc0, hc1, hc2, hc3⟩ := (HV.out.later hB c4).b.at_ hjl
    obtain rfl : y = y' := by rw [hy] at hy'; injection hy'
    rw [hA] at e2
    have hbw : b < w4.heap.size := by omega
    obtain ⟨y0', y1', y2', y3'⟩ := y
    dsimp only at hc0 hc1 hc2 hc3
    have HY := Lib.hid hy; clear hy hy' hA hpy
    cases y3'
    · obtain ⟨g, cur, hA3, hgb, hhg, ⟨u, hu⟩, hfr, hor⟩ := or_set (j := j) (i := 2) (x := ⟨y0', y1', y2', false⟩) (y := ⟨y0', y1', 0, false⟩) (v := .int .i64 0) O3.out HY.out (by omega) rfl
      subst hA3
      have hn1 : g ≠ w1.heap.size := fun eq => by
        subst eq
        have := hhg.symm.trans HK3.out
        injection this with this; injection this with _ this _
        exact absurd this (by decide)
      have k3' := has_far HK3.out (p := ⟨g, j * 4 + 2, none⟩) (fun e => hn1 e.symm) (.int .i64 0)
      have k1' := has_far HK1.out (p := ⟨g, j * 4 + 2, none⟩) (by show w.heap.size + 1 ≠ g; omega) (.int .i64 0)
      have fin' := ans_fin (w1 := w) (c4.setCell (p := ⟨g, j * 4 + 2, none⟩) (by show w.heap.size ≤ g; omega) (.int .i64 0)) k1' (O2.out.set_other hhg (by decide) _ _) hor (.int .i64 x.z) (.slice A2 x.F.length n2) (.slice (some ⟨g, 0, none⟩) x.L.length n3)
      have x1' := set3 (u := .int .i64 x.z) (v := .slice A2 x.F.length n2) (x := .slice (some ⟨g, 0, none⟩) x.L.length n3) k1'
      have FIN' := Lib.hid fin'; have X1' := Lib.hid x1'; clear fin' x1' hor
      have hz5 : w.heap.size + 1 < g := by omega
      have hn2 : ¬ g = w.heap.size + 1 := by omega
      have hn3 : ¬ w.heap.size + 1 = g := by omega
      have hn4 : ¬ w1.heap.size = g := fun e => hn1 e.symm
      have hn5 : ¬ g = w1.heap.size := hn1
      clear hn1 k1'
      have r0 := has_cell k3' 0 rfl
      have r1 := has_cell k3' 1 rfl
      have r2 := has_cell k3' 2 rfl
      clear k3'
      go_wp2_with fail
      have g0 := has_cell X1'.out 0 rfl
      have g1 := has_cell X1'.out 1 rfl
      have g2 := has_cell X1'.out 2 rfl
      refine bodyPost_ret (v := .tuple #[.agg #[.int .i64 x.z, .slice A2 x.F.length n2, .slice (some ⟨g, 0, none⟩) x.L.length n3], .bool true]) (by simp [results, Try.results44, go_sem, g0, g1, g2]) rfl ⟨x.z, x.F, x.L.set j ⟨y0', y1', 0, false⟩, true, A2, some ⟨g, 0, none⟩, n2, n3, by rw [List.length_set], take_yes (HQ.out.1 (by simp)) HK.out HY.out rfl, lf, by rw [List.length_set]; exact lb, FIN'.out⟩
    · go_wp2_with fail
      have g0 := has_cell X1.out 0 rfl
      have g1 := has_cell X1.out 1 rfl
      have g2 := has_cell X1.out 2 rfl
      refine bodyPost_ret (v := .tuple #[.agg #[.int .i64 x.z, .slice A2 x.F.length n2, .slice A3 x.L.length n3], .bool false]) (by simp [results, Try.results44, go_sem, g0, g1, g2]) rfl ⟨x.z, x.F, x.L, false, A2, A3, n2, n3, rfl, take_no (fun j' y h => ?_), lf, lb, FIN.out⟩
      obtain ⟨_, h1, h2, h3⟩ := h
      have : j = j' := by have := HK.out.symm.trans h1; omega
      subst this
      rw [HY.out] at h2; injection h2 with h2; subst h2; simp at h3
end Go.Proofs.Ythfpjfekemelaaa
