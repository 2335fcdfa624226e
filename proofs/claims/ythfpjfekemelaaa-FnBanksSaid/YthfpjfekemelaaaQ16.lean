/- Chapter 2: columns whose walls' row is the call's own, with its capacity (gen_own.py). -/
import Derived.Test.YthfpjfekemelaaaQ15
namespace Go.Proofs.Ythfpjfekemelaaa
open Go.RowKit
set_option linter.unusedVariables false

def ColAnsBo (R : Int → List Int → List Bx → Bool → Prop) (w : World) (e : Ending) (w' : World) : Prop :=
  ∃ (z : Int) (F : List Int) (L : List Bx) (b : Bool) (A A' : Option Addr) (n n' : Nat), e = .returned (.tuple #[.agg #[.int .i64 z, .slice A F.length n, .slice A' L.length n'], .bool b]) ∧ R z F L b ∧ F.length ≤ 1048576 ∧ L.length ≤ 1048576 ∧ OQ n w' w.heap.size 3 A (intV F) ∧ OR w' w.heap.size 65 A' (boxV L) ∧ Below w.heap.size w w'
theorem ans_fino {w w1 w2 : World} {n : Nat} {A2 A3 : Option Addr} {F L : List Value} {e1 e2 : TypeId} {cs : Array Value} (hb : Below w.heap.size w w2) (hk : Has w2 (w.heap.size + 1) 57 cs) (h2 : OQ n w2 (w.heap.size + 2) e1 A2 F) (h3 : OR w2 (w.heap.size + 2) e2 A3 L) (u v x : Value) :
    OQ n (((w2.setCell ⟨w.heap.size + 1, 0, none⟩ u).setCell ⟨w.heap.size + 1, 1, none⟩ v).setCell ⟨w.heap.size + 1, 2, none⟩ x) w.heap.size e1 A2 F ∧ OR (((w2.setCell ⟨w.heap.size + 1, 0, none⟩ u).setCell ⟨w.heap.size + 1, 1, none⟩ v).setCell ⟨w.heap.size + 1, 2, none⟩ x) w.heap.size e2 A3 L ∧ Below w.heap.size w (((w2.setCell ⟨w.heap.size + 1, 0, none⟩ u).setCell ⟨w.heap.size + 1, 1, none⟩ v).setCell ⟨w.heap.size + 1, 2, none⟩ x) :=
  ⟨(((h2.setlow (by show w.heap.size + 1 < _; omega) _).setlow (by show w.heap.size + 1 < _; omega) _).setlow (by show w.heap.size + 1 < _; omega) _).more (by omega),
   (((h3.setlow (by show w.heap.size + 1 < _; omega) _).setlow (by show w.heap.size + 1 < _; omega) _).setlow (by show w.heap.size + 1 < _; omega) _).more (by omega),
   ((hb.setCell (by simp) _).setCell (by simp) _).setCell (by simp) _⟩
theorem ans_finro {w w2 : World} {n : Nat} {A2 A3 : Option Addr} {F L : List Value} {e1 e2 : TypeId} (r base : Nat) (hb : Below w.heap.size w w2) (hr : w.heap.size ≤ r) (hbase : r < base) (h2 : OQ n w2 base e1 A2 F) (h3 : OR w2 base e2 A3 L) (u v x : Value) :
    OQ n (((w2.setCell ⟨r, 0, none⟩ u).setCell ⟨r, 1, none⟩ v).setCell ⟨r, 2, none⟩ x) w.heap.size e1 A2 F ∧ OR (((w2.setCell ⟨r, 0, none⟩ u).setCell ⟨r, 1, none⟩ v).setCell ⟨r, 2, none⟩ x) w.heap.size e2 A3 L ∧ Below w.heap.size w (((w2.setCell ⟨r, 0, none⟩ u).setCell ⟨r, 1, none⟩ v).setCell ⟨r, 2, none⟩ x) :=
  ⟨(((h2.setlow (by show r < _; omega) _).setlow (by show r < _; omega) _).setlow (by show r < _; omega) _).more (by omega),
   (((h3.setlow (by show r < _; omega) _).setlow (by show r < _; omega) _).setlow (by show r < _; omega) _).more (by omega),
   ((hb.setCell hr _).setCell hr _).setCell hr _⟩

set_option maxRecDepth 100000 in
set_option maxHeartbeats 4000000 in
theorem takeSo_any (w : World) (B : Nat) (x : Cl) (p : Int) (lf : x.F.length ≤ 1048576) (lb : x.L.length ≤ 1048576) (hB : B ≤ w.heap.size) (hV : CV w B x) :
    Calls Try.prog 82 #[.agg #[.int .i64 x.z, .slice x.AF x.F.length x.cF, .slice x.AB x.L.length x.cB], .int .i64 p] w (ColAnsBo (takeR x.z x.F x.L p) w) := by
  have HV := Lib.hid hV; clear hV
  have hlm : x.L.length ≤ maxLen := by unfold maxLen; omega
  go_enter Try.func82, Try.ntmps82
  go_wp2_with fail
  generalize hW0 : (w.alloc (.cells #[.int .i64 x.z, .slice x.AF x.F.length x.cF, .slice x.AB x.L.length x.cB] 57)).alloc (.cells #[.int .i64 0, .slice none 0 0, .slice none 0 0] 57) = w0
  have b0 : Below w.heap.size w w0 := by rw [← hW0]; exact bthen (balloc _ _) (balloc _ _)
  have k0 : Has w0 w.heap.size 57 #[.int .i64 x.z, .slice x.AF x.F.length x.cF, .slice x.AB x.L.length x.cB] := by rw [← hW0]; exact has_alloc (has_new _ _ _) _
  have k1 : Has w0 (w.heap.size + 1) 57 #[.int .i64 0, .slice none 0 0, .slice none 0 0] := by rw [← hW0]; have := has_new (w.alloc (.cells #[.int .i64 x.z, .slice x.AF x.F.length x.cF, .slice x.AB x.L.length x.cB] 57)) 57 #[.int .i64 0, .slice none 0 0, .slice none 0 0]; simpa using this
  clear hW0
  have hz0 : w.heap.size + 2 ≤ w0.heap.size := has_lt k1
  have K0 := Lib.hid k0; have K1 := Lib.hid k1; clear k0 k1
  refine (copySo_any w0 B x lf lb (by omega) (HV.out.later hB b0)).mono ?_
  rintro e w1 ⟨A2, A3, n2, n3, rfl, ho2, ho3, hb1⟩
  have HO2 := Lib.hid ho2; have HO3 := Lib.hid ho3; clear ho2 ho3
  have k0 := has_call K0.out hb1
  have e0 := has_cell k0 0 rfl
  have e1 := has_cell k0 1 rfl
  have e2 := has_cell k0 2 rfl
  have hz1 := hb1.size
  have hlw : w.heap.size < w1.heap.size := has_lt k0
  go_wp2_with fail
  clear e0 e1 e2
  generalize hX : (w1.alloc (.cells #[.int .i64 x.z, .slice A2 x.F.length n2, .slice A3 x.L.length n3] 57)) = w2
  have bx : Below w1.heap.size w1 w2 := by rw [← hX]; exact balloc _ _
  have k3 : Has w2 w1.heap.size 57 #[.int .i64 x.z, .slice A2 x.F.length n2, .slice A3 x.L.length n3] := by rw [← hX]; exact has_new _ _ _
  clear hX
  have b2 := bthen hb1 bx
  have c2 := bthen b0 b2
  have K3 := Lib.hid k3; clear k3
  have hz2 := bx.size
  refine (boxS_any w2 B x.AF x.AB x.cF x.cB x.z p x.F.length x.L hlm (by omega) (HV.out.later hB c2).b).mono ?_
  rintro e w3 ⟨rfl, hb3⟩
  have c3 := bthen c2 hb3
  have b3 := bthen b2 hb3
  have hz3 := hb3.size
  have k0 := has_call (has_call k0 bx) hb3
  have e0 := has_cell k0 0 rfl
  have e1 := has_cell k0 1 rfl
  have e2 := has_cell k0 2 rfl
  have hid := fIdx_lt (p := hasP0 p) (l := x.L)
  generalize hk : fIdx (hasP0 p) x.L 0 = k at *
  have HK := Lib.hid hk; clear hk
  have HID := Lib.hid hid; clear hid
  go_wp2_with fail
  clear e0 e1 e2
  refine (colS_any w3 B x (by omega) (HV.out.later hB c3)).mono ?_
  rintro e w4 ⟨q, rfl, hq, hb4⟩
  have HQ := Lib.hid hq; clear hq
  have c4 := bthen c3 hb4
  have b4 := bthen b3 hb4
  have hz4 := hb4.size
  have k0 := has_call k0 hb4
  have k3 := has_call (has_call K3.out hb3) hb4
  have k1 := has_call K1.out b4
  have o2 : OQ n2 w4 (w.heap.size + 2) 3 A2 (intV x.F) := ((HO2.out.below (bthen (bthen bx hb3) hb4)).more hz0)
  have o3 : OR w4 (w.heap.size + 2) 65 A3 (boxV x.L) := ((HO3.out.below (bthen (bthen bx hb3) hb4)).more hz0)
  have e0 := has_cell k0 0 rfl
  have e1 := has_cell k0 1 rfl
  have e2 := has_cell k0 2 rfl
  have r0 := has_cell k3 0 rfl
  have r1 := has_cell k3 1 rfl
  have r2 := has_cell k3 2 rfl
  have y0 := has_cell k1 0 rfl
  have y1 := has_cell k1 1 rfl
  have y2 := has_cell k1 2 rfl
  have f0 := has_free k1 0
  have f1 := has_free k1 1
  have f2 := has_free k1 2
  have hk4 : w1.heap.size < w4.heap.size := has_lt k3
  have X1 := Lib.hid (set3 (u := .int .i64 x.z) (v := .slice A2 x.F.length n2) (x := .slice A3 x.L.length n3) k1)
  have FIN := Lib.hid (ans_fino (w1 := w) c4 k1 o2 o3 (.int .i64 x.z) (.slice A2 x.F.length n2) (.slice A3 x.L.length n3))
  have HK0 := Lib.hid k0; have HK1 := Lib.hid k1; have HK3 := Lib.hid k3; have O2 := Lib.hid o2; have O3 := Lib.hid o3
  clear k0 k1 k3 o2 o3
  cases q
  · go_wp2_with fail
    have g0 := has_cell X1.out 0 rfl
    have g1 := has_cell X1.out 1 rfl
    have g2 := has_cell X1.out 2 rfl
    refine bodyPost_ret (v := .tuple #[.agg #[.int .i64 x.z, .slice A2 x.F.length n2, .slice A3 x.L.length n3], .bool false]) (by simp [results, Try.results82, go_sem, g0, g1, g2]) rfl ⟨x.z, x.F, x.L, false, A2, A3, n2, n3, rfl, take_no (fun j y h => ?_), lf, lb, FIN.out⟩
    have := HQ.out.2 h.1
    simp at this
  · by_cases hkn : k < 0
    · go_wp2_with fail
      have g0 := has_cell X1.out 0 rfl
      have g1 := has_cell X1.out 1 rfl
      have g2 := has_cell X1.out 2 rfl
      refine bodyPost_ret (v := .tuple #[.agg #[.int .i64 x.z, .slice A2 x.F.length n2, .slice A3 x.L.length n3], .bool false]) (by simp [results, Try.results82, go_sem, g0, g1, g2]) rfl ⟨x.z, x.F, x.L, false, A2, A3, n2, n3, rfl, take_no (fun j y h => ?_), lf, lb, FIN.out⟩
      have := HK.out.symm.trans h.2.1
      omega
    · obtain ⟨j, y, hkj, hy, hpy⟩ := HID.out (by omega)
      subst hkj
      have hjl : j < x.L.length := (List.getElem?_eq_some_iff.1 hy).1
      obtain ⟨b, off, y', hA, hbB, hy', hc0, hc1, hc2, hc3⟩ := (HV.out.later hB c4).b.at_ hjl
      obtain rfl : y = y' := by rw [hy] at hy'; injection hy'
      rw [hA] at e2
      have hbw : b < w4.heap.size := by omega
      obtain ⟨y0', y1', y2', y3'⟩ := y
      dsimp only at hc0 hc1 hc2 hc3
      have HY := Lib.hid hy; clear hy hy' hA hpy
      cases y3'
      · obtain ⟨g, cur, hA3, hgb, hhg, ⟨u, hu⟩, hfr, hor⟩ := or_set (j := j) (i := 2) (x := ⟨y0', y1', y2', false⟩) (y := ⟨y0', y1', 0, false⟩) (v := .int .i64 0) O3.out HY.out (by omega) rfl
        subst hA3
        have hn1 : g ≠ w1.heap.size := fun eq => by
          subst eq
          have := hhg.symm.trans HK3.out
          injection this with this; injection this with _ this _
          exact absurd this (by decide)
        have k3' := has_far HK3.out (p := ⟨g, j * 4 + 2, none⟩) (fun e => hn1 e.symm) (.int .i64 0)
        have k1' := has_far HK1.out (p := ⟨g, j * 4 + 2, none⟩) (by show w.heap.size + 1 ≠ g; omega) (.int .i64 0)
        have fin' := ans_fino (w1 := w) (c4.setCell (p := ⟨g, j * 4 + 2, none⟩) (by show w.heap.size ≤ g; omega) (.int .i64 0)) k1' (O2.out.set_other hhg (by decide) _ _) hor (.int .i64 x.z) (.slice A2 x.F.length n2) (.slice (some ⟨g, 0, none⟩) x.L.length n3)
        have x1' := set3 (u := .int .i64 x.z) (v := .slice A2 x.F.length n2) (x := .slice (some ⟨g, 0, none⟩) x.L.length n3) k1'
        have FIN' := Lib.hid fin'; have X1' := Lib.hid x1'; clear fin' x1' hor
        have hz5 : w.heap.size + 1 < g := by omega
        have hn2 : ¬ g = w.heap.size + 1 := by omega
        have hn3 : ¬ w.heap.size + 1 = g := by omega
        have hn4 : ¬ w1.heap.size = g := fun e => hn1 e.symm
        have hn5 : ¬ g = w1.heap.size := hn1
        clear hn1 k1'
        have r0 := has_cell k3' 0 rfl
        have r1 := has_cell k3' 1 rfl
        have r2 := has_cell k3' 2 rfl
        clear k3'
        go_wp2_with fail
        have g0 := has_cell X1'.out 0 rfl
        have g1 := has_cell X1'.out 1 rfl
        have g2 := has_cell X1'.out 2 rfl
        refine bodyPost_ret (v := .tuple #[.agg #[.int .i64 x.z, .slice A2 x.F.length n2, .slice (some ⟨g, 0, none⟩) x.L.length n3], .bool true]) (by simp [results, Try.results82, go_sem, g0, g1, g2]) rfl ⟨x.z, x.F, x.L.set j ⟨y0', y1', 0, false⟩, true, A2, some ⟨g, 0, none⟩, n2, n3, by rw [List.length_set], take_yes (HQ.out.1 (by simp)) HK.out HY.out rfl, lf, by rw [List.length_set]; exact lb, FIN'.out⟩
      · go_wp2_with fail
        have g0 := has_cell X1.out 0 rfl
        have g1 := has_cell X1.out 1 rfl
        have g2 := has_cell X1.out 2 rfl
        refine bodyPost_ret (v := .tuple #[.agg #[.int .i64 x.z, .slice A2 x.F.length n2, .slice A3 x.L.length n3], .bool false]) (by simp [results, Try.results82, go_sem, g0, g1, g2]) rfl ⟨x.z, x.F, x.L, false, A2, A3, n2, n3, rfl, take_no (fun j' y h => ?_), lf, lb, FIN.out⟩
        obtain ⟨_, h1, h2, h3⟩ := h
        have : j = j' := by have := HK.out.symm.trans h1; omega
        subst this
        rw [HY.out] at h2; injection h2 with h2; subst h2; simp at h3
set_option maxRecDepth 100000 in
set_option maxHeartbeats 4000000 in
theorem jamSo_any (w : World) (B : Nat) (x : Cl) (un : Int) (jm : Bool) (lf : x.F.length ≤ 1048576) (lb : x.L.length ≤ 1048576) (hB : B ≤ w.heap.size) (hV : CV w B x) :
    Calls Try.prog 83 #[.agg #[.int .i64 x.z, .slice x.AF x.F.length x.cF, .slice x.AB x.L.length x.cB], .int .i64 un, .bool jm] w (ColAnsBo (jamR x.z x.F x.L un jm) w) := by
  have HV := Lib.hid hV; clear hV
  have hlm : x.L.length ≤ maxLen := by unfold maxLen; omega
  go_enter Try.func83, Try.ntmps83
  go_wp2_with fail
  generalize hW0 : (w.alloc (.cells #[.int .i64 x.z, .slice x.AF x.F.length x.cF, .slice x.AB x.L.length x.cB] 57)).alloc (.cells #[.int .i64 0, .slice none 0 0, .slice none 0 0] 57) = w0
  have b0 : Below w.heap.size w w0 := by rw [← hW0]; exact bthen (balloc _ _) (balloc _ _)
  have k0 : Has w0 w.heap.size 57 #[.int .i64 x.z, .slice x.AF x.F.length x.cF, .slice x.AB x.L.length x.cB] := by rw [← hW0]; exact has_alloc (has_new _ _ _) _
  have k1 : Has w0 (w.heap.size + 1) 57 #[.int .i64 0, .slice none 0 0, .slice none 0 0] := by rw [← hW0]; have := has_new (w.alloc (.cells #[.int .i64 x.z, .slice x.AF x.F.length x.cF, .slice x.AB x.L.length x.cB] 57)) 57 #[.int .i64 0, .slice none 0 0, .slice none 0 0]; simpa using this
  clear hW0
  have hz0 : w.heap.size + 2 ≤ w0.heap.size := has_lt k1
  have K0 := Lib.hid k0; have K1 := Lib.hid k1; clear k0 k1
  refine (copySo_any w0 B x lf lb (by omega) (HV.out.later hB b0)).mono ?_
  rintro e w1 ⟨A2, A3, n2, n3, rfl, ho2, ho3, hb1⟩
  have HO2 := Lib.hid ho2; have HO3 := Lib.hid ho3; clear ho2 ho3
  have hz1 := hb1.size
  go_wp2_with fail
  generalize hX : (w1.alloc (.cells #[.int .i64 x.z, .slice A2 x.F.length n2, .slice A3 x.L.length n3] 57)) = w2
  have bx : Below w1.heap.size w1 w2 := by rw [← hX]; exact balloc _ _
  have k3 : Has w2 w1.heap.size 57 #[.int .i64 x.z, .slice A2 x.F.length n2, .slice A3 x.L.length n3] := by rw [← hX]; exact has_new _ _ _
  clear hX
  have b2 := bthen hb1 bx
  have c2 := bthen b0 b2
  have hz2 := bx.size
  have K0' := Lib.hid (has_call K0.out b2); have K1' := Lib.hid (has_call K1.out b2); have K3 := Lib.hid k3
  have O2' := Lib.hid ((HO2.out.below bx).more hz0); have O3' := Lib.hid ((HO3.out.below bx).more hz0)
  clear k3 K0 K1 HO2 HO3
  go_loopw [9] (fun i wr => ∃ k : Nat, k ≤ x.L.length ∧ i = .int .i64 k ∧ fIdx (cov un) x.L 0 = fIdx (cov un) (x.L.drop k) k ∧ Below w2.heap.size w2 wr) (fun i _ => x.L.length - (intOf i).toNat)
  case atStart => exact ⟨0, Nat.zero_le _, rfl, by simp, Below.refl _ _⟩
  case round =>
    obtain ⟨k, hk, rfl, hno, hb⟩ := hrel
    have HN := Lib.hid hno; clear hno
    have ck := bthen c2 hb
    have hsz := hb.size
    have k0 := has_call K0'.out hb
    have k1 := has_call K1'.out hb
    have k3 := has_call K3.out hb
    have e0 := has_cell k0 0 rfl
    have e1 := has_cell k0 1 rfl
    have e2 := has_cell k0 2 rfl
    have r0 := has_cell k3 0 rfl
    have r1 := has_cell k3 1 rfl
    have r2 := has_cell k3 2 rfl
    have y0 := has_cell k1 0 rfl
    have y1 := has_cell k1 1 rfl
    have y2 := has_cell k1 2 rfl
    have f0 := has_free k1 0
    have f1 := has_free k1 1
    have f2 := has_free k1 2
    have hlw : w.heap.size < wr.heap.size := has_lt k0
    have hl1 : w1.heap.size < wr.heap.size := has_lt k3
    have hlr : w.heap.size + 1 < wr.heap.size := has_lt k1
    by_cases hlt : k < x.L.length
    · have HK0 := Lib.hid k0; have HK1 := Lib.hid k1; have HK3 := Lib.hid k3
      clear k0 k1 k3
      go_wp2_with fail
      clear e0 e1 e2 r0 r1 r2 y0 y1 y2 f0 f1 f2
      refine (colS_any wr B x (by omega) (HV.out.later hB ck)).mono ?_
      rintro e w4 ⟨q, rfl, hq, hb4⟩
      have HQ := Lib.hid hq; clear hq
      have c4 := bthen ck hb4
      have b4 := bthen hb hb4
      have hz4 := hb4.size
      have k0 := has_call HK0.out hb4
      have k1 := has_call HK1.out hb4
      have k3 := has_call HK3.out hb4
      have r0 := has_cell k3 0 rfl
      have r1 := has_cell k3 1 rfl
      have r2 := has_cell k3 2 rfl
      have y0 := has_cell k1 0 rfl
      have y1 := has_cell k1 1 rfl
      have y2 := has_cell k1 2 rfl
      have f0 := has_free k1 0
      have f1 := has_free k1 1
      have f2 := has_free k1 2
      cases q
      · have X1 := Lib.hid (set3 (u := .int .i64 x.z) (v := .slice A2 x.F.length n2) (x := .slice A3 x.L.length n3) k1)
        have FIN := Lib.hid (ans_finro (w.heap.size + 1) (w.heap.size + 2) c4 (by omega) (by omega) (O2'.out.below b4) (O3'.out.below b4) (.int .i64 x.z) (.slice A2 x.F.length n2) (.slice A3 x.L.length n3))
        clear k0 k1 k3
        go_wp2_with fail
        have g0 := has_cell X1.out 0 rfl
        have g1 := has_cell X1.out 1 rfl
        have g2 := has_cell X1.out 2 rfl
        refine bodyPost_ret (v := .tuple #[.agg #[.int .i64 x.z, .slice A2 x.F.length n2, .slice A3 x.L.length n3], .bool false]) (by simp [results, Try.results83, go_sem, g0, g1, g2]) rfl ⟨x.z, x.F, x.L, false, A2, A3, n2, n3, rfl, jam_no (fun j y h => ?_), lf, lb, FIN.out⟩
        have := HQ.out.2 h.1
        simp at this
      · have hok : ColOk x.z x.F x.L := HQ.out.1 (by simp)
        obtain ⟨b, off, y, hA, hbB, hy, hc0, hc1, hc2, hc3⟩ := (HV.out.later hB c4).b.at_ hlt
        have hbd := box_bd hok y (List.mem_of_getElem? hy)
        have hst := fIdx_drop (cov un) x.L k y hy
        have e2 := has_cell k0 2 rfl
        rw [hA] at e2
        have hbw : b < w4.heap.size := by omega
        have hlw4 : w.heap.size < w4.heap.size := has_lt k0
        have hl14 : w1.heap.size < w4.heap.size := has_lt k3
        obtain ⟨y0', y1', y2', y3'⟩ := y
        dsimp only at hc0 hc1 hc2 hc3 hbd
        obtain ⟨hb0, hb1', hb2', hb3'⟩ := hbd
        have hcov : cov un ⟨y0', y1', y2', y3'⟩ = inB un y0' (y0' + y1' - 1) := rfl
        have HY := Lib.hid hy; have HST := Lib.hid hst; have HOK := Lib.hid hok; clear hy hst hok hA
        have HK1 := Lib.hid k1; have HK3 := Lib.hid k3; clear k0 k1 k3
        have O3 := Lib.hid (O3'.out.below b4); have O2 := Lib.hid (O2'.out.below b4)
        cases hi : inB un y0' (y0' + y1' - 1)
        · have hq : ∀ W, Calls Try.prog 34 #[.int .i64 un, .int .i64 y0', .int .i64 (y0' + y1' - 1)] W fun e w' => e = .returned (.bool false) ∧ w' = W := fun W => by rw [← hi]; exact in_any W un y0' (y0' + y1' - 1)
          rw [hi] at hcov
          have hst := HST.out
          rw [if_neg (by rw [hcov]; simp)] at hst
          have HI := Lib.hid hq; have HST2 := Lib.hid hst; clear hi hcov hq hst
          have wk1 : IntKind.i64.wrap (y0' + y1') = y0' + y1' := IntWalk.i64_in _ (by omega)
          have wk2 : IntKind.i64.wrap (y0' + y1' - 1) = y0' + y1' - 1 := IntWalk.i64_in _ (by omega)
          go_wp2_with fail
          go_big_quiet (exact Calls.quiet_of_same (HI.out _))
          clear wk1 wk2
          go_wp2
          go_roundw
          case rel => exact ⟨k + 1, by omega, by go_num, by rw [HN.out, HST2.out], below_drewN b4 _⟩
          case measure => simp [intOf]; omega
        · have hq : ∀ W, Calls Try.prog 34 #[.int .i64 un, .int .i64 y0', .int .i64 (y0' + y1' - 1)] W fun e w' => e = .returned (.bool true) ∧ w' = W := fun W => by rw [← hi]; exact in_any W un y0' (y0' + y1' - 1)
          rw [hi] at hcov
          have hst := HST.out
          rw [if_pos hcov] at hst
          have HI := Lib.hid hq; have HST2 := Lib.hid hst; clear hi hcov hq hst
          have wk1 : IntKind.i64.wrap (y0' + y1') = y0' + y1' := IntWalk.i64_in _ (by omega)
          have wk2 : IntKind.i64.wrap (y0' + y1' - 1) = y0' + y1' - 1 := IntWalk.i64_in _ (by omega)
          go_wp2_with fail
          go_big_quiet (exact Calls.quiet_of_same (HI.out _))
          clear wk1 wk2
          obtain ⟨g, cur, hA3, hgb, hhg, ⟨u, hu⟩, hfr, hor⟩ := or_set (j := k) (i := 3) (x := ⟨y0', y1', y2', y3'⟩) (y := ⟨y0', y1', y2', jm⟩) (v := .bool jm) O3.out HY.out (by omega) rfl
          subst hA3
          have hn1 : g ≠ w1.heap.size := fun eq => by
            subst eq
            have := hhg.symm.trans HK3.out
            injection this with this; injection this with _ this _
            exact absurd this (by decide)
          have k3' := has_far HK3.out (p := ⟨g, k * 4 + 3, none⟩) (fun e => hn1 e.symm) (.bool jm)
          have k1' := has_far HK1.out (p := ⟨g, k * 4 + 3, none⟩) (by show w.heap.size + 1 ≠ g; omega) (.bool jm)
          have fin' := ans_finro (w.heap.size + 1) (w.heap.size + 2) (c4.setCell (p := ⟨g, k * 4 + 3, none⟩) (by show w.heap.size ≤ g; omega) (.bool jm)) (by omega) (by omega) (O2.out.set_other hhg (by decide) _ _) hor (.int .i64 x.z) (.slice A2 x.F.length n2) (.slice (some ⟨g, 0, none⟩) x.L.length n3)
          have x1' := set3 (u := .int .i64 x.z) (v := .slice A2 x.F.length n2) (x := .slice (some ⟨g, 0, none⟩) x.L.length n3) k1'
          have FIN' := Lib.hid fin'; have X1' := Lib.hid x1'; clear fin' x1' hor
          have hn2 : ¬ g = w.heap.size + 1 := by omega
          have hn3 : ¬ w.heap.size + 1 = g := by omega
          have hn4 : ¬ w1.heap.size = g := fun e => hn1 e.symm
          have hn5 : ¬ g = w1.heap.size := hn1
          clear hn1 k1'
          have r0 := has_cell k3' 0 rfl
          have r1 := has_cell k3' 1 rfl
          have r2 := has_cell k3' 2 rfl
          clear k3'
          go_wp2_with fail
          have hx9 := fun n : Nat => set3 (u := .int .i64 x.z) (v := .slice A2 x.F.length n2) (x := .slice (some ⟨g, 0, none⟩) x.L.length n3) (has_far (has_drewN HK1.out n) (p := ⟨g, k * 4 + 3, none⟩) hn3 (.bool jm))
          have g0 := fun n : Nat => has_cell (hx9 n) 0 rfl
          have g1 := fun n : Nat => has_cell (hx9 n) 1 rfl
          have g2 := fun n : Nat => has_cell (hx9 n) 2 rfl
          refine bodyPost_ret (v := .tuple #[.agg #[.int .i64 x.z, .slice A2 x.F.length n2, .slice (some ⟨g, 0, none⟩) x.L.length n3], .bool true]) (by simp [results, Try.results83, go_sem, g0, g1, g2]) rfl ⟨x.z, x.F, x.L.set k ⟨y0', y1', y2', jm⟩, true, A2, some ⟨g, 0, none⟩, n2, n3, by rw [List.length_set], jam_yes HOK.out (by rw [HN.out, HST2.out]) HY.out, lf, by rw [List.length_set]; exact lb, FIN'.out.1, FIN'.out.2.1, below_drewN FIN'.out.2.2 _⟩
    · have X1 := Lib.hid (set3 (u := .int .i64 x.z) (v := .slice A2 x.F.length n2) (x := .slice A3 x.L.length n3) k1)
      have FIN := Lib.hid (ans_finro (w.heap.size + 1) (w.heap.size + 2) ck (by omega) (by omega) (O2'.out.below hb) (O3'.out.below hb) (.int .i64 x.z) (.slice A2 x.F.length n2) (.slice A3 x.L.length n3))
      clear k0 k1 k3
      go_wp2_with fail
      have g0 := has_cell X1.out 0 rfl
      have g1 := has_cell X1.out 1 rfl
      have g2 := has_cell X1.out 2 rfl
      refine bodyPost_ret (v := .tuple #[.agg #[.int .i64 x.z, .slice A2 x.F.length n2, .slice A3 x.L.length n3], .bool false]) (by simp [results, Try.results83, go_sem, g0, g1, g2]) rfl ⟨x.z, x.F, x.L, false, A2, A3, n2, n3, rfl, jam_no (fun j y h => ?_), lf, lb, FIN.out⟩
      have hkl : k = x.L.length := by omega
      have h1 := HN.out
      rw [hkl, List.drop_length, h.2.1] at h1
      have h1' : ((j : Nat) : Int) = -1 := h1
      omega

end Go.Proofs.Ythfpjfekemelaaa
