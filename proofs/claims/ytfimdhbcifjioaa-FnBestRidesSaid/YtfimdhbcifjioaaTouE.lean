/- Chapter 7: the contract of l07Drive of the model (gen_toue.py). -/
import Derived.Test.YtfimdhbcifjioaaTouD
import Derived.Deep.RegionHeld3
import Derived.Deep.DeepMust
import Derived.WalkLawsBesides
import Derived.Deep.DeepCutAuto
import Derived.RegionTactic
namespace Go.Proofs.Ytfimdhbcifjioaa
open Go.RowKit
set_option linter.unusedVariables false

/-- what l07Drive answers -/
def DriveS (b r : Int) (G : List (List Int)) (S : List Sp) (O : List Int) (w : World) (e : Ending) (w' : World) : Prop :=
  ((rideT b r G S O = none ∧ ∃ (A : Option Addr) (n c : Nat) (en pk wt : Int), e = .returned (.tuple #[.agg #[.slice A n c, .int .i64 en, .int .i64 pk, .int .i64 wt], .bool false])) ∨
    ∃ (d : Dv) (A' : Option Addr) (c' : Nat), rideT b r G S O = some d ∧ d.begins.length = O.length ∧ OR w' w.heap.size 3 A' (intV d.begins) ∧
    e = .returned (.tuple #[.agg #[.slice A' O.length c', .int .i64 d.fin, .int .i64 d.peak, .int .i64 d.wait], .bool true])) ∧ Below w.heap.size w w'
theorem only_set4 (W : World) (r : Nat) (a b c d : Value) : Only W r ((((W.setCell ⟨r, 0, none⟩ a).setCell ⟨r, 1, none⟩ b).setCell ⟨r, 2, none⟩ c).setCell ⟨r, 3, none⟩ d) :=
  only_set (only_set (only_set (only_set (only_refl _ _) 0 a) 1 b) 2 c) 3 d
theorem below_set4 {w W : World} {B r : Nat} (hr : B ≤ r) (a b c d : Value) (hb : Below B w W) : Below B w ((((W.setCell ⟨r, 0, none⟩ a).setCell ⟨r, 1, none⟩ b).setCell ⟨r, 2, none⟩ c).setCell ⟨r, 3, none⟩ d) :=
  (((hb.setCell hr _).setCell hr _).setCell hr _).setCell hr _
theorem below_dr {B : Nat} {a w : World} (h : Below B a w) : Below B a w.drew := Below.drew h
theorem rideT_no {b r : Int} {G : List (List Int)} {S : List Sp} {O : List Int} (h : orderB b r G S O = false) : rideT b r G S O = none := by rw [rideT, h]; exact if_neg (by decide)
theorem rideT_yes {b r : Int} {G : List (List Int)} {S : List Sp} {O : List Int} (h : orderB b r G S O = true) : rideT b r G S O = driveT b r G S O := by rw [rideT, if_pos h]
set_option maxRecDepth 100000 in
set_option maxHeartbeats 8000000 in
theorem driveS_any (w : World) (B : Nat) (b r : Int) (AL AS : Option Addr) (cL cS : Nat) (R : List Rw) (S : List Sp) (AO : Option Addr) (cO : Nat) (O : List Int) (hB : B ≤ w.heap.size) (hR : RdIn w B AL R AS S) (lO : O.length ≤ maxLen) (hcO : O.length ≤ cO ∧ cO ≤ maxLen) (hO : IL w B AO O) :
    Calls Try.prog 46 #[.agg #[.int .i64 b, .int .i64 r, .slice AL R.length cL, .slice AS S.length cS], .slice AO O.length cO] w (DriveS b r (gOf R) S O w) := by
  have HR := Lib.hid hR; have HO := Lib.hid hO; clear hR hO
  have hlo := lO; unfold maxLen at hlo
  have HOC := Lib.hid (fun (W : World) (hb : Below w.heap.size w W) => orderS_any W B b r AL AS cL cS R S AO cO O hcO (by have := hb.size; omega) (HR.out.later hB hb) lO (HO.out.later hB hb))
  clear hcO
  cases hord : orderB b r (gOf R) S O
  · have HORD := Lib.hid hord; clear hord
    go_enter Try.func46, Try.ntmps46
    go_wp2_with fail
    generalize hX : (w.alloc (.cells #[.int .i64 b, .int .i64 r, .slice AL R.length cL, .slice AS S.length cS] 27)) = w1
    have hb : Below w.heap.size w w1 := by rw [← hX]; exact balloc _ _
    have hk : Has w1 w.heap.size 27 #[.int .i64 b, .int .i64 r, .slice AL R.length cL, .slice AS S.length cS] := by rw [← hX]; exact has_new _ _ _
    have hzw1 : w1.heap.size = w.heap.size + 1 := by rw [← hX]; simp
    clear hX
    have zb := hb; clear hb
    have za := hk; clear hk
    generalize hX : (w1.alloc (.cells #[.slice none 0 0, .int .i64 0, .int .i64 0, .int .i64 0] 72)) = w2
    have hb : Below w1.heap.size w1 w2 := by rw [← hX]; exact balloc _ _
    have hk : Has w2 w1.heap.size 72 #[.slice none 0 0, .int .i64 0, .int .i64 0, .int .i64 0] := by rw [← hX]; exact has_new _ _ _
    have hzw2 : w2.heap.size = w.heap.size + 2 := by rw [← hX]; simp [hzw1]
    clear hX
    rw [hzw1] at hk
    replace za := has_call za hb
    replace zb := bthen zb hb; clear hb
    have zr := hk; clear hk
    generalize hX : (w2.alloc (.cells #[.slice none 0 0, .int .i64 b, .int .i64 0, .int .i64 0] 72)) = w3
    have hb : Below w2.heap.size w2 w3 := by rw [← hX]; exact balloc _ _
    have hk : Has w3 w2.heap.size 72 #[.slice none 0 0, .int .i64 b, .int .i64 0, .int .i64 0] := by rw [← hX]; exact has_new _ _ _
    have hzw3 : w3.heap.size = w.heap.size + 3 := by rw [← hX]; simp [hzw2]
    clear hX
    rw [hzw2] at hk
    replace za := has_call za hb
    replace zr := has_call zr hb
    replace zb := bthen zb hb; clear hb
    have zd := hk; clear hk
    clear hzw1 hzw2 hzw3
    refine (HOC.out _ zb).mono ?_
    rintro e w4 ⟨rfl, hb⟩
    rw [HORD.out]
    replace za := has_call za hb
    replace zr := has_call zr hb
    replace zd := has_call zd hb
    replace zb := bthen zb hb; clear hb
    have HZR := zr; have HZD := zd; have zr0 := has_cell HZR 0 rfl; have zr1 := has_cell HZR 1 rfl; have zr2 := has_cell HZR 2 rfl; have zr3 := has_cell HZR 3 rfl; have zf0 := has_free HZR 0; have zf1 := has_free HZR 1; have zf2 := has_free HZR 2; have zf3 := has_free HZR 3; have hzl := has_lt HZR; have zd0 := has_cell HZD 0 rfl; have zd1 := has_cell HZD 1 rfl; have zd2 := has_cell HZD 2 rfl; have zd3 := has_cell HZD 3 rfl
    have HB := Lib.hid zb; clear zb
    go_wp2_with fail
    refine bodyPost_ret (v := .tuple #[.agg #[.slice none 0 0, .int .i64 b, .int .i64 0, .int .i64 0], .bool false]) (by simp [results, Try.results46, go_sem, zr0, zr1, zr2, zr3, zf0, zf1, zf2, zf3, hzl, zd0, zd1, zd2, zd3]) rfl ⟨.inl ⟨rideT_no HORD.out, _, _, _, _, _, _, rfl⟩, ?_⟩
    with_reducible exact below_set4 (Nat.le_succ _) _ _ _ _ HB.out
  have hTQ := ordT_of hord
  have HT := Lib.hid hTQ.1; have HQ := Lib.hid hTQ.2; clear hTQ
  have HRIDE := Lib.hid (rideT_yes hord)
  have HORD := Lib.hid hord; clear hord
  have hol := HQ.out.len; have h6 := HQ.out.six
  have HD0 := Lib.hid (dv0 HT.out HQ.out)
  go_enter Try.func46, Try.ntmps46
  go_wp2_with fail
  generalize hX : (w.alloc (.cells #[.int .i64 b, .int .i64 r, .slice AL R.length cL, .slice AS S.length cS] 27)) = w1
  have hb : Below w.heap.size w w1 := by rw [← hX]; exact balloc _ _
  have hk : Has w1 w.heap.size 27 #[.int .i64 b, .int .i64 r, .slice AL R.length cL, .slice AS S.length cS] := by rw [← hX]; exact has_new _ _ _
  have hzw1 : w1.heap.size = w.heap.size + 1 := by rw [← hX]; simp
  clear hX
  have zb := hb; clear hb
  have za := hk; clear hk
  generalize hX : (w1.alloc (.cells #[.slice none 0 0, .int .i64 0, .int .i64 0, .int .i64 0] 72)) = w2
  have hb : Below w1.heap.size w1 w2 := by rw [← hX]; exact balloc _ _
  have hk : Has w2 w1.heap.size 72 #[.slice none 0 0, .int .i64 0, .int .i64 0, .int .i64 0] := by rw [← hX]; exact has_new _ _ _
  have hzw2 : w2.heap.size = w.heap.size + 2 := by rw [← hX]; simp [hzw1]
  clear hX
  rw [hzw1] at hk
  replace za := has_call za hb
  replace zb := bthen zb hb; clear hb
  have zr := hk; clear hk
  generalize hX : (w2.alloc (.cells #[.slice none 0 0, .int .i64 b, .int .i64 0, .int .i64 0] 72)) = w3
  have hb : Below w2.heap.size w2 w3 := by rw [← hX]; exact balloc _ _
  have hk : Has w3 w2.heap.size 72 #[.slice none 0 0, .int .i64 b, .int .i64 0, .int .i64 0] := by rw [← hX]; exact has_new _ _ _
  have hzw3 : w3.heap.size = w.heap.size + 3 := by rw [← hX]; simp [hzw2]
  clear hX
  rw [hzw2] at hk
  replace za := has_call za hb
  replace zr := has_call zr hb
  replace zb := bthen zb hb; clear hb
  have zd := hk; clear hk
  clear hzw1 hzw2 hzw3
  refine (HOC.out _ zb).mono ?_
  rintro e w4 ⟨rfl, hb⟩
  rw [HORD.out]
  replace za := has_call za hb
  replace zr := has_call zr hb
  replace zd := has_call zd hb
  replace zb := bthen zb hb; clear hb
  have ZA0 := Lib.hid za; have ZR0 := Lib.hid zr; have ZD0 := Lib.hid zd; have ZB0 := Lib.hid zb; clear za zr zd zb
  go_wp2_with fail
  go_loopw [7, 8] (fun lv i wr => ∃ k : Nat, k ≤ O.length ∧ i = .int .i64 k ∧ lv = .int .i64 (loadT S (O.take k)) ∧ Has wr w.heap.size 27 #[.int .i64 b, .int .i64 r, .slice AL R.length cL, .slice AS S.length cS] ∧ Has wr (w.heap.size + 1) 72 #[.slice none 0 0, .int .i64 0, .int .i64 0, .int .i64 0] ∧ Has wr (w.heap.size + 2) 72 #[.slice none 0 0, .int .i64 b, .int .i64 0, .int .i64 0] ∧ Below w.heap.size w wr) (fun _ i _ => O.length - (intOf i).toNat)
  case atStart => exact ⟨0, Nat.zero_le _, rfl, rfl, ZA0.out, ZR0.out, ZD0.out, ZB0.out⟩
  case round =>
    obtain ⟨k, hk, rfl, rfl, hH, hZR, hZD, hb⟩ := hrel
    have hsz := hb.size
    by_cases hlt : k < O.length
    · obtain ⟨bo, fo, x, hAO, hbO, hx, ho0⟩ := (HO.out.later hB hb).at_ hlt
      have hxr := HQ.out.at_ x (List.mem_of_getElem? hx)
      obtain ⟨i, rfl⟩ : ∃ i : Nat, x = (i : Int) := ⟨x.toNat, by omega⟩
      obtain ⟨bs, fs, s, hAS, hbS, hs, hs0, hs1, hs2, hs3, hs4⟩ := (HR.out.stops.later hB hb).at_ (k := i) (by omega)
      obtain rfl : stopT S i = s := by have := stop_row (S := S) (i := i) (by omega); rw [hs] at this; injection this with this; exact this.symm
      have hst := (stopB_iff _).1 (HT.out.stops _ (List.mem_of_getElem? hs))
      have hla := loadT_ok HT.out.stops (take_in HQ.out.at_ k)
      rw [List.length_take] at hla
      have hsum := loadT_take (S := S) hx
      obtain ⟨v, hv⟩ : ∃ v, (stopT S i).bring = v := ⟨_, rfl⟩
      obtain ⟨u, hu⟩ : ∃ u, loadT S (O.take k) = u := ⟨_, rfl⟩
      rw [hv] at hs3 hsum hst; rw [hu] at hsum hla ⊢
      have HSUM := Lib.hid hsum
      obtain ⟨v0, v1⟩ : 0 ≤ v ∧ v ≤ 1000 := by omega
      obtain ⟨u0, u1⟩ : 0 ≤ u ∧ u ≤ 6000 := by omega
      have hiS : (i : Int) < (S.length : Int) := by omega
      subst hAO hAS
      clear hs0 hs1 hs2 hs4 hs hst hx hla hsum hv hu
      have hc3 := has_cell hH 3 rfl
      have hbx := has_lt hH
      have HH := Lib.hid hH; have HZR := Lib.hid hZR; have HZD := Lib.hid hZD; clear hH hZR hZD
      go_wp2_with fail
      go_quiet (fail)
      go_wp2_with fail
      go_roundw
      case rel => exact ⟨k + 1, by omega, by go_num, by rw [HSUM.out], HH.out, HZR.out, HZD.out, below_drewN hb _⟩
      case measure => simp [intOf]; omega
    · have hkl : k = O.length := by omega
      subst hkl
      rw [List.take_length]
      have hla0 := loadT_ok HT.out.stops HQ.out.at_
      obtain ⟨ld0, hld0⟩ : ∃ x, loadT S O = x := ⟨_, rfl⟩
      rw [hld0] at hla0 ⊢
      have HL0 := Lib.hid hld0; clear hld0
      have zc2 := has_cell hZD 2 rfl; have zf2 := has_free hZD 2
      have hbx := has_lt hH; have hzd := has_lt hZD
      have HH := Lib.hid hH; have HZR := Lib.hid hZR; have HZD := Lib.hid hZD; have HB := Lib.hid hb; clear hH hZR hZD hb
      go_wp2_with fail
      clear zc2 zf2
      have HD0' := Lib.hid (by have h9 := HD0.out; rw [HL0.out] at h9; exact h9)
      have hsz := HB.out.size
      rename World => wz
      go_loopw [7, 9, 10] (fun lv pv i wr => ∃ (k p : Nat) (bs : List Int) (en ld pk wt : Int) (A' : Option Addr) (c' : Nat), k ≤ O.length ∧ i = .int .i64 k ∧ lv = .int .i64 ld ∧ pv = .int .i64 (p : Int) ∧ runT (gOf R) S (O.take k) ⟨[], b, ld0, ld0, 0, 0⟩ = some ⟨bs, en, ld, pk, wt, (p : Int)⟩ ∧ DvOk S k ⟨bs, en, ld, pk, wt, (p : Int)⟩ ∧ wr.ownsRow (w.heap.size + 3) 3 1 (.slice A' k c') k (intV bs) ∧ Has wr (w.heap.size + 1 + 1) 72 #[.slice A' k c', .int .i64 en, .int .i64 pk, .int .i64 wt] ∧ Has wr w.heap.size 27 #[.int .i64 b, .int .i64 r, .slice AL R.length cL, .slice AS S.length cS] ∧ Has wr (w.heap.size + 1) 72 #[.slice none 0 0, .int .i64 0, .int .i64 0, .int .i64 0] ∧ Below w.heap.size w wr) (fun _ _ i _ => O.length - (intOf i).toNat)
      case atStart =>
        have hst4 : Has (wz.setCell ⟨w.heap.size + 1 + 1, 2, none⟩ (.int .i64 ld0)) (w.heap.size + 1 + 1) 72 #[.slice none 0 0, .int .i64 b, .int .i64 ld0, .int .i64 0] := by simpa using has_set HZD.out 2 (.int .i64 ld0)
        have ho4 : Only wz (w.heap.size + 1 + 1) (wz.setCell ⟨w.heap.size + 1 + 1, 2, none⟩ (.int .i64 ld0)) := only_set (only_refl _ _) 2 _
        exact ⟨0, 0, [], b, ld0, ld0, 0, none, 0, Nat.zero_le _, rfl, rfl, rfl, rfl, HD0'.out, World.ownsRow_nil _ _ _ _, hst4, has_onl HH.out ho4 (by omega), has_onl HZR.out ho4 (by omega), HB.out.trans (only_below ho4 (by omega) (by omega))⟩
      clear HH HZR HZD HB hbx hzd hsz
      case round =>
        obtain ⟨k, p, bs, en, ld, pk, wt, A', c', hk, rfl, rfl, rfl, hrun, hdv, hown, hZD, hZA, hZR, hb⟩ := hrel
        have hdv0 := hdv
        obtain ⟨g1, g2, g3, g4, g5, g6, g7, g8, g9, g10, g11⟩ := hdv
        dsimp only at g1 g2 g3 g4 g5 g6 g7 g8 g9 g10 g11
        have HDV := Lib.hid hdv0; have HRUN := Lib.hid hrun; have OWN := Lib.hid hown; have G1 := Lib.hid g1; clear hrun hown g1 hdv0
        have hsz := hb.size
        by_cases hlt : k < O.length
        · obtain ⟨bo, fo, x, hAO, hbO, hx, ho0⟩ := (HO.out.later hB hb).at_ hlt
          have hxr := HQ.out.at_ x (List.mem_of_getElem? hx)
          obtain ⟨i, rfl⟩ : ∃ i : Nat, x = (i : Int) := ⟨x.toNat, by omega⟩
          obtain ⟨bs2, fs, ⟨x0, x1, x2, x3, x4⟩, hAS, hbS, hs, hs0, hs1, hs2, hs3, hs4⟩ := (HR.out.stops.later hB hb).at_ (k := i) (by omega)
          have hsq : stopT S i = ⟨x0, x1, x2, x3, x4⟩ := by have := stop_row (S := S) (i := i) (by omega); rw [hs] at this; injection this with this; exact this.symm
          have hst := (stopB_iff _).1 (HT.out.stops _ (List.mem_of_getElem? hs))
          dsimp only at hs0 hs1 hs2 hs3 hs4 hst
          obtain ⟨⟨XA, xc, xl⟩, hxr2, hlen, hq⟩ := leg_row HT.out (p := p) (by omega)
          obtain ⟨bl, fl, x', hAL, hbL, hx', hl0⟩ := (HR.out.rows.later hB hb).at_ (k := p) (by have := (List.getElem?_eq_some_iff.1 hxr2).1; exact this)
          obtain rfl : x' = ⟨XA, xc, xl⟩ := by rw [hxr2] at hx'; injection hx' with hx'; exact hx'.symm
          dsimp only at hlen hq hl0
          obtain ⟨b3, f3, y, hA3, hb3, hy, hy0⟩ := ((HR.out.vals _ (List.mem_of_getElem? hxr2)).1.later hB hb).at_ (k := i + 1) (by dsimp only; omega)
          dsimp only at hA3 hy
          have hleg := leg_in HT.out (i := (p : Int)) (j := (i : Int) + 1) (by omega) (by omega) (by omega) (by omega)
          obtain rfl : legT (gOf R) p ((i : Int) + 1) = y := by have := hq (i + 1) (by omega); rw [hy] at this; injection this with this; exact this.symm
          obtain ⟨L, hL⟩ : ∃ L, legT (gOf R) p ((i : Int) + 1) = L := ⟨_, rfl⟩
          rw [hL] at hleg hy0
          have HL := Lib.hid hL; have HSQ := Lib.hid hsq; have HX := Lib.hid hx
          have hil : i < S.length := by omega
          have hlen9 : ((i : Int) + 1) < (xl.length : Int) := by omega
          have hpl : (p : Int) < (R.length : Int) := by have := (List.getElem?_eq_some_iff.1 hxr2).1; omega
          clear hL hsq hx hs hxr2 hx' hlen hq hy hxr
          have HZA := Lib.hid hZA; have HZR := Lib.hid hZR; have HZD := Lib.hid hZD; have HB := Lib.hid hb; clear hZA hZR hZD hb
          have hc2 := has_cell HZA.out 2 rfl; have hc3 := has_cell HZA.out 3 rfl
          subst hAO hAS hAL hA3
          have hbx : w.heap.size < wr.heap.size := has_lt HZA.out
          have hzd : w.heap.size + 1 + 1 < wr.heap.size := has_lt HZD.out
          have hboW : bo < wr.heap.size := by omega
          have hbsW : bs2 < wr.heap.size := by omega
          go_upto_region 14 with fail
          go_region
          go_upto_region 15 with fail
          generalize hX : World.drew _ = w4
          have hbg4 : Below wr.heap.size wr (wr.alloc (.cells #[.int .i64 x0, .int .i64 x1, .int .i64 x2, .int .i64 x3, .int .i64 x4] 50)) := balloc _ _
          have hb4 : Below wr.heap.size wr w4 := by rw [← hX]; exact hbg4.drew
          have hk4 : Has w4 wr.heap.size 50 #[.int .i64 x0, .int .i64 x1, .int .i64 x2, .int .i64 x3, .int .i64 x4] := by rw [← hX]; exact has_new _ _ _
          clear hX hbg4
          have hsz4 := hb4.size
          have hl4 := (bold hb4 bl (fl + p) (by omega)).trans hl0
          have hy4 := (bold hb4 b3 (f3 + (i + 1)) (by omega)).trans hy0
          have ho4 := (bold hb4 bo (fo + k) (by omega)).trans ho0
          clear hs0 hs1 hs2 hs3 hs4 hl0 hy0 hc2 hc3 ho0
          replace HZA := Lib.hid (has_call HZA.out hb4); replace HZR := Lib.hid (has_call HZR.out hb4); replace HZD := Lib.hid (has_call HZD.out hb4); replace OWN := Lib.hid (own_call OWN.out hb4); replace HB := Lib.hid (HB.out.trans (hb4.mono hsz)); clear hb4
          have hc2 := has_cell HZA.out 2 rfl
          have hd1 := has_cell HZD.out 1 rfl
          have hbx4 : w.heap.size < w4.heap.size := has_lt HZA.out
          have hzd4 : w.heap.size + 1 + 1 < w4.heap.size := has_lt HZD.out
          have hww : IntKind.i64.wrap ((i : Int) + 1) = (i : Int) + 1 := IntWalk.i64_in _ (by omega)
          have hww2 : IntKind.i64.wrap (en + L) = en + L := IntWalk.i64_in _ (by omega)
          go_quiet (fail)
          clear hc2 hd1 hl4 hy4 hww hww2
          rename Nat => nq0
          have hx0 := has_cell hk4 0 rfl; have hx1 := has_cell hk4 1 rfl; have hx2 := has_cell hk4 2 rfl; have hx3 := has_cell hk4 3 rfl; have hx4 := has_cell hk4 4 rfl
          have hb5 := HB.out
          by_cases hlate : x1 < en + L
          · have HV := Lib.hid (show rideT b r (gOf R) S O = none from HRIDE.out.trans (driveT_no (by
              rw [HL0.out]
              refine runT_stop (k := k + 1) ?_
              rw [runT_take HX.out HRUN.out]
              exact stepT_not (a := en + L) (by dsimp only; rw [HL.out]) (by rw [HSQ.out]; exact hlate))))
            have zr0 := has_cell HZR.out 0 rfl; have zr1 := has_cell HZR.out 1 rfl; have zr2 := has_cell HZR.out 2 rfl; have zr3 := has_cell HZR.out 3 rfl
            have zf0 := has_free HZR.out 0; have zf1 := has_free HZR.out 1; have zf2 := has_free HZR.out 2; have zf3 := has_free HZR.out 3
            have zd0 := has_cell HZD.out 0 rfl; have zd1 := has_cell HZD.out 1 rfl; have zd2 := has_cell HZD.out 2 rfl; have zd3 := has_cell HZD.out 3 rfl
            have hzl := has_lt HZR.out
            go_wp2_with fail
            refine bodyPost_ret (v := .tuple #[.agg #[.slice A' k c', .int .i64 en, .int .i64 pk, .int .i64 wt], .bool false]) (by simp [results, Try.results46, go_sem, zr0, zr1, zr2, zr3, zf0, zf1, zf2, zf3, hzl, zd0, zd1, zd2, zd3]) rfl ⟨.inl ⟨HV.out, _, _, _, _, _, _, rfl⟩, ?_⟩
            with_reducible exact below_set4 (Nat.le_succ _) _ _ _ _ (below_dn hb5 nq0)
          · go_upto_region 19 with fail
            obtain ⟨bg, hbg⟩ : ∃ bg, (if en + L < x0 then x0 else en + L) = bg := ⟨_, rfl⟩
            rw [hbg]
            have hbm : bg = max (en + L) x0 := by rw [← hbg]; split <;> omega
            clear hbg
            obtain ⟨pk2, hpk2⟩ : ∃ x, (if pk < ld - x3 + x4 then ld - x3 + x4 else pk) = x := ⟨_, rfl⟩
            have hpm : pk2 = max pk (ld - x3 + x4) := by rw [← hpk2]; split <;> omega
            have hstep : runT (gOf R) S (O.take (k + 1)) ⟨[], b, ld0, ld0, 0, 0⟩ = some ⟨bs ++ [bg], bg + x2, ld - x3 + x4, pk2, wt + bg - (en + L), ((i + 1 : Nat) : Int)⟩ := by
              rw [runT_take HX.out HRUN.out]
              exact stepT_put (a := en + L) (by dsimp only; rw [HL.out]) (by rw [HSQ.out]; dsimp only; omega) rfl (by rw [HSQ.out]; exact hbm) (by rw [HSQ.out]) (by rw [HSQ.out]; dsimp only; omega) hpm (by dsimp only; omega) (by omega)
            have hdv2 : DvOk S (k + 1) ⟨bs ++ [bg], bg + x2, ld - x3 + x4, pk2, wt + bg - (en + L), ((i + 1 : Nat) : Int)⟩ :=
              stepT_ok HT.out (by omega) HDV.out (i := (i : Int)) (by omega) (by omega) (by rw [← runT_take HX.out HRUN.out]; exact hstep)
            have hbr : bg ≤ 20000 ∧ 0 ≤ bg ∧ en + L ≤ bg := by omega
            have HSTEP := Lib.hid hstep; have HDV2 := Lib.hid hdv2; have HPK := Lib.hid hpk2; clear hstep hdv2 hpm hpk2 hbm
            generalize hX : w4.drewN nq0 = w5
            replace HZA := Lib.hid (show Has w5 _ _ _ by rw [← hX]; exact HZA.out); replace HZR := Lib.hid (show Has w5 _ _ _ by rw [← hX]; exact HZR.out); replace HZD := Lib.hid (show Has w5 _ _ _ by rw [← hX]; exact HZD.out)
            have hk5 : Has w5 wr.heap.size 50 #[.int .i64 x0, .int .i64 x1, .int .i64 x2, .int .i64 x3, .int .i64 x4] := by rw [← hX]; exact hk4
            have ho5 : w5.cell? ⟨bo, fo + k, none⟩ = some (.int .i64 (i : Int)) := by rw [← hX]; exact ho4
            replace OWN := Lib.hid (show w5.ownsRow (w.heap.size + 3) 3 1 (.slice A' k c') k (intV bs) by rw [← hX]; exact OWN.out)
            have hb6 : Below w.heap.size w w5 := by rw [← hX]; exact below_drewN hb5 _
            have hw5 : w.heap.size + 1 + 1 < w5.heap.size := has_lt HZD.out
            clear hX hx0 hx1 hx2 hx3 hx4 hk4 hb5 hzd4 hbx4 ho4
            obtain ⟨i0, hi0, hz0, hz1, hz2⟩ := info_parts intInfo
            have hd0 := has_cell HZD.out 0 rfl
            go_wp2_with (at_builtin; go_must (refine list_app rfl _ _ 29 rfl (w.heap.size + 3) 3 i0 (.int .i64 0) 1 8 Try.underlying29 hi0 hz0 hz1 hz2 rfl (by decide) _ k _ rfl (OWN.out.alloc _) (some ⟨w5.heap.size, 0, none⟩) 1 1 [.int .i64 bg] rfl (src_one (has_new _ _ _)) (by unfold maxLen; omega) (by omega) (by simp; omega) ?_))
            intro A3 c3 w6 hown3 hgrow3 hrow3
            clear hd0
            have zd := has_gt (has_alloc HZD.out _) hgrow3 (fun b e => (hrow3 b e).2) (by decide)
            have za := has_gt (has_alloc HZA.out _) hgrow3 (fun b e => (hrow3 b e).2) (by decide)
            have zr := has_gt (has_alloc HZR.out _) hgrow3 (fun b e => (hrow3 b e).2) (by decide)
            have zs := has_gt (has_alloc hk5 _) hgrow3 (fun b e => (hrow3 b e).2) (by decide)
            have zb : Below w.heap.size w w6 := (hb6.alloc (by omega) _).grown hgrow3 (by simp; omega) (fun b hb => by have := (hrow3 b hb).1; omega)
            have hob : Below B w5 w6 := (balloc w5 _ |>.mono (by omega) |>.trans (Below.grown (Below.refl _ _) hgrow3 (by simp; omega) (fun b hb => by have := (hrow3 b hb).1; omega)))
            have ho6 := (hob.cell (p := ⟨bo, fo + k, none⟩) hbO).trans ho5
            clear hob ho5
            have own3 : w6.ownsRow (w.heap.size + 3) 3 1 (.slice A3 (k + 1) c3) (k + 1) (intV (bs ++ [bg])) := by simpa [intV] using hown3
            have zd0 := has_cell zd 0 rfl; have zd1 := has_cell zd 1 rfl; have zd2 := has_cell zd 2 rfl; have zd3 := has_cell zd 3 rfl
            have zf0 := has_free zd 0; have zf1 := has_free zd 1; have zf2 := has_free zd 2; have zf3 := has_free zd 3
            have zs2 := has_cell zs 2 rfl; have zs3 := has_cell zs 3 rfl; have zs4 := has_cell zs 4 rfl
            have hzsne : wr.heap.size ≠ w.heap.size + 1 + 1 := by omega
            have hbone : bo ≠ w.heap.size + 1 + 1 := by omega
            have hzdl := has_lt zd
            have ZD := Lib.hid zd; have ZA := Lib.hid za; have ZR := Lib.hid zr; have ZB6 := Lib.hid zb; have OW3 := Lib.hid own3
            clear zd za zr zs zb own3 hown3 hgrow3 hrow3 HZA HZR HZD OWN hk5 hb6 HB hi0 hz0 hz1 hz2
            go_wp2_with fail
            go_roundw
            case rel =>
              rw [HPK.out]
              generalize hX : World.setCell _ _ _ = w8
              have ho8 : Only w6 (w.heap.size + 1 + 1) w8 := by rw [← hX]; exact only_set (only_set (only_set (only_set (only_refl _ _) _ _) _ _) _ _) _ _
              have zd8 : Has w8 (w.heap.size + 1 + 1) 72 #[.slice A3 (k + 1) c3, .int .i64 (bg + x2), .int .i64 pk2, .int .i64 (wt + bg - (en + L))] := by rw [← hX]; simpa using has_set (has_set (has_set (has_set ZD.out 0 _) 3 _) 2 _) 1 _
              have hz6 := ZB6.out.size
              exact ⟨k + 1, i + 1, bs ++ [bg], bg + x2, ld - x3 + x4, pk2, wt + bg - (en + L), A3, c3, by omega, by go_num, rfl, by go_num, HSTEP.out, HDV2.out, own_kt OW3.out ZD.out (by decide) ho8, zd8, has_onl ZA.out ho8 (by omega), has_onl ZR.out ho8 (by omega), ZB6.out.trans (only_below ho8 (by omega) (by omega))⟩
            case measure => simp [intOf]; omega
        · have hkl : k = O.length := by omega
          subst hkl
          have hrun2 : runT (gOf R) S O ⟨[], b, loadT S O, loadT S O, 0, 0⟩ = some ⟨bs, en, ld, pk, wt, (p : Int)⟩ := by have := HRUN.out; rw [List.take_length] at this; rw [HL0.out]; exact this
          have HRUN2 := Lib.hid hrun2; clear hrun2 HRUN
          have hbx : w.heap.size < wr.heap.size := has_lt hZA
          have hzd : w.heap.size + 1 + 1 < wr.heap.size := has_lt hZD
          have za1 := has_cell hZA 1 rfl; have za2 := has_cell hZA 2 rfl
          have zd0 := has_cell hZD 0 rfl; have zd1 := has_cell hZD 1 rfl; have zd2 := has_cell hZD 2 rfl; have zd3 := has_cell hZD 3 rfl
          have zr0 := has_cell hZR 0 rfl; have zr1 := has_cell hZR 1 rfl; have zr2 := has_cell hZR 2 rfl; have zr3 := has_cell hZR 3 rfl
          have zf0 := has_free hZR 0; have zf1 := has_free hZR 1; have zf2 := has_free hZR 2; have zf3 := has_free hZR 3; have hzl := has_lt hZR
          by_cases hnz : (0 : Int) < (O.length : Int)
          · have hne : O ≠ [] := fun e => by subst e; simp at hnz
            obtain ⟨⟨XA, xc, xl⟩, hxr2, hlen, hq⟩ := leg_row HT.out (p := p) (by omega)
            obtain ⟨bl, fl, x', hAL, hbL, hx', hl0⟩ := (HR.out.rows.later hB hb).at_ (k := p) (by have := (List.getElem?_eq_some_iff.1 hxr2).1; exact this)
            obtain rfl : x' = ⟨XA, xc, xl⟩ := by rw [hxr2] at hx'; injection hx' with hx'; exact hx'.symm
            dsimp only at hlen hq hl0
            obtain ⟨b3, f3, y, hA3, hb3, hy, hy0⟩ := ((HR.out.vals _ (List.mem_of_getElem? hxr2)).1.later hB hb).at_ (k := 0) (by dsimp only; omega)
            dsimp only at hA3 hy
            rw [Nat.add_zero] at hy0
            have hleg := leg_in HT.out (i := (p : Int)) (j := 0) (by omega) (by omega) (by omega) (by omega)
            obtain rfl : legT (gOf R) p 0 = y := by have := hq 0 (by omega); rw [hy] at this; injection this with this; exact this.symm
            obtain ⟨L, hL⟩ : ∃ L, legT (gOf R) p 0 = L := ⟨_, rfl⟩
            rw [hL] at hleg hy0
            have HOME := Lib.hid (show homeT (gOf R) O ⟨bs, en, ld, pk, wt, (p : Int)⟩ = en + L by rw [homeT, if_neg hne, hL])
            have hpl : (p : Int) < (R.length : Int) := by have := (List.getElem?_eq_some_iff.1 hxr2).1; omega
            have hlen0 : (0 : Int) < (xl.length : Int) := by omega
            subst hAL hA3
            clear hL hxr2 hx' hlen hq hy hne
            have HB := Lib.hid hb; clear hb
            have zdf1 := has_free hZD 1
            have HZD := Lib.hid hZD; have HZR := Lib.hid hZR; have HZA := Lib.hid hZA; clear hZD hZR hZA
            by_cases hbig : r < pk
            · skip
              have HV := Lib.hid (show rideT b r (gOf R) S O = none from HRIDE.out.trans (driveT_big HRUN2.out hbig))
              have hbq : decide (pk ≤ r) = false := by simp; omega
              have hdr := Lib.hid (fun (W : World) (e : TypeId) (A : Option Addr) (xs : List Value) (bb : Nat) (h : OR W bb e A xs) => (show OR W.drew bb e A xs from h)); clear hdr
              go_upto_region 26 with fail
              go_region
              go_upto_region 27 with fail
              go_region
              go_wp2_with fail
              refine bodyPost_ret (v := .tuple #[.agg #[.slice A' O.length c', .int .i64 (en + L), .int .i64 pk, .int .i64 wt], .bool false]) (by simp [results, Try.results46, go_sem, zr0, zr1, zr2, zr3, zf0, zf1, zf2, zf3, hzl, zd0, zd1, zd2, zd3]) rfl ⟨.inl ⟨HV.out, _, _, _, _, _, _, rfl⟩, ?_⟩
              with_reducible exact Below.drew (Below.drew (below_set4 (Nat.le_succ _) _ _ _ _ (Below.setCell HB.out (Nat.le_succ_of_le (Nat.le_succ _)) _)))
            have HV := Lib.hid (show rideT b r (gOf R) S O = some ⟨bs, (en + L), ld, pk, wt, (p : Int)⟩ by rw [HRIDE.out, driveT_yes (r := r) HRUN2.out (show _ ≤ r by dsimp only; omega), HOME.out])
            have hbq : decide (pk ≤ r) = true := by simp; omega
            have hdr := Lib.hid (fun (W : World) (e : TypeId) (A : Option Addr) (xs : List Value) (bb : Nat) (h : OR W bb e A xs) => (show OR W.drew bb e A xs from h)); clear hdr
            go_upto_region 26 with fail
            go_region
            go_upto_region 27 with fail
            go_region
            go_wp2_with fail
            refine bodyPost_ret (v := .tuple #[.agg #[.slice A' O.length c', .int .i64 (en + L), .int .i64 pk, .int .i64 wt], .bool true]) (by simp [results, Try.results46, go_sem, zr0, zr1, zr2, zr3, zf0, zf1, zf2, zf3, hzl, zd0, zd1, zd2, zd3]) rfl ⟨.inr ⟨_, A', c', HV.out, G1.out, ?_, rfl⟩, ?_⟩
            · dsimp only
              have hzr : Has (wr.setCell ⟨w.heap.size + 1 + 1, 1, none⟩ (.int .i64 (en + L))) (w.heap.size + 1) 72 #[.slice none 0 0, .int .i64 0, .int .i64 0, .int .i64 0] := has_onl HZR.out (only_set (only_refl _ _) 1 (.int .i64 (en + L))) (by omega)
              have h3 : w.heap.size ≤ w.heap.size + 3 := by omega
              with_reducible exact or_dr (or_dr (OR.more (or_own' (own_kt (own_kt OWN.out HZD.out (by decide) (only_set (only_refl _ _) _ _)) hzr (by decide) (only_set4 _ _ _ _ _ _))) h3))
            · with_reducible exact Below.drew (Below.drew (below_set4 (Nat.le_succ _) _ _ _ _ (Below.setCell HB.out (Nat.le_succ_of_le (Nat.le_succ _)) _)))
          · have hol0 : O.length = 0 := by omega
            have HOME := Lib.hid (show homeT (gOf R) O ⟨bs, en, ld, pk, wt, (p : Int)⟩ = en by rw [homeT, if_pos (List.eq_nil_of_length_eq_zero hol0)])
            clear hol0
            have HB := Lib.hid hb; clear hb
            have HZD := Lib.hid hZD; have HZR := Lib.hid hZR; have HZA := Lib.hid hZA; clear hZD hZR hZA
            by_cases hbig : r < pk
            · skip
              have HV := Lib.hid (show rideT b r (gOf R) S O = none from HRIDE.out.trans (driveT_big HRUN2.out hbig))
              have hbq : decide (pk ≤ r) = false := by simp; omega
              have hdr := Lib.hid (fun (W : World) (e : TypeId) (A : Option Addr) (xs : List Value) (bb : Nat) (h : OR W bb e A xs) => (show OR W.drew bb e A xs from h)); clear hdr
              go_upto_region 27 with fail
              go_region
              go_wp2_with fail
              refine bodyPost_ret (v := .tuple #[.agg #[.slice A' O.length c', .int .i64 en, .int .i64 pk, .int .i64 wt], .bool false]) (by simp [results, Try.results46, go_sem, zr0, zr1, zr2, zr3, zf0, zf1, zf2, zf3, hzl, zd0, zd1, zd2, zd3]) rfl ⟨.inl ⟨HV.out, _, _, _, _, _, _, rfl⟩, ?_⟩
              with_reducible exact Below.drew (below_set4 (Nat.le_succ _) _ _ _ _ HB.out)
            have HV := Lib.hid (show rideT b r (gOf R) S O = some ⟨bs, en, ld, pk, wt, (p : Int)⟩ by rw [HRIDE.out, driveT_yes (r := r) HRUN2.out (show _ ≤ r by dsimp only; omega), HOME.out])
            have hbq : decide (pk ≤ r) = true := by simp; omega
            have hdr := Lib.hid (fun (W : World) (e : TypeId) (A : Option Addr) (xs : List Value) (bb : Nat) (h : OR W bb e A xs) => (show OR W.drew bb e A xs from h)); clear hdr
            go_upto_region 27 with fail
            go_region
            go_wp2_with fail
            refine bodyPost_ret (v := .tuple #[.agg #[.slice A' O.length c', .int .i64 en, .int .i64 pk, .int .i64 wt], .bool true]) (by simp [results, Try.results46, go_sem, zr0, zr1, zr2, zr3, zf0, zf1, zf2, zf3, hzl, zd0, zd1, zd2, zd3]) rfl ⟨.inr ⟨_, A', c', HV.out, G1.out, ?_, rfl⟩, ?_⟩
            · dsimp only
              have h3 : w.heap.size ≤ w.heap.size + 3 := by omega
              with_reducible exact or_dr (OR.more (or_own' (own_kt OWN.out HZR.out (by decide) (only_set4 _ _ _ _ _ _))) h3)
            · with_reducible exact Below.drew (below_set4 (Nat.le_succ _) _ _ _ _ HB.out)
end Go.Proofs.Ytfimdhbcifjioaa
