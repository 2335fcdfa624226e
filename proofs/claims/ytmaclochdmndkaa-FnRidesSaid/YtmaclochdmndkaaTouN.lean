/- Chapter 7: contracts of LatestBegin, by the program and by the model (gen_toun.py). -/
import Derived.Test.YtmaclochdmndkaaTouE
import Derived.Test.YtmaclochdmndkaaTouM
import Derived.Sort.Walk0
import Derived.Deep.LoopGhost
import Derived.Deep.RegionHeld3
import Derived.Deep.DeepMust
import Derived.WalkLawsBesides
namespace Go.Proofs.Ytmaclochdmndkaa
open Go.RowKit
set_option linter.unusedVariables false

theorem ret_pairT {a b : Int} (h : a = b) : Ending.returned (.tuple #[.int .i64 a, .bool true]) = .returned (.tuple #[.int .i64 b, .bool true]) := by rw [h]
def LateA (b r : Int) (G : List (List Int)) (S : List Sp) (O : List Int) (w : World) (e : Ending) (w' : World) : Prop :=
  (orderB b r G S O = false ∧ e = .returned (.tuple #[.int .i64 0, .bool false]) ∨ orderB b r G S O = true ∧ ∃ z : Int, LateR r G S O z ∧
    (z = 0 ∧ e = .returned (.tuple #[.int .i64 0, .bool false]) ∨ 0 < z ∧ e = .returned (.tuple #[.int .i64 (z - 1), .bool true]))) ∧ Below w.heap.size w w'
set_option maxRecDepth 100000 in
set_option maxHeartbeats 4000000 in
theorem lateC_any (w : World) (B : Nat) (b r : Int) (AL AS : Option Addr) (cL cS : Nat) (R : List Rw) (S : List Sp) (AO : Option Addr) (cO : Nat) (O : List Int) (t : Int) (g1 g2 : Nat) (hB : B ≤ w.heap.size) (hR : RdIn w B AL R AS S) (lO : O.length ≤ maxLen) (hO : IL w B AO O) (hT : RoundT t r (gOf R) S) (hQ : OrdT S O) (h1 : Has w g1 27 #[.int .i64 b, .int .i64 r, .slice AL R.length cL, .slice AS S.length cS]) (h2 : Has w g2 28 #[.slice AO O.length cO]) :
    Calls Try.prog 23 #[.int .i64 t, .pointer (some ⟨g1, 0, none⟩), .pointer (some ⟨g2, 0, none⟩)] w fun e w' => e = .returned (.bool (!(driveT t r (gOf R) S O).isSome)) ∧ Below w.heap.size w w' := by
  have HR := Lib.hid hR; have HO := Lib.hid hO; have HT := Lib.hid hT; have HQ := Lib.hid hQ; clear hR hO hT hQ
  have hc0 := has_cell h1 0 rfl; have hc1 := has_cell h1 1 rfl; have hc2 := has_cell h1 2 rfl; have hc3 := has_cell h1 3 rfl
  have hd0 := has_cell h2 0 rfl
  have hl1 := has_lt h1; have hl2 := has_lt h2
  go_enter Try.func23, Try.ntmps23
  go_wp2_with fail
  clear hc0 hc1 hc2 hc3 hd0
  generalize hX : (w.alloc (.cells #[.int .i64 t, .int .i64 r, .slice AL R.length cL, .slice AS S.length cS] 27)) = w1
  have hb : Below w.heap.size w w1 := by rw [← hX]; exact balloc _ _
  clear hX
  refine (driveI_any w1 B t r AL AS cL cS R S AO cO O (by have := hb.size; omega) (HR.out.later hB hb) lO (HO.out.later hB hb) HT.out HQ.out).mono ?_
  rintro e w2 ⟨hans, hb2⟩
  have hb3 := bthen hb hb2
  clear hb2
  rcases hans with ⟨hno, rfl⟩ | ⟨d, A9, c9, hyes, hlen, hor, rfl⟩
  · have HNO := Lib.hid hno; clear hno
    have HB := Lib.hid hb3; clear hb3
    go_wp2_with fail
    go_ret
    exact ⟨ret_bool (by rw [HNO.out]; rfl), HB.out.alloc (by have := HB.out.size; omega) _⟩
  · obtain ⟨ds, dn, dl, dp, dw, dq⟩ := d
    have HYES := Lib.hid hyes; clear hyes hlen hor
    have HB := Lib.hid hb3; clear hb3
    dsimp only
    go_wp2_with fail
    go_ret
    exact ⟨ret_bool (by rw [HYES.out]; rfl), HB.out.alloc (by have := HB.out.size; omega) _⟩
set_option maxRecDepth 100000 in
set_option maxHeartbeats 4000000 in
theorem search_any (w : World) (B : Nat) (b r : Int) (AL AS : Option Addr) (cL cS : Nat) (R : List Rw) (S : List Sp) (AO : Option Addr) (cO : Nat) (O : List Int) (g1 g2 : Nat) (hB : B ≤ w.heap.size) (hR : RdIn w B AL R AS S) (lO : O.length ≤ maxLen) (hO : IL w B AO O) (hT : RoundT b r (gOf R) S) (hQ : OrdT S O) (h1 : Has w g1 27 #[.int .i64 b, .int .i64 r, .slice AL R.length cL, .slice AS S.length cS]) (h2 : Has w g2 28 #[.slice AO O.length cO]) :
    Calls Try.prog 22 #[.int .i64 20001, .func (.func 23) #[] #[.pointer (some ⟨g1, 0, none⟩), .pointer (some ⟨g2, 0, none⟩)]] w fun e w' => ∃ z : Int, e = .returned (.int .i64 z) ∧ LateR r (gOf R) S O z ∧ Below w.heap.size w w' := by
  have HC := Lib.hid (fun (W : World) (t : Int) (h0 : 0 ≤ t) (ht : t ≤ 20000) (hb : Below w.heap.size w W) => lateC_any W B b r AL AS cL cS R S AO cO O t g1 g2 (by have := hb.size; omega) (hR.later hB hb) lO (hO.later hB hb) (hT.begin h0 ht) hQ (has_call h1 hb) (has_call h2 hb))
  clear hR hO hT hQ h1 h2
  go_enter Try.func22, Try.ntmps22
  go_wp2_with fail
  go_loopw [5, 6] (fun lv hv wr => ∃ lo hi : Nat, lv = .int .i64 lo ∧ hv = .int .i64 hi ∧ lo ≤ hi ∧ hi ≤ 20001 ∧ (∀ t : Int, 0 ≤ t → t < lo → (driveT t r (gOf R) S O).isSome = true) ∧ (∀ t : Int, (hi : Int) ≤ t → t ≤ 20000 → driveT t r (gOf R) S O = none) ∧ Below w.heap.size w wr) (fun lv hv _ => (intOf hv).toNat - (intOf lv).toNat)
  case atStart => exact ⟨0, 20001, rfl, rfl, by omega, by omega, (fun t h0 h1 => by omega), (fun t h0 h1 => by omega), Below.refl _ _⟩
  case round =>
    obtain ⟨lo, hi, rfl, rfl, hlh, hhi, hyes, hno, hb⟩ := hrel
    have HYES := Lib.hid hyes; have HNO := Lib.hid hno; clear hyes hno
    have hsz := hb.size
    by_cases hlt : lo < hi
    · have hc := HC.out wr (((lo : Int) + (hi : Int)) / 2) (by omega) (by omega) hb
      cases hp : (driveT (((lo : Int) + (hi : Int)) / 2) r (gOf R) S O).isSome
      · have HP := Lib.hid hp; clear hp
        rw [HP.out] at hc
        have HCC := Lib.hid hc; clear hc
        go_wp2_with (go_at_call 23; refine HCC.out.mono ?_; rintro e w1 ⟨rfl, hb1⟩)
        go_roundw
        case rel => exact ⟨lo, (lo + hi) / 2, rfl, by go_num, by omega, by omega, HYES.out, (fun t h0 ht => by
          have h9 : driveT (((lo : Int) + (hi : Int)) / 2) r (gOf R) S O = none := by
            cases hd : driveT (((lo : Int) + (hi : Int)) / 2) r (gOf R) S O with
            | none => rfl
            | some d => have := HP.out; rw [hd] at this; cases this
          exact late_no h9 (by omega)), hb.trans (hb1.mono hsz)⟩
        case measure => simp [intOf]; omega
      · have HP := Lib.hid hp; clear hp
        rw [HP.out] at hc
        have HCC := Lib.hid hc; clear hc
        go_wp2_with (go_at_call 23; refine HCC.out.mono ?_; rintro e w1 ⟨rfl, hb1⟩)
        go_roundw
        case rel => exact ⟨(lo + hi) / 2 + 1, hi, by go_num, rfl, by omega, by omega, (fun t h0 ht => late_yes HP.out (by omega)), HNO.out, hb.trans (hb1.mono hsz)⟩
        case measure => simp [intOf]; omega
    · go_wp2_with fail
      go_ret
      have hlh2 : lo = hi := by omega
      subst hlh2
      exact ⟨(lo : Int), rfl, ⟨by omega, by omega, HYES.out, HNO.out⟩, hb⟩

set_option maxRecDepth 100000 in
set_option maxHeartbeats 4000000 in
theorem lateI_any (w : World) (B : Nat) (b r : Int) (AL AS : Option Addr) (cL cS : Nat) (R : List Rw) (S : List Sp) (AO : Option Addr) (cO : Nat) (O : List Int) (hB : B ≤ w.heap.size) (hR : RdIn w B AL R AS S) (lO : O.length ≤ maxLen) (hO : IL w B AO O) :
    Calls Try.prog 11 #[.agg #[.int .i64 b, .int .i64 r, .slice AL R.length cL, .slice AS S.length cS], .slice AO O.length cO] w (LateA b r (gOf R) S O w) := by
  have HR := Lib.hid hR; have HO := Lib.hid hO; clear hR hO
  have HOC := Lib.hid (fun (W : World) (hb : Below w.heap.size w W) => orderI_any W B b r AL AS cL cS R S AO cO O (by have := hb.size; omega) (HR.out.later hB hb) lO (HO.out.later hB hb))
  cases hord : orderB b r (gOf R) S O
  · have HORD := Lib.hid hord; clear hord
    go_enter Try.func11, Try.ntmps11
    go_wp2_with fail
    generalize hX : (w.alloc (.cells #[.int .i64 b, .int .i64 r, .slice AL R.length cL, .slice AS S.length cS] 27)) = w1
    have hb : Below w.heap.size w w1 := by rw [← hX]; exact balloc _ _
    have hk : Has w1 w.heap.size 27 #[.int .i64 b, .int .i64 r, .slice AL R.length cL, .slice AS S.length cS] := by rw [← hX]; exact has_new _ _ _
    have hzw1 : w1.heap.size = w.heap.size + 1 := by rw [← hX]; simp
    clear hX
    have zb := hb; clear hb
    have za := hk; clear hk
    generalize hX : (w1.alloc (.cells #[.slice AO O.length cO] 28)) = w2
    have hb : Below w1.heap.size w1 w2 := by rw [← hX]; exact balloc _ _
    have hk : Has w2 w1.heap.size 28 #[.slice AO O.length cO] := by rw [← hX]; exact has_new _ _ _
    have hzw2 : w2.heap.size = w.heap.size + 2 := by rw [← hX]; simp [hzw1]
    clear hX
    rw [hzw1] at hk
    replace za := has_call za hb
    replace zb := bthen zb hb; clear hb
    have zo := hk; clear hk
    clear hzw1 hzw2
    refine (HOC.out _ zb).mono ?_
    rintro e w3 ⟨rfl, hb⟩
    rw [HORD.out]
    replace za := has_call za hb
    replace zo := has_call zo hb
    replace zb := bthen zb hb; clear hb
    go_wp2_with fail
    go_ret2
    exact ⟨.inl ⟨HORD.out, rfl⟩, zb⟩
  have hTQ := ordT_of hord
  have HT := Lib.hid hTQ.1; have HQ := Lib.hid hTQ.2; have HORD := Lib.hid hord; clear hord hTQ
  go_enter Try.func11, Try.ntmps11
  go_wp2_with fail
  generalize hX : (w.alloc (.cells #[.int .i64 b, .int .i64 r, .slice AL R.length cL, .slice AS S.length cS] 27)) = w1
  have hb : Below w.heap.size w w1 := by rw [← hX]; exact balloc _ _
  have hk : Has w1 w.heap.size 27 #[.int .i64 b, .int .i64 r, .slice AL R.length cL, .slice AS S.length cS] := by rw [← hX]; exact has_new _ _ _
  have hzw1 : w1.heap.size = w.heap.size + 1 := by rw [← hX]; simp
  clear hX
  have zb := hb; clear hb
  have za := hk; clear hk
  generalize hX : (w1.alloc (.cells #[.slice AO O.length cO] 28)) = w2
  have hb : Below w1.heap.size w1 w2 := by rw [← hX]; exact balloc _ _
  have hk : Has w2 w1.heap.size 28 #[.slice AO O.length cO] := by rw [← hX]; exact has_new _ _ _
  have hzw2 : w2.heap.size = w.heap.size + 2 := by rw [← hX]; simp [hzw1]
  clear hX
  rw [hzw1] at hk
  replace za := has_call za hb
  replace zb := bthen zb hb; clear hb
  have zo := hk; clear hk
  clear hzw1 hzw2
  refine (HOC.out _ zb).mono ?_
  rintro e w3 ⟨rfl, hb⟩
  rw [HORD.out]
  replace za := has_call za hb
  replace zo := has_call zo hb
  replace zb := bthen zb hb; clear hb
  have ZA := Lib.hid za; have ZO := Lib.hid zo; have ZB := Lib.hid zb; clear za zo zb
  go_wp2_with fail
  refine (search_any _ B b r AL AS cL cS R S AO cO O w.heap.size (w.heap.size + 1) (by have := ZB.out.size; omega) (HR.out.later hB ZB.out) lO (HO.out.later hB ZB.out) HT.out HQ.out ZA.out ZO.out).mono ?_
  rintro e w9 ⟨z, rfl, hz, hb9⟩
  have HB := Lib.hid (bthen ZB.out hb9); clear hb9
  have hz0 := hz.z0; have hz1 := hz.z1
  have HZ := Lib.hid hz; clear hz
  by_cases hzz : z = 0
  · have HZZ := Lib.hid hzz
    have hze : (z == 0) = true := by simp [hzz]
    clear hzz
    go_wp2_with fail
    go_ret2
    exact ⟨.inr ⟨HORD.out, z, HZ.out, .inl ⟨HZZ.out, rfl⟩⟩, HB.out⟩
  · have hze : (z == 0) = false := by simp [hzz]
    have hzp : 0 < z := by omega
    clear hzz
    go_wp2_with fail
    go_ret2
    exact ⟨.inr ⟨HORD.out, z, HZ.out, .inr ⟨hzp, rfl⟩⟩, HB.out⟩
set_option maxRecDepth 100000 in
set_option maxHeartbeats 4000000 in
theorem lateS_any (w : World) (B : Nat) (b r : Int) (AL AS : Option Addr) (cL cS : Nat) (R : List Rw) (S : List Sp) (AO : Option Addr) (cO : Nat) (O : List Int) (hB : B ≤ w.heap.size) (hR : RdIn w B AL R AS S) (lO : O.length ≤ maxLen) (hcO : O.length ≤ cO ∧ cO ≤ maxLen) (hO : IL w B AO O) :
    Calls Try.prog 12 #[.agg #[.int .i64 b, .int .i64 r, .slice AL R.length cL, .slice AS S.length cS], .slice AO O.length cO] w (LateA b r (gOf R) S O w) := by
  have HR := Lib.hid hR; have HO := Lib.hid hO; clear hR hO
  have HOC := Lib.hid (fun (W : World) (hb : Below w.heap.size w W) => orderS_any W B b r AL AS cL cS R S AO cO O hcO (by have := hb.size; omega) (HR.out.later hB hb) lO (HO.out.later hB hb))
  have HDC := Lib.hid (fun (W : World) (t : Int) (hb : Below w.heap.size w W) => driveS_any W B t r AL AS cL cS R S AO cO O (by have := hb.size; omega) (HR.out.later hB hb) lO hcO (HO.out.later hB hb))
  clear hcO
  cases hord : orderB b r (gOf R) S O
  · have HORD := Lib.hid hord; clear hord
    go_enter Try.func12, Try.ntmps12
    go_wp2_with fail
    generalize hX : (w.alloc (.cells #[.int .i64 b, .int .i64 r, .slice AL R.length cL, .slice AS S.length cS] 27)) = w1
    have hb : Below w.heap.size w w1 := by rw [← hX]; exact balloc _ _
    have hk : Has w1 w.heap.size 27 #[.int .i64 b, .int .i64 r, .slice AL R.length cL, .slice AS S.length cS] := by rw [← hX]; exact has_new _ _ _
    have hzw1 : w1.heap.size = w.heap.size + 1 := by rw [← hX]; simp
    clear hX
    have zb := hb; clear hb
    have za := hk; clear hk
    clear hzw1
    refine (HOC.out _ zb).mono ?_
    rintro e w2 ⟨rfl, hb⟩
    rw [HORD.out]
    replace za := has_call za hb
    replace zb := bthen zb hb; clear hb
    go_wp2_with fail
    go_ret2
    exact ⟨.inl ⟨HORD.out, rfl⟩, zb⟩
  have HORD := Lib.hid hord
  have HTO := Lib.hid (fun (t : Int) (h0 : 0 ≤ t) (h1 : t ≤ 20000) => rideT_yes (orderB_begin hord h0 h1)); clear hord
  go_enter Try.func12, Try.ntmps12
  go_wp2_with fail
  generalize hX : (w.alloc (.cells #[.int .i64 b, .int .i64 r, .slice AL R.length cL, .slice AS S.length cS] 27)) = w1
  have hb : Below w.heap.size w w1 := by rw [← hX]; exact balloc _ _
  have hk : Has w1 w.heap.size 27 #[.int .i64 b, .int .i64 r, .slice AL R.length cL, .slice AS S.length cS] := by rw [← hX]; exact has_new _ _ _
  have hzw1 : w1.heap.size = w.heap.size + 1 := by rw [← hX]; simp
  clear hX
  have zb := hb; clear hb
  have za := hk; clear hk
  clear hzw1
  refine (HOC.out _ zb).mono ?_
  rintro e w2 ⟨rfl, hb⟩
  rw [HORD.out]
  replace za := has_call za hb
  replace zb := bthen zb hb; clear hb
  have ZA := Lib.hid za; have ZB := Lib.hid zb; clear za zb
  go_wp2_with fail
  go_loopw [6, 7] (fun lv hv wr => ∃ lo hi : Int, lv = .int .i64 lo ∧ hv = .int .i64 hi ∧ -1 ≤ lo ∧ lo < hi ∧ hi ≤ 20001 ∧ (∀ t : Int, 0 ≤ t → t ≤ lo → (driveT t r (gOf R) S O).isSome = true) ∧ (∀ t : Int, hi ≤ t → t ≤ 20000 → driveT t r (gOf R) S O = none) ∧ (∃ b' : Int, Has wr w.heap.size 27 #[.int .i64 b', .int .i64 r, .slice AL R.length cL, .slice AS S.length cS]) ∧ Below w.heap.size w wr) (fun lv hv _ => ((intOf hv) - (intOf lv)).toNat)
  case atStart => exact ⟨-1, 20001, rfl, rfl, by omega, by omega, by omega, (fun t h0 h1 => by omega), (fun t h0 h1 => by omega), ⟨b, ZA.out⟩, ZB.out⟩
  case round =>
    obtain ⟨lo, hi, rfl, rfl, hlo, hlh, hhi, hyes, hno, ⟨b', hH⟩, hb⟩ := hrel
    have HYES := Lib.hid hyes; have HNO := Lib.hid hno; clear hyes hno
    by_cases hlt : 1 < hi - lo
    · have hm0 : 0 ≤ (lo + hi) / 2 := by omega
      have hm1 : (lo + hi) / 2 ≤ 20000 := by omega
      have hm2 : lo < (lo + hi) / 2 := by omega
      have hm3 : (lo + hi) / 2 < hi := by omega
      obtain ⟨m, hm⟩ : ∃ m, (lo + hi) / 2 = m := ⟨_, rfl⟩
      have hs0 : 0 ≤ lo + hi := by omega
      have hc0 := has_cell hH 0 rfl; have hc1 := has_cell hH 1 rfl; have hc2 := has_cell hH 2 rfl; have hc3 := has_cell hH 3 rfl; have hf0 := has_free hH 0
      have hl := has_lt hH
      have HH := Lib.hid hH; have HB := Lib.hid hb; clear hH hb
      go_upto_region 7 with fail
      rw [hm] at hm0 hm1 hm2 hm3
      try rw [hm]
      generalize hX : World.setCell _ _ _ = w5
      have hk5 : Has w5 w.heap.size 27 #[.int .i64 m, .int .i64 r, .slice AL R.length cL, .slice AS S.length cS] := by rw [← hX]; simpa using has_set HH.out 0 (.int .i64 m)
      have hb5 : Below w.heap.size w w5 := by rw [← hX]; exact HB.out.setCell (Nat.le_refl _) _
      clear hX hc0 hc1 hc2 hc3 hf0 hm HH HB
      have hc0 := has_cell hk5 0 rfl; have hc1 := has_cell hk5 1 rfl; have hc2 := has_cell hk5 2 rfl; have hc3 := has_cell hk5 3 rfl
      have HK := Lib.hid hk5; have HB := Lib.hid hb5; clear hk5 hb5
      go_wp2_with fail
      clear hc0 hc1 hc2 hc3
      refine (HDC.out _ m HB.out).mono ?_
      rintro e w6 ⟨hans, hb6⟩
      have hk6 := has_call HK.out hb6
      have hb7 := bthen HB.out hb6
      have hc0 := has_cell hk6 0 rfl
      have hl6 := has_lt hk6
      have HK6 := Lib.hid hk6; have HB6 := Lib.hid hb7; clear hk6 hb7 hb6 HK HB
      have htd := HTO.out m hm0 hm1
      rcases hans with ⟨hno, A9, n9, c9, en9, pk9, wt9, rfl⟩ | ⟨d, A9, c9, hyes, hlen, hor, rfl⟩
      · have HN := Lib.hid (htd.symm.trans hno); clear hno htd
        go_wp2_with fail
        go_roundw
        case rel => exact ⟨lo, m, rfl, rfl, by omega, by omega, by omega, HYES.out, (fun t h0 h1 => late_no HN.out (by omega)), ⟨m, has_alloc HK6.out _⟩, HB6.out.alloc (by have := HB6.out.size; omega) _⟩
        case measure => simp [intOf]; omega
      · obtain ⟨ds, dn, dl, dp, dw, dq⟩ := d
        have HY := Lib.hid (htd.symm.trans hyes); clear hyes htd hlen hor
        dsimp only
        go_wp2_with fail
        go_roundw
        case rel => exact ⟨m, hi, rfl, rfl, by omega, by omega, by omega, (fun t h0 h1 => late_yes (by rw [HY.out]; rfl) h1), HNO.out, ⟨m, has_alloc HK6.out _⟩, HB6.out.alloc (by have := HB6.out.size; omega) _⟩
        case measure => simp [intOf]; omega
    · have hhi2 : hi = lo + 1 := by omega
      have HLA := Lib.hid (show LateR r (gOf R) S O (lo + 1) from ⟨by omega, by omega, fun t h0 h1 => HYES.out t h0 (by omega), fun t h0 h1 => HNO.out t (by omega) h1⟩)
      clear hhi2
      by_cases hneg : lo < 0
      · go_wp2_with fail
        go_ret2
        exact ⟨.inr ⟨HORD.out, lo + 1, HLA.out, .inl ⟨by omega, rfl⟩⟩, hb⟩
      · go_wp2_with fail
        go_ret2
        exact ⟨.inr ⟨HORD.out, lo + 1, HLA.out, .inr ⟨by omega, ret_pairT (by omega)⟩⟩, hb⟩
/-- what LatestBegin answers, as a pair -/
def LateV (b r : Int) (G : List (List Int)) (S : List Sp) (O : List Int) (x : Int) (y : Bool) : Prop :=
  orderB b r G S O = false ∧ x = 0 ∧ y = false ∨ orderB b r G S O = true ∧ ∃ z : Int, LateR r G S O z ∧ (z = 0 ∧ x = 0 ∧ y = false ∨ 0 < z ∧ x = z - 1 ∧ y = true)
theorem LateV.unique {b r : Int} {G : List (List Int)} {S : List Sp} {O : List Int} {x x' : Int} {y y' : Bool} (h : LateV b r G S O x y) (h' : LateV b r G S O x' y') : x' = x ∧ y' = y := by
  rcases h with ⟨h1, rfl, rfl⟩ | ⟨h1, z, hz, hv⟩
  · rcases h' with ⟨_, rfl, rfl⟩ | ⟨h2, _⟩
    · exact ⟨rfl, rfl⟩
    · rw [h1] at h2; cases h2
  · rcases h' with ⟨h2, _⟩ | ⟨_, z', hz', hv'⟩
    · rw [h1] at h2; cases h2
    · obtain rfl := hz.unique hz'
      rcases hv with ⟨h3, rfl, rfl⟩ | ⟨h3, rfl, rfl⟩ <;> rcases hv' with ⟨h4, rfl, rfl⟩ | ⟨h4, rfl, rfl⟩
      · exact ⟨rfl, rfl⟩
      · omega
      · omega
      · exact ⟨rfl, rfl⟩
theorem late_v {b r : Int} {G : List (List Int)} {S : List Sp} {O : List Int} {w : World} {e : Ending} {w' : World} (h : LateA b r G S O w e w') : ∃ x y, e = .returned (.tuple #[.int .i64 x, .bool y]) ∧ LateV b r G S O x y ∧ Below w.heap.size w w' := by
  obtain ⟨h | ⟨h1, z, hz, ⟨h2, rfl⟩ | ⟨h2, rfl⟩⟩, hb⟩ := h
  · exact ⟨0, false, h.2, .inl ⟨h.1, rfl, rfl⟩, hb⟩
  · exact ⟨0, false, rfl, .inr ⟨h1, z, hz, .inl ⟨h2, rfl, rfl⟩⟩, hb⟩
  · exact ⟨z - 1, true, rfl, .inr ⟨h1, z, hz, .inr ⟨h2, rfl, rfl⟩⟩, hb⟩
end Go.Proofs.Ytmaclochdmndkaa
