/- Chapter 7: contracts of tourOf, Ride, PeakOf and WaitOf, by the program and by the model (gen_touf.py). -/
import Derived.Test.YtfimdhbcifjioaaTouE
import Derived.Deep.RegionHeld3
import Derived.Deep.DeepMust
import Derived.WalkLawsBesides
namespace Go.Proofs.Ytfimdhbcifjioaa
open Go.RowKit
set_option linter.unusedVariables false

def TourI (b r : Int) (G : List (List Int)) (S : List Sp) (O : List Int) (AO : Option Addr) (cO : Nat) (w : World) (e : Ending) (w' : World) : Prop :=
  (rideT b r G S O = none ∧ e = .returned (.tuple #[.agg #[.slice none 0 0, .slice none 0 0, .int .i64 0, .int .i64 0, .int .i64 0], .bool false]) ∨ ∃ (d : Dv) (A' : Option Addr) (c' : Nat), rideT b r G S O = some d ∧ d.begins.length = O.length ∧ OR w' w.heap.size 3 A' (intV d.begins) ∧
    e = .returned (.tuple #[.agg #[.slice AO O.length cO, .slice A' O.length c', .int .i64 d.fin, .int .i64 d.peak, .int .i64 d.wait], .bool true])) ∧ Below w.heap.size w w'
def RideA (b r : Int) (G : List (List Int)) (S : List Sp) (O : List Int) (w : World) (e : Ending) (w' : World) : Prop :=
  (rideT b r G S O = none ∧ e = .returned (.tuple #[.slice none 0 0, .int .i64 0, .bool false]) ∨ ∃ (d : Dv) (A' : Option Addr) (c' : Nat), rideT b r G S O = some d ∧ d.begins.length = O.length ∧ OR w' w.heap.size 3 A' (intV d.begins) ∧
    e = .returned (.tuple #[.slice A' O.length c', .int .i64 d.fin, .bool true])) ∧ Below w.heap.size w w'
def peakT (b r : Int) (G : List (List Int)) (S : List Sp) (O : List Int) : Int := match rideT b r G S O with | none => -1 | some d => d.peak
def waitT (b r : Int) (G : List (List Int)) (S : List Sp) (O : List Int) : Int := match rideT b r G S O with | none => -1 | some d => d.wait
theorem OR.of_call {w w' : World} {base : Nat} {e : TypeId} {A : Option Addr} {xs : List Value} (h : OR w base e A xs) (hb : Below w.heap.size w w') : OR w' base e A xs := h.below hb
theorem OR.drN {w : World} {base : Nat} {e : TypeId} {A : Option Addr} {xs : List Value} (h : OR w base e A xs) (n : Nat) : OR (w.drewN n) base e A xs := h
theorem OR.set5 {w : World} {base : Nat} {e T : TypeId} {A : Option Addr} {xs : List Value} {r : Nat} {cs : Array Value} (h : OR w base e A xs) (hr : Has w r T cs) (hne : e ≠ T) (a b c d f : Value) : OR (((((w.setCell ⟨r, 0, none⟩ a).setCell ⟨r, 1, none⟩ b).setCell ⟨r, 2, none⟩ c).setCell ⟨r, 3, none⟩ d).setCell ⟨r, 4, none⟩ f) base e A xs := by
  rcases h with h | ⟨g, cur, rfl, hb, hh, hc⟩
  · exact .inl h
  · exact .inr ⟨g, cur, rfl, hb, has_onl hh (only_set5 w r a b c d f) (has_ne hh hr hne), hc⟩

set_option maxRecDepth 100000 in
set_option maxHeartbeats 4000000 in
theorem tourI_any (w : World) (B : Nat) (b r : Int) (AL AS : Option Addr) (cL cS : Nat) (R : List Rw) (S : List Sp) (AO : Option Addr) (cO : Nat) (O : List Int) (hB : B ≤ w.heap.size) (hR : RdIn w B AL R AS S) (lO : O.length ≤ maxLen) (hO : IL w B AO O) :
    Calls Try.prog 26 #[.agg #[.int .i64 b, .int .i64 r, .slice AL R.length cL, .slice AS S.length cS], .slice AO O.length cO] w (TourI b r (gOf R) S O AO cO w) := by
  have HR := Lib.hid hR; have HO := Lib.hid hO; clear hR hO
  have HOC := Lib.hid (fun (W : World) (hb : Below w.heap.size w W) => orderI_any W B b r AL AS cL cS R S AO cO O (by have := hb.size; omega) (HR.out.later hB hb) lO (HO.out.later hB hb))
  cases hord : orderB b r (gOf R) S O
  · have HORD := Lib.hid hord; clear hord
    go_enter Try.func26, Try.ntmps26
    go_wp2_with fail
    generalize hX : (w.alloc (.cells #[.int .i64 b, .int .i64 r, .slice AL R.length cL, .slice AS S.length cS] 27)) = w1
    have hb : Below w.heap.size w w1 := by rw [← hX]; exact balloc _ _
    have hk : Has w1 w.heap.size 27 #[.int .i64 b, .int .i64 r, .slice AL R.length cL, .slice AS S.length cS] := by rw [← hX]; exact has_new _ _ _
    have hzw1 : w1.heap.size = w.heap.size + 1 := by rw [← hX]; simp
    clear hX
    have zb := hb; clear hb
    have za := hk; clear hk
    generalize hX : (w1.alloc (.cells #[.slice none 0 0, .slice none 0 0, .int .i64 0, .int .i64 0, .int .i64 0] 40)) = w2
    have hb : Below w1.heap.size w1 w2 := by rw [← hX]; exact balloc _ _
    have hk : Has w2 w1.heap.size 40 #[.slice none 0 0, .slice none 0 0, .int .i64 0, .int .i64 0, .int .i64 0] := by rw [← hX]; exact has_new _ _ _
    have hzw2 : w2.heap.size = w.heap.size + 2 := by rw [← hX]; simp [hzw1]
    clear hX
    rw [hzw1] at hk
    replace za := has_call za hb
    replace zb := bthen zb hb; clear hb
    have zr := hk; clear hk
    clear hzw1 hzw2
    refine (HOC.out _ zb).mono ?_
    rintro e w3 ⟨rfl, hb⟩
    rw [HORD.out]
    replace za := has_call za hb
    replace zr := has_call zr hb
    replace zb := bthen zb hb; clear hb
    have HZR := zr; have zr0 := has_cell HZR 0 rfl; have zr1 := has_cell HZR 1 rfl; have zr2 := has_cell HZR 2 rfl; have zr3 := has_cell HZR 3 rfl; have zr4 := has_cell HZR 4 rfl; have zf0 := has_free HZR 0; have zf1 := has_free HZR 1; have zf2 := has_free HZR 2; have zf3 := has_free HZR 3; have zf4 := has_free HZR 4; have hzl := has_lt HZR; clear HZR
    have HB := Lib.hid zb; clear zb
    go_wp2_with fail
    refine bodyPost_ret (v := .tuple #[.agg #[.slice none 0 0, .slice none 0 0, .int .i64 0, .int .i64 0, .int .i64 0], .bool false]) (by simp [results, Try.results26, go_sem, zr0, zr1, zr2, zr3, zr4, zf0, zf1, zf2, zf3, zf4, hzl]) rfl ⟨.inl ⟨rideT_no HORD.out, rfl⟩, ?_⟩
    with_reducible exact below_set5 (Nat.le_succ _) _ _ _ _ _ HB.out
  have hTQ := ordT_of hord
  have HDC := Lib.hid (fun (W : World) (hb : Below w.heap.size w W) => driveI_any W B b r AL AS cL cS R S AO cO O (by have := hb.size; omega) (HR.out.later hB hb) lO (HO.out.later hB hb) hTQ.1 hTQ.2)
  have HRIDE := Lib.hid (rideT_yes hord)
  have HORD := Lib.hid hord; clear hord hTQ
  go_enter Try.func26, Try.ntmps26
  go_wp2_with fail
  generalize hX : (w.alloc (.cells #[.int .i64 b, .int .i64 r, .slice AL R.length cL, .slice AS S.length cS] 27)) = w1
  have hb : Below w.heap.size w w1 := by rw [← hX]; exact balloc _ _
  have hk : Has w1 w.heap.size 27 #[.int .i64 b, .int .i64 r, .slice AL R.length cL, .slice AS S.length cS] := by rw [← hX]; exact has_new _ _ _
  have hzw1 : w1.heap.size = w.heap.size + 1 := by rw [← hX]; simp
  clear hX
  have zb := hb; clear hb
  have za := hk; clear hk
  generalize hX : (w1.alloc (.cells #[.slice none 0 0, .slice none 0 0, .int .i64 0, .int .i64 0, .int .i64 0] 40)) = w2
  have hb : Below w1.heap.size w1 w2 := by rw [← hX]; exact balloc _ _
  have hk : Has w2 w1.heap.size 40 #[.slice none 0 0, .slice none 0 0, .int .i64 0, .int .i64 0, .int .i64 0] := by rw [← hX]; exact has_new _ _ _
  have hzw2 : w2.heap.size = w.heap.size + 2 := by rw [← hX]; simp [hzw1]
  clear hX
  rw [hzw1] at hk
  replace za := has_call za hb
  replace zb := bthen zb hb; clear hb
  have zr := hk; clear hk
  clear hzw1 hzw2
  refine (HOC.out _ zb).mono ?_
  rintro e w3 ⟨rfl, hb⟩
  rw [HORD.out]
  replace za := has_call za hb
  replace zr := has_call zr hb
  replace zb := bthen zb hb; clear hb
  have ZA0 := Lib.hid za; have zac0 := has_cell za 0 rfl; have zac1 := has_cell za 1 rfl; have zac2 := has_cell za 2 rfl; have zac3 := has_cell za 3 rfl; have zalt := has_lt za
  have ZR0 := Lib.hid zr; have ZB0 := Lib.hid zb; clear za zr zb
  go_wp2_with fail
  refine (HDC.out _ ZB0.out).mono ?_
  clear zac0 zac1 zac2 zac3 zalt
  rintro e w9 ⟨hans, hb⟩
  have HZR := has_call ZR0.out hb
  have zb9 := bthen ZB0.out hb
  have hsz9 := ZB0.out.size
  have zr0 := has_cell HZR 0 rfl; have zr1 := has_cell HZR 1 rfl; have zr2 := has_cell HZR 2 rfl; have zr3 := has_cell HZR 3 rfl; have zr4 := has_cell HZR 4 rfl; have zf0 := has_free HZR 0; have zf1 := has_free HZR 1; have zf2 := has_free HZR 2; have zf3 := has_free HZR 3; have zf4 := has_free HZR 4; have hzl := has_lt HZR
  have HB := Lib.hid zb9; have HZRH := Lib.hid HZR; clear zb9 HZR
  rcases hans with ⟨hno, rfl⟩ | ⟨d, A9, c9, hyes, hlen, hor, rfl⟩
  · have HNO := Lib.hid hno; clear hno hb
    go_wp2_with fail
    refine bodyPost_ret (v := .tuple #[.agg #[.slice none 0 0, .slice none 0 0, .int .i64 0, .int .i64 0, .int .i64 0], .bool false]) (by simp [results, Try.results26, go_sem, zr0, zr1, zr2, zr3, zr4, zf0, zf1, zf2, zf3, zf4, hzl]) rfl ⟨.inl ⟨HRIDE.out.trans HNO.out, rfl⟩, ?_⟩
    with_reducible exact below_set5 (Nat.le_succ _) _ _ _ _ _ HB.out
  · obtain ⟨ds, dn, dl, dp, dw, dq⟩ := d
    have HYES := Lib.hid hyes; have HLEN := Lib.hid hlen; have HOR := Lib.hid hor; clear hyes hlen hor hb
    dsimp only
    go_wp2_with fail
    refine bodyPost_ret (v := .tuple #[.agg #[.slice AO O.length cO, .slice A9 O.length c9, .int .i64 dn, .int .i64 dp, .int .i64 dw], .bool true]) (by simp [results, Try.results26, go_sem, zr0, zr1, zr2, zr3, zr4, zf0, zf1, zf2, zf3, zf4, hzl]) rfl ⟨.inr ⟨_, A9, c9, HRIDE.out.trans HYES.out, HLEN.out, ?_, rfl⟩, ?_⟩
    · with_reducible exact OR.set5 (OR.more HOR.out hsz9) HZRH.out (by decide) _ _ _ _ _
    · with_reducible exact below_set5 (Nat.le_succ _) _ _ _ _ _ HB.out
set_option maxRecDepth 100000 in
set_option maxHeartbeats 4000000 in
theorem rideI_any (w : World) (B : Nat) (b r : Int) (AL AS : Option Addr) (cL cS : Nat) (R : List Rw) (S : List Sp) (AO : Option Addr) (cO : Nat) (O : List Int) (hB : B ≤ w.heap.size) (hR : RdIn w B AL R AS S) (lO : O.length ≤ maxLen) (hO : IL w B AO O) :
    Calls Try.prog 13 #[.agg #[.int .i64 b, .int .i64 r, .slice AL R.length cL, .slice AS S.length cS], .slice AO O.length cO] w (RideA b r (gOf R) S O w) := by
  have HR := Lib.hid hR; have HO := Lib.hid hO; clear hR hO
  have HTC := Lib.hid (fun (W : World) (hb : Below w.heap.size w W) => tourI_any W B b r AL AS cL cS R S AO cO O (by have := hb.size; omega) (HR.out.later hB hb) lO (HO.out.later hB hb))
  go_enter Try.func13, Try.ntmps13
  go_wp2_with fail
  generalize hX : (w.alloc (.cells #[.int .i64 b, .int .i64 r, .slice AL R.length cL, .slice AS S.length cS] 27)) = w1
  have hb : Below w.heap.size w w1 := by rw [← hX]; exact balloc _ _
  have hk : Has w1 w.heap.size 27 #[.int .i64 b, .int .i64 r, .slice AL R.length cL, .slice AS S.length cS] := by rw [← hX]; exact has_new _ _ _
  have hzw1 : w1.heap.size = w.heap.size + 1 := by rw [← hX]; simp
  clear hX
  have zb := hb; clear hb
  have za := hk; clear hk
  clear hzw1
  refine (HTC.out _ zb).mono ?_
  rintro e w9 ⟨hans, hb⟩
  have hsz9 := zb.size
  replace zb := bthen zb hb; clear hb
  have HB := Lib.hid zb; clear zb za
  rcases hans with ⟨hno, rfl⟩ | ⟨d, A9, c9, hyes, hlen, hor, rfl⟩
  · skip
    have HNO := Lib.hid hno; clear hno
    go_wp2_with fail
    generalize hX : (w9.alloc (.cells #[.slice none 0 0, .slice none 0 0, .int .i64 0, .int .i64 0, .int .i64 0] 40)) = w10
    have hb10 : Below w9.heap.size w9 w10 := by rw [← hX]; exact balloc _ _
    have hk10 : Has w10 w9.heap.size 40 #[.slice none 0 0, .slice none 0 0, .int .i64 0, .int .i64 0, .int .i64 0] := by rw [← hX]; exact has_new _ _ _
    clear hX
    have hq0 := has_cell hk10 0 rfl; have hq1 := has_cell hk10 1 rfl; have hq2 := has_cell hk10 2 rfl; have hq3 := has_cell hk10 3 rfl; have hq4 := has_cell hk10 4 rfl
    have HB10 := Lib.hid (bthen HB.out hb10)
    clear hb10 hk10
    go_quiet (fail)
    go_wp2_with fail
    go_ret3
    exact ⟨.inl ⟨HNO.out, rfl⟩, below_dn HB10.out _⟩
  · obtain ⟨ds, dn, dl, dp, dw, dq⟩ := d
    have HYES := Lib.hid hyes; have HLEN := Lib.hid hlen; have HOR := Lib.hid hor; clear hyes hlen hor
    dsimp only
    go_wp2_with fail
    generalize hX : (w9.alloc (.cells #[.slice AO O.length cO, .slice A9 O.length c9, .int .i64 dn, .int .i64 dp, .int .i64 dw] 40)) = w10
    have hb10 : Below w9.heap.size w9 w10 := by rw [← hX]; exact balloc _ _
    have hk10 : Has w10 w9.heap.size 40 #[.slice AO O.length cO, .slice A9 O.length c9, .int .i64 dn, .int .i64 dp, .int .i64 dw] := by rw [← hX]; exact has_new _ _ _
    clear hX
    have hq0 := has_cell hk10 0 rfl; have hq1 := has_cell hk10 1 rfl; have hq2 := has_cell hk10 2 rfl; have hq3 := has_cell hk10 3 rfl; have hq4 := has_cell hk10 4 rfl
    have HB10 := Lib.hid (bthen HB.out hb10)
    replace HOR := Lib.hid (OR.of_call HOR.out hb10)
    clear hb10 hk10
    go_quiet (fail)
    go_wp2_with fail
    go_ret3
    exact ⟨.inr ⟨_, A9, c9, HYES.out, HLEN.out, OR.drN (OR.more HOR.out hsz9) _, rfl⟩, below_dn HB10.out _⟩
set_option maxRecDepth 100000 in
set_option maxHeartbeats 4000000 in
theorem rideS_any (w : World) (B : Nat) (b r : Int) (AL AS : Option Addr) (cL cS : Nat) (R : List Rw) (S : List Sp) (AO : Option Addr) (cO : Nat) (O : List Int) (hB : B ≤ w.heap.size) (hR : RdIn w B AL R AS S) (lO : O.length ≤ maxLen) (hcO : O.length ≤ cO ∧ cO ≤ maxLen) (hO : IL w B AO O) :
    Calls Try.prog 35 #[.agg #[.int .i64 b, .int .i64 r, .slice AL R.length cL, .slice AS S.length cS], .slice AO O.length cO] w (RideA b r (gOf R) S O w) := by
  have HR := Lib.hid hR; have HO := Lib.hid hO; clear hR hO
  have HTC := Lib.hid (fun (W : World) (hb : Below w.heap.size w W) => driveS_any W B b r AL AS cL cS R S AO cO O (by have := hb.size; omega) (HR.out.later hB hb) lO hcO (HO.out.later hB hb))
  clear hcO
  go_enter Try.func35, Try.ntmps35
  go_wp2_with fail
  generalize hX : (w.alloc (.cells #[.int .i64 b, .int .i64 r, .slice AL R.length cL, .slice AS S.length cS] 27)) = w1
  have hb : Below w.heap.size w w1 := by rw [← hX]; exact balloc _ _
  have hk : Has w1 w.heap.size 27 #[.int .i64 b, .int .i64 r, .slice AL R.length cL, .slice AS S.length cS] := by rw [← hX]; exact has_new _ _ _
  have hzw1 : w1.heap.size = w.heap.size + 1 := by rw [← hX]; simp
  clear hX
  have zb := hb; clear hb
  have za := hk; clear hk
  clear hzw1
  refine (HTC.out _ zb).mono ?_
  rintro e w9 ⟨hans, hb⟩
  have hsz9 := zb.size
  replace zb := bthen zb hb; clear hb
  have HB := Lib.hid zb; clear zb za
  rcases hans with ⟨hno, A9, n9, c9, en9, pk9, wt9, rfl⟩ | ⟨d, A9, c9, hyes, hlen, hor, rfl⟩
  · skip
    have HNO := Lib.hid hno; clear hno
    go_wp2_with fail
    go_ret3
    exact ⟨.inl ⟨HNO.out, rfl⟩, HB.out.alloc (by have := HB.out.size; omega) _⟩
  · obtain ⟨ds, dn, dl, dp, dw, dq⟩ := d
    have HYES := Lib.hid hyes; have HLEN := Lib.hid hlen; have HOR := Lib.hid hor; clear hyes hlen hor
    dsimp only
    go_wp2_with fail
    generalize hX : (w9.alloc (.cells #[.slice A9 O.length c9, .int .i64 dn, .int .i64 dp, .int .i64 dw] 72)) = w10
    have hb10 : Below w9.heap.size w9 w10 := by rw [← hX]; exact balloc _ _
    have hk10 : Has w10 w9.heap.size 72 #[.slice A9 O.length c9, .int .i64 dn, .int .i64 dp, .int .i64 dw] := by rw [← hX]; exact has_new _ _ _
    clear hX
    have hq0 := has_cell hk10 0 rfl; have hq1 := has_cell hk10 1 rfl; have hq2 := has_cell hk10 2 rfl; have hq3 := has_cell hk10 3 rfl
    have HB10 := Lib.hid (bthen HB.out hb10)
    replace HOR := Lib.hid (OR.of_call HOR.out hb10)
    clear hb10 hk10
    go_quiet (fail)
    go_wp2_with fail
    go_ret3
    exact ⟨.inr ⟨_, A9, c9, HYES.out, HLEN.out, OR.drN (OR.more HOR.out hsz9) _, rfl⟩, below_dn HB10.out _⟩
end Go.Proofs.Ytfimdhbcifjioaa
