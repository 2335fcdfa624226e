/- Chapter 7: contracts of tourOf, Ride, PeakOf and WaitOf, by the program and by the model (gen_touf.py). -/
import Derived.Test.YtjcmndbjpbnogaaTouE
import Derived.Deep.RegionHeld3
import Derived.Deep.DeepMust
import Derived.WalkLawsBesides
namespace Go.Proofs.Ytjcmndbjpbnogaa
open Go.RowKit
set_option linter.unusedVariables false

def TourI (b r : Int) (G : List (List Int)) (S : List Sp) (O : List Int) (AO : Option Addr) (cO : Nat) (w : World) (e : Ending) (w' : World) : Prop :=
  (rideT b r G S O = none ∧ e = .returned (.tuple #[.agg #[.slice none 0 0, .slice none 0 0, .int .i64 0, .int .i64 0, .int .i64 0], .bool false]) ∨ ∃ (d : Dv) (A' : Option Addr) (c' : Nat), rideT b r G S O = some d ∧ d.begins.length = O.length ∧ OR w' w.heap.size 3 A' (intV d.begins) ∧
    e = .returned (.tuple #[.agg #[.slice AO O.length cO, .slice A' O.length c', .int .i64 d.fin, .int .i64 d.peak, .int .i64 d.wait], .bool true])) ∧ Below w.heap.size w w'
def RideA (b r : Int) (G : List (List Int)) (S : List Sp) (O : List Int) (w : World) (e : Ending) (w' : World) : Prop :=
  (rideT b r G S O = none ∧ e = .returned (.tuple #[.slice none 0 0, .int .i64 0, .bool false]) ∨ ∃ (d : Dv) (A' : Option Addr) (c' : Nat), rideT b r G S O = some d ∧ d.begins.length = O.length ∧ OR w' w.heap.size 3 A' (intV d.begins) ∧
    e = .returned (.tuple #[.slice A' O.length c', .int .i64 d.fin, .bool true])) ∧ Below w.heap.size w w'
def peakT (b r : Int) (G : List (List Int)) (S : List Sp) (O : List Int) : Int := match rideT b r G S O with | none => -1 | some d => d.peak
def waitT (b r : Int) (G : List (List Int)) (S : List Sp) (O : List Int) : Int := match rideT b r G S O with | none => -1 | some d => d.wait
theorem OR.of_call {w w' : World} {base : Nat} {e : TypeId} {A : Option Addr} {xs : List Value} (h : OR w base e A xs) (hb : Below w.heap.size w w') : OR w' base e A xs := h.below hb
theorem OR.drN {w : World} {base : Nat} {e : TypeId} {A : Option Addr} {xs : List Value} (h : OR w base e A xs) (n : Nat) : OR (w.drewN n) base e A xs := h
theorem OR.set5 {w : World} {base : Nat} {e T : TypeId} {A : Option Addr} {xs : List Value} {r : Nat} {cs : Array Value} (h : OR w base e A xs) (hr : Has w r T cs) (hne : e ≠ T) (a b c d f : Value) : OR (((((w.setCell ⟨r, 0, none⟩ a).setCell ⟨r, 1, none⟩ b).setCell ⟨r, 2, none⟩ c).setCell ⟨r, 3, none⟩ d).setCell ⟨r, 4, none⟩ f) base e A xs := by
  rcases h with h | ⟨g, cur, rfl, hb, hh, hc⟩
  · exact .inl h
  · exact .inr ⟨g, cur, rfl, hb, has_onl hh (only_set5 w r a b c d f) (has_ne hh hr hne), hc⟩

set_option maxRecDepth 100000 in
set_option maxHeartbeats 4000000 in
theorem rideS_any (w : World) (B : Nat) (b r : Int) (AL AS : Option Addr) (cL cS : Nat) (R : List Rw) (S : List Sp) (AO : Option Addr) (cO : Nat) (O : List Int) (hB : B ≤ w.heap.size) (hR : RdIn w B AL R AS S) (lO : O.length ≤ maxLen) (hcO : O.length ≤ cO ∧ cO ≤ maxLen) (hO : IL w B AO O) :
    Calls Try.prog 32 #[.agg #[.int .i64 b, .int .i64 r, .slice AL R.length cL, .slice AS S.length cS], .slice AO O.length cO] w (RideA b r (gOf R) S O w) := by
  have HR := Lib.hid hR; have HO := Lib.hid hO; clear hR hO
  have HTC := Lib.hid (fun (W : World) (hb : Below w.heap.size w W) => driveS_any W B b r AL AS cL cS R S AO cO O (by have := hb.size; omega) (HR.out.later hB hb) lO hcO (HO.out.later hB hb))
  clear hcO
  go_enter Try.func32, Try.ntmps32
  go_wp2_with fail
  generalize hX : (w.alloc (.cells #[.int .i64 b, .int .i64 r, .slice AL R.length cL, .slice AS S.length cS] 32)) = w1
  have hb : Below w.heap.size w w1 := by rw [← hX]; exact balloc _ _
  have hk : Has w1 w.heap.size 32 #[.int .i64 b, .int .i64 r, .slice AL R.length cL, .slice AS S.length cS] := by rw [← hX]; exact has_new _ _ _
  have hzw1 : w1.heap.size = w.heap.size + 1 := by rw [← hX]; simp
  clear hX
  have zb := hb; clear hb
  have za := hk; clear hk
  clear hzw1
  refine (HTC.out _ zb).mono ?_
  rintro e w9 ⟨hans, hb⟩
  have hsz9 := zb.size
  replace zb := bthen zb hb; clear hb
  have HB := Lib.hid zb; clear zb za
  rcases hans with ⟨hno, A9, n9, c9, en9, pk9, wt9, rfl⟩ | ⟨d, A9, c9, hyes, hlen, hor, rfl⟩
  · skip
    have HNO := Lib.hid hno; clear hno
    go_wp2_with fail
    go_ret3
    exact ⟨.inl ⟨HNO.out, rfl⟩, HB.out.alloc (by have := HB.out.size; omega) _⟩
  · obtain ⟨ds, dn, dl, dp, dw, dq⟩ := d
    have HYES := Lib.hid hyes; have HLEN := Lib.hid hlen; have HOR := Lib.hid hor; clear hyes hlen hor
    dsimp only
    go_wp2_with fail
    generalize hX : (w9.alloc (.cells #[.slice A9 O.length c9, .int .i64 dn, .int .i64 dp, .int .i64 dw] 72)) = w10
    have hb10 : Below w9.heap.size w9 w10 := by rw [← hX]; exact balloc _ _
    have hk10 : Has w10 w9.heap.size 72 #[.slice A9 O.length c9, .int .i64 dn, .int .i64 dp, .int .i64 dw] := by rw [← hX]; exact has_new _ _ _
    clear hX
    have hq0 := has_cell hk10 0 rfl; have hq1 := has_cell hk10 1 rfl; have hq2 := has_cell hk10 2 rfl; have hq3 := has_cell hk10 3 rfl
    have HB10 := Lib.hid (bthen HB.out hb10)
    replace HOR := Lib.hid (OR.of_call HOR.out hb10)
    clear hb10 hk10
    go_quiet (fail)
    go_wp2_with fail
    go_ret3
    exact ⟨.inr ⟨_, A9, c9, HYES.out, HLEN.out, OR.drN (OR.more HOR.out hsz9) _, rfl⟩, below_dn HB10.out _⟩
end Go.Proofs.Ytjcmndbjpbnogaa
