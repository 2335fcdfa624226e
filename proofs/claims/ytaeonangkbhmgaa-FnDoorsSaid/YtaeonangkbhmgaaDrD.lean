/- Chapter 4: the drawing of doors and faults. -/
import Derived.Test.YtaeonangkbhmgaaVdP
import Derived.Test.YtaeonangkbhmgaaDoaL
import Derived.Test.YtaeonangkbhmgaaActD
import Derived.Test.YtaeonangkbhmgaaOpgP
namespace Go.Proofs.Ytaeonangkbhmgaa
open Go.RowKit
set_option linter.unusedVariables false
theorem own_open {w : World} {base : Nat} {v : Value} {l : List Int} (h : w.ownsRow base 3 1 v l.length (ints l)) : ∃ (A : Option Addr) (c : Nat), v = .slice A l.length c ∧ OR w base 3 A (intV l) := by
  obtain ⟨A, c, rfl⟩ : ∃ (A : Option Addr) (c : Nat), v = .slice A l.length c := by
    rcases h.2 with ⟨hv, h0⟩ | ⟨g, cap, cur, hv, _⟩
    · exact ⟨none, 0, by rw [hv, h0]⟩
    · exact ⟨_, _, hv⟩
  exact ⟨A, c, rfl, or_of_own h⟩
theorem doa_one {x : Dr × List Int} {w : World} {e : Ending} {w' : World} (hx : x.1.ok = true) (h : DoaAns x w e w') :
    ∃ k s l o f A' n' c', e = .returned (.tuple #[.agg #[.int .i64 k, .int .i64 s, .bool l, .bool o, .bool f], .slice A' n' c']) ∧ doorB k s l o f = true ∧ Below w.heap.size w w' := by
  obtain ⟨A', c', rfl, _, hb⟩ := h
  obtain ⟨⟨k, s, l, o, f⟩, L⟩ := x
  exact ⟨k, s, l, o, f, A', _, c', rfl, hx, hb⟩
theorem Cur.setn' {w : World} {B g k : Nat} (h : Cur w B g) (hk : B ≤ k) (hne : k ≠ g) (i : Nat) (u : Value) : Cur (w.setCell ⟨k, i, none⟩ u) B g := h.setn hk hne i u
theorem cset5 {W : World} {B g r : Nat} (h : Cur W B g) (hk : B ≤ r) (hne : r ≠ g) (a b c d e : Value) : Cur (((((W.setCell ⟨r, 0, none⟩ a).setCell ⟨r, 1, none⟩ b).setCell ⟨r, 2, none⟩ c).setCell ⟨r, 3, none⟩ d).setCell ⟨r, 4, none⟩ e) B g :=
  ((((h.setn hk hne 0 a).setn hk hne 1 b).setn hk hne 2 c).setn hk hne 3 d).setn hk hne 4 e
theorem oset5n {w0 W : World} {g r : Nat} (h : Only w0 g W) (hk : w0.heap.size ≤ r) (a b c d e : Value) : Only w0 g (((((W.setCell ⟨r, 0, none⟩ a).setCell ⟨r, 1, none⟩ b).setCell ⟨r, 2, none⟩ c).setCell ⟨r, 3, none⟩ d).setCell ⟨r, 4, none⟩ e) :=
  only_setn (only_setn (only_setn (only_setn (only_setn h hk 0 a) hk 1 b) hk 2 c) hk 3 d) hk 4 e
theorem cset5a {W : World} {B g r : Nat} (h : Cur W B g) (hk : B ≤ r) (hne : r ≠ g) (hB : B ≤ W.heap.size) (a b c d e : Value) (ob : Obj) : Cur ((((((W.setCell ⟨r, 0, none⟩ a).setCell ⟨r, 1, none⟩ b).setCell ⟨r, 2, none⟩ c).setCell ⟨r, 3, none⟩ d).setCell ⟨r, 4, none⟩ e).alloc ob) B g :=
  (cset5 h hk hne a b c d e).alloc (by simpa [size_set] using hB) ob
theorem oset5a {w0 W : World} {g r : Nat} (h : Only w0 g W) (hk : w0.heap.size ≤ r) (a b c d e : Value) (ob : Obj) : Only w0 g ((((((W.setCell ⟨r, 0, none⟩ a).setCell ⟨r, 1, none⟩ b).setCell ⟨r, 2, none⟩ c).setCell ⟨r, 3, none⟩ d).setCell ⟨r, 4, none⟩ e).alloc ob) :=
  only_trans (oset5n h hk a b c d e) (only_alloc g _)
theorem cset4 {W : World} {B g r : Nat} (h : Cur W B g) (hk : B ≤ r) (hne : r ≠ g) (a b c d : Value) : Cur ((((W.setCell ⟨r, 0, none⟩ a).setCell ⟨r, 1, none⟩ b).setCell ⟨r, 2, none⟩ c).setCell ⟨r, 3, none⟩ d) B g :=
  (((h.setn hk hne 0 a).setn hk hne 1 b).setn hk hne 2 c).setn hk hne 3 d
theorem oset4n {w0 W : World} {g r : Nat} (h : Only w0 g W) (hk : w0.heap.size ≤ r) (a b c d : Value) : Only w0 g ((((W.setCell ⟨r, 0, none⟩ a).setCell ⟨r, 1, none⟩ b).setCell ⟨r, 2, none⟩ c).setCell ⟨r, 3, none⟩ d) :=
  only_setn (only_setn (only_setn (only_setn h hk 0 a) hk 1 b) hk 2 c) hk 3 d
theorem cutD_vals (k s : Int) (l o f : Bool) : ∃ k2 s2 l2 o2 f2, (Value.agg (cutD ⟨k, s, l, o, f⟩).A) = .agg #[.int .i64 k2, .int .i64 s2, .bool l2, .bool o2, .bool f2] := ⟨_, _, _, _, _, rfl⟩
/-- a door that may be anything -/
def DrawnD (w : World) (B g : Nat) (e : Ending) (w' : World) : Prop := ∃ (k s : Int) (l o f : Bool), e = .returned (.agg #[.int .i64 k, .int .i64 s, .bool l, .bool o, .bool f]) ∧ Cur w' B g ∧ Only w g w'
/-- a valid door -/
def DrawnV (w : World) (B g : Nat) (e : Ending) (w' : World) : Prop := ∃ (k s : Int) (l o f : Bool), e = .returned (.agg #[.int .i64 k, .int .i64 s, .bool l, .bool o, .bool f]) ∧ doorB k s l o f = true ∧ Cur w' B g ∧ Only w g w'
def DrawnF (w : World) (B g : Nat) (e : Ending) (w' : World) : Prop := ∃ (a b c d : Int), e = .returned (.agg #[.int .i64 a, .int .i64 b, .int .i64 c, .int .i64 d]) ∧ Cur w' B g ∧ Only w g w'

set_option maxRecDepth 100000 in
set_option maxHeartbeats 16000000 in
theorem doorD_any (w : World) (B g : Nat) (hC : Cur w B g) : Calls Try.prog 46 #[.pointer (some ⟨g, 0, none⟩)] w (DrawnV w B g) := by
  have hlt := hC.lt; obtain ⟨hB, hg⟩ := hlt
  have HC := Lib.hid hC; clear hC
  have HO := Lib.hid (only_refl w g)
  have hsw := HO.out.size
  go_enter Try.func46, Try.ntmps46
  go_wp2_with fail
  generalize hX : (w.alloc (.cells #[.int .i64 0, .int .i64 0, .bool false, .bool false, .bool false] 27)) = w1
  have hb : Below w.heap.size w w1 := by rw [← hX]; exact balloc _ _
  have hk : Has w1 w.heap.size 27 #[.int .i64 0, .int .i64 0, .bool false, .bool false, .bool false] := by rw [← hX]; exact has_new _ _ _
  clear hX
  have hmw1 := hb.size
  have kk := HC.out.bel hb; clear HC; have HC := Lib.hid kk; clear kk
  have kk := only_trans HO.out (only_bel (g := g) hb); clear HO; have HO := Lib.hid kk; clear kk hb
  have hsw1 := HO.out.size
  have zr := hk; clear hk; have hlzr := has_lt zr
  refine (once_any _ B g 2 (by omega) (by omega) HC.out).mono ?_
  rintro e w2 ⟨x0, rfl, hC9, hO9⟩
  replace zr := hoo zr hO9 (by omega)
  have hmw2 := hO9.size
  have kk := only_trans HO.out hO9; clear HO; have HO := Lib.hid kk; clear kk
  clear HC; have HC := Lib.hid hC9; clear hC9 hO9
  have hsw2 := HO.out.size
  have zrc0 := has_cell zr 0 rfl; have zrc1 := has_cell zr 1 rfl; have zrc2 := has_cell zr 2 rfl; have zrc3 := has_cell zr 3 rfl; have zrc4 := has_cell zr 4 rfl
  have zrlt := has_lt zr
  have ZRH := Lib.hid zr; clear zr
  go_wp2_with fail
  clear zrc0 zrc1 zrc2 zrc3 zrc4 zrlt
  have zr := ZRH.out; clear ZRH
  refine (actsD_any _ B g 30 (by omega) (by omega) HC.out).mono ?_
  rintro e w3 ⟨vv, L, rfl, hL, hown, hC9, hO9⟩
  replace zr := hoo zr hO9 (by omega)
  have hmw3 := hO9.size
  have kk := only_trans HO.out hO9; clear HO; have HO := Lib.hid kk; clear kk
  clear HC; have HC := Lib.hid hC9; clear hC9 hO9
  have hsw3 := HO.out.size
  obtain ⟨A9, c9, rfl, hor⟩ := own_open hown; clear hown
  have zrc0 := has_cell zr 0 rfl; have zrc1 := has_cell zr 1 rfl; have zrc2 := has_cell zr 2 rfl; have zrc3 := has_cell zr 3 rfl; have zrc4 := has_cell zr 4 rfl
  have zrlt := has_lt zr
  have ZRH := Lib.hid zr; clear zr
  go_wp2_with fail
  clear zrc0 zrc1 zrc2 zrc3 zrc4 zrlt
  have zr := ZRH.out; clear ZRH
  have hok0 : (⟨0, 0, false, false, x0⟩ : Dr).ok = true := by cases x0 <;> rfl
  refine (doaS_any _ w3.heap.size 0 0 false false x0 A9 c9 L (by unfold maxLen; omega) (Nat.le_refl _) hor.il).mono ?_
  rintro e w4 hans
  obtain ⟨k1, s1, l1, o1, f1, A8, n8, c8, rfl, hok, hb⟩ := doa_one (doActs_ok hok0 L) hans; clear hans hor hok0 hL
  replace zr := has_call zr hb
  have hmw4 := hb.size
  have kk := HC.out.bel hb; clear HC; have HC := Lib.hid kk; clear kk
  have kk := only_trans HO.out (only_bel (g := g) hb); clear HO; have HO := Lib.hid kk; clear kk hb
  have hsw4 := HO.out.size
  have HOK := Lib.hid hok; clear hok
  have zrc0 := has_cell zr 0 rfl; have zrc1 := has_cell zr 1 rfl; have zrc2 := has_cell zr 2 rfl; have zrc3 := has_cell zr 3 rfl; have zrc4 := has_cell zr 4 rfl
  have zrf0 := has_free zr 0; have zrf1 := has_free zr 1; have zrf2 := has_free zr 2; have zrf3 := has_free zr 3; have zrf4 := has_free zr 4
  have zrlt := has_lt zr
  have ZRH := Lib.hid zr; clear zr
  go_wp2_with fail
  refine bodyPost_ret (v := .agg #[.int .i64 k1, .int .i64 s1, .bool l1, .bool o1, .bool f1]) ?_ ?_ ?_
  · simp [results, Try.results46, go_sem, zrc0, zrc1, zrc2, zrc3, zrc4, zrf0, zrf1, zrf2, zrf3, zrf4, zrlt]
  · rfl
  · (try unfold DrawnV); (try unfold DrawnD); (try unfold DrawnF); with_reducible exact ⟨k1, s1, l1, o1, f1, rfl, HOK.out, cset5a HC.out (by omega) (by omega) (by omega) _ _ _ _ _ _, oset5a HO.out (by omega) _ _ _ _ _ _⟩
set_option maxRecDepth 100000 in
set_option maxHeartbeats 4000000 in
theorem drawDoor_any (w : World) (A : Option Addr) (n c : Nat) (hn : n ≤ maxLen) (hS : BS w w.heap.size A n) : Calls Try.prog 20 #[.slice A n c] w fun e w' => (∃ (k s : Int) (l o f : Bool), e = .returned (.agg #[.int .i64 k, .int .i64 s, .bool l, .bool o, .bool f]) ∧ doorB k s l o f = true) ∧ Below w.heap.size w w' := by
  have HS := Lib.hid hS; clear hS
  go_enter Try.func20, Try.ntmps20
  go_wp2_with fail
  generalize hX : (w.alloc (.cells #[.int .i64 0, .int .i64 0, .bool false, .bool false, .bool false] 27)) = w1
  have hbw1 : Below w.heap.size w w1 := by rw [← hX]; exact balloc _ _
  have zr : Has w1 w.heap.size 27 #[.int .i64 0, .int .i64 0, .bool false, .bool false, .bool false] := by rw [← hX]; exact has_new _ _ _
  have hlzr := has_lt zr
  clear hX
  have zb := hbw1; clear hbw1
  have hs1 := zb.size
  refine (new_any w1 w.heap.size A n c hn (by omega) (HS.out.below zb)).mono ?_
  rintro e w2 ⟨rfl, hC, hb⟩
  have zr := has_call zr hb; have zb := bthen zb hb; have hs2 := hb.size; have HC := Lib.hid hC; clear hC hb
  go_wp2_with fail
  refine (doorD_any w2 w.heap.size w1.heap.size HC.out).mono ?_
  rintro e w3 ⟨k1, s1, l1, o1, f1, rfl, hok, hC9, hO9⟩
  replace zr := hoo zr hO9 (by omega)
  have zb := zb.trans (only_below hO9 (by omega) hs1)
  have HOK := Lib.hid hok; clear hok hC9 hO9
  have ZB := Lib.hid zb; clear zb
  have zrc0 := has_cell zr 0 rfl; have zrc1 := has_cell zr 1 rfl; have zrc2 := has_cell zr 2 rfl; have zrc3 := has_cell zr 3 rfl; have zrc4 := has_cell zr 4 rfl
  have zrf0 := has_free zr 0; have zrf1 := has_free zr 1; have zrf2 := has_free zr 2; have zrf3 := has_free zr 3; have zrf4 := has_free zr 4
  have zrlt := has_lt zr
  have ZRH := Lib.hid zr; clear zr
  go_wp2_with fail
  refine bodyPost_ret (v := .agg #[.int .i64 k1, .int .i64 s1, .bool l1, .bool o1, .bool f1]) ?_ ?_ ?_
  · simp [results, Try.results20, go_sem, zrc0, zrc1, zrc2, zrc3, zrc4, zrf0, zrf1, zrf2, zrf3, zrf4, zrlt]
  · rfl
  · (try unfold DrawnV); (try unfold DrawnD); (try unfold DrawnF); with_reducible exact ⟨⟨_, _, _, _, _, rfl, HOK.out⟩, bs5 (Nat.le_refl _) _ _ _ _ _ ZB.out⟩
end Go.Proofs.Ytaeonangkbhmgaa
