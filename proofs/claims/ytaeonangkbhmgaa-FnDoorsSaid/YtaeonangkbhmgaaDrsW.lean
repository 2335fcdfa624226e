/- Chapter 4: the walk of the law FnDoors. -/
import Derived.Test.YtaeonangkbhmgaaDrX
import Derived.Deep.DeepCutAuto
namespace Go.Proofs.Ytaeonangkbhmgaa
open Go.RowKit
set_option linter.unusedVariables false
set_option maxHeartbeats 400000 in
theorem same_any (w : World) (B B' : Nat) (A A' : Option Addr) (c c' : Nat) (l : List Int) (hl : l.length ≤ maxLen) (hB : B ≤ w.heap.size) (hB' : B' ≤ w.heap.size) (hS : IL w B A l) (hS' : IL w B' A' l) :
    Calls Try.prog 17 #[.slice A l.length c, .slice A' l.length c'] w fun e w' => e = .returned (.bool true) ∧ Below w.heap.size w w' := by
  unfold maxLen at hl
  have e0 : ((l.length : Int) != (l.length : Int)) = false := by simp
  go_enter Try.func17, Try.ntmps17
  go_wp2
  clear e0
  go_loopw [5] (fun i wr => ∃ k : Nat, k ≤ l.length ∧ i = .int .i64 k ∧ Below w.heap.size w wr) (fun i _ => l.length - (intOf i).toNat)
  case atStart => exact ⟨0, Nat.zero_le _, rfl, Below.refl _ _⟩
  case round =>
    obtain ⟨k, hk, rfl, hb⟩ := hrel
    by_cases hlt : k < l.length
    · have hsz := hb.size
      obtain ⟨b, off, x, rfl, hbB, hx, hc0⟩ := (hS.below (hb.mono hB)).at_ hlt
      obtain ⟨b', off', y, rfl, hbB', hy, hd0⟩ := (hS'.below (hb.mono hB')).at_ hlt
      obtain rfl : x = y := by rw [hx] at hy; injection hy
      clear hx hy
      have HS := Lib.hid hS; clear hS
      have HS' := Lib.hid hS'; clear hS'
      have e0 : (x != x) = false := by simp
      go_wp2
      go_quiet (fail)
      go_wp2
      go_roundw
      case rel => exact ⟨k + 1, by omega, by go_num, below_drewN hb _⟩
      case measure => simp [intOf]; omega
    · go_wp2
      go_ret
      exact ⟨rfl, hb⟩
theorem keep15 {w0 W W' : World} {g1 g2 g3 : Nat} {x0 x1 x2 x3 x4 x5 x6 x7 x8 x9 x10 x11 x12 x13 x14 : Value} (k : W.cell? ⟨g1, 0, none⟩ = some (x0) ∧ W.cell? ⟨g1, 1, none⟩ = some (x1) ∧ W.cell? ⟨g1, 2, none⟩ = some (x2) ∧ W.cell? ⟨g1, 3, none⟩ = some (x3) ∧ W.cell? ⟨g1, 4, none⟩ = some (x4) ∧ W.cell? ⟨g2, 0, none⟩ = some (x5) ∧ W.cell? ⟨g2, 1, none⟩ = some (x6) ∧ W.cell? ⟨g2, 2, none⟩ = some (x7) ∧ W.cell? ⟨g2, 3, none⟩ = some (x8) ∧ W.cell? ⟨g2, 4, none⟩ = some (x9) ∧ W.cell? ⟨g3, 0, none⟩ = some (x10) ∧ W.cell? ⟨g3, 1, none⟩ = some (x11) ∧ W.cell? ⟨g3, 2, none⟩ = some (x12) ∧ W.cell? ⟨g3, 3, none⟩ = some (x13) ∧ W.cell? ⟨g3, 4, none⟩ = some (x14) ∧ Below w0.heap.size w0 W) (hb : Below W.heap.size W W') : W'.cell? ⟨g1, 0, none⟩ = some (x0) ∧ W'.cell? ⟨g1, 1, none⟩ = some (x1) ∧ W'.cell? ⟨g1, 2, none⟩ = some (x2) ∧ W'.cell? ⟨g1, 3, none⟩ = some (x3) ∧ W'.cell? ⟨g1, 4, none⟩ = some (x4) ∧ W'.cell? ⟨g2, 0, none⟩ = some (x5) ∧ W'.cell? ⟨g2, 1, none⟩ = some (x6) ∧ W'.cell? ⟨g2, 2, none⟩ = some (x7) ∧ W'.cell? ⟨g2, 3, none⟩ = some (x8) ∧ W'.cell? ⟨g2, 4, none⟩ = some (x9) ∧ W'.cell? ⟨g3, 0, none⟩ = some (x10) ∧ W'.cell? ⟨g3, 1, none⟩ = some (x11) ∧ W'.cell? ⟨g3, 2, none⟩ = some (x12) ∧ W'.cell? ⟨g3, 3, none⟩ = some (x13) ∧ W'.cell? ⟨g3, 4, none⟩ = some (x14) ∧ Below w0.heap.size w0 W' :=
  ⟨ccall k.1 hb, ccall k.2.1 hb, ccall k.2.2.1 hb, ccall k.2.2.2.1 hb, ccall k.2.2.2.2.1 hb, ccall k.2.2.2.2.2.1 hb, ccall k.2.2.2.2.2.2.1 hb, ccall k.2.2.2.2.2.2.2.1 hb, ccall k.2.2.2.2.2.2.2.2.1 hb, ccall k.2.2.2.2.2.2.2.2.2.1 hb, ccall k.2.2.2.2.2.2.2.2.2.2.1 hb, ccall k.2.2.2.2.2.2.2.2.2.2.2.1 hb, ccall k.2.2.2.2.2.2.2.2.2.2.2.2.1 hb, ccall k.2.2.2.2.2.2.2.2.2.2.2.2.2.1 hb, ccall k.2.2.2.2.2.2.2.2.2.2.2.2.2.2.1 hb, bthen k.2.2.2.2.2.2.2.2.2.2.2.2.2.2.2 hb⟩
theorem bset5a {W : World} {r : Nat} {t : TypeId} {d : Dr} {x0 x1 x2 x3 x4 : Value} (h : Has W r t #[x0, x1, x2, x3, x4]) : Has (((((W.setCell ⟨r, 0, none⟩ (.int .i64 d.k)).setCell ⟨r, 1, none⟩ (.int .i64 d.s)).setCell ⟨r, 2, none⟩ (.bool d.l)).setCell ⟨r, 3, none⟩ (.bool d.o)).setCell ⟨r, 4, none⟩ (.bool d.f)) r t d.A := hs5 h _ _ _ _ _
theorem oi_set5 {W : World} {lo hi r : Nat} {t : TypeId} {A : Option Addr} {xs : List Value} {a b c d e : Value} (h : OI W lo hi t A xs) (hr : hi ≤ r) : OI (((((W.setCell ⟨r, 0, none⟩ a).setCell ⟨r, 1, none⟩ b).setCell ⟨r, 2, none⟩ c).setCell ⟨r, 3, none⟩ d).setCell ⟨r, 4, none⟩ e) lo hi t A xs := by
  rcases h with h | ⟨g, cur, rfl, h1, h2, hh, hc⟩
  · exact .inl h
  · exact .inr ⟨g, cur, rfl, h1, h2, hoo hh (os5 (only_refl _ _) _ _ _ _ _) (by omega), hc⟩
theorem one_full {d : Dr} (h : d.ok = true) (x : Int) : ((doActs d [x]).1.f == d.f || d.o) = true := by
  unfold doActs; split
  · exact act_full h _
  · simp
theorem il_one {w : World} {b off : Nat} {x : Int} (hb : b < w.heap.size) (h : w.cell? ⟨b, off, none⟩ = some (.int .i64 x)) : IL w w.heap.size (some ⟨b, off, none⟩) [x] :=
  .inr ⟨b, off, rfl, hb, fun k y hk => by
    rcases k with _ | k
    · simp at hk; subst hk; exact h
    · simp at hk⟩
theorem il_of6 {w0 W : World} {g b j : Nat} {x0 x1 x2 x3 x4 : Value} {x : Int} (hb : b < w0.heap.size) (k : (W.cell? ⟨g, 0, none⟩ = some x0 ∧ W.cell? ⟨g, 1, none⟩ = some x1 ∧ W.cell? ⟨g, 2, none⟩ = some x2 ∧ W.cell? ⟨g, 3, none⟩ = some x3 ∧ W.cell? ⟨g, 4, none⟩ = some x4 ∧ W.cell? ⟨b, j, none⟩ = some (.int .i64 x)) ∧ Below w0.heap.size w0 W) : IL W W.heap.size (some ⟨b, j, none⟩) [x] := il_one (Nat.lt_of_lt_of_le hb k.2.size) k.1.2.2.2.2.2
set_option maxRecDepth 100000 in
set_option maxHeartbeats 40000000 in
theorem drs_walk (w : World) (A : Option Addr) (na ca : Nat) (hn : na ≤ maxLen) (hS : BS w w.heap.size A na) : Calls Try.prog 4 #[.slice A na ca] w fun e w' => e = .returned (.bool true) ∧ Below w.heap.size w w' := by
  have HS := Lib.hid hS; clear hS
  have HBG := Lib.hid (fun W => big_any W A na ca hn)
  have HPL := Lib.hid (fun W (h : BS W W.heap.size A na) => drawActs_any W A na ca hn h)
  clear hn
  by_cases hbig : (1048576 : Int) < na
  · have hd : decide ((1048576 : Int) < na) = true := by simpa using hbig
    have HD := Lib.hid hd; clear hd
    go_enter Try.func4, Try.ntmps4
    go_wp2_with (refine (HBG.out _).mono ?_; rintro e w' ⟨rfl, hw⟩; rw [hw, HD.out]; clear hw)
    go_ret
    exact ⟨rfl, Below.refl _ _⟩
  have hd : decide ((1048576 : Int) < na) = false := by simpa using hbig
  have HD := Lib.hid hd; clear hd hbig
  go_enter Try.func4, Try.ntmps4
  go_wp2_with (go_at_call 7; refine (HBG.out _).mono ?_; rintro e w' ⟨rfl, hw⟩; rw [hw, HD.out]; clear hw)
  refine (HPL.out w HS.out).mono ?_
  rintro e w1 ⟨⟨k, s, l, o, f, A1, L, c1, rfl, hL, hc1, hc2, hor⟩, hb1⟩
  have hsw1 := hb1.size
  have lf : L.length ≤ maxLen := by unfold maxLen; omega
  have hc3 : c1 ≤ 9223372036854775807 := by unfold maxLen at hc2; omega
  clear hc2
  obtain ⟨hok, hk⟩ | ⟨hok, hk⟩ | ⟨hok, hk⟩ : (doorB k s l o f = false ∧ doActs ⟨k, s, l, o, f⟩ L = (⟨k, s, l, o, f⟩, [])) ∨ ((doorB k s l o f = true ∧ 200 < L.length) ∧ doActs ⟨k, s, l, o, f⟩ L = (⟨k, s, l, o, f⟩, [])) ∨ ((doorB k s l o f = true ∧ L.length ≤ 200) ∧ True) := by
    cases hok : doorB k s l o f
    · exact .inl ⟨rfl, doActs_no1 hok⟩
    · by_cases hb : 200 < L.length
      · exact .inr (.inl ⟨⟨rfl, hb⟩, doActs_no2 (actsB_big hb)⟩)
      · exact .inr (.inr ⟨⟨rfl, by omega⟩, trivial⟩)
  · skip
    have HX := Lib.hid hk; clear hk
    have hRm : (([] : List Int)).length ≤ maxLen := Nat.zero_le _
    have HOK := Lib.hid hok; clear hok
    have zb := hb1; clear hb1
    have RI_xa := Lib.hid (OI.of_or hor); clear hor
    go_wp2_with fail
    generalize hX : (w1.alloc (.cells #[.int .i64 k, .int .i64 s, .bool l, .bool o, .bool f] 27)) = w2
    have hb : Below w1.heap.size w1 w2 := by rw [← hX]; exact balloc _ _
    have hk : Has w2 w1.heap.size 27 #[.int .i64 k, .int .i64 s, .bool l, .bool o, .bool f] := by rw [← hX]; exact has_new _ _ _
    clear hX
    have kk := OI.call RI_xa.out hb; clear RI_xa; have RI_xa := Lib.hid kk; clear kk
    have hsw2 := hb.size
    replace zb := bthen zb hb; clear hb
    have zd := hk; clear hk; have hlzd := has_lt zd
    refine (doaI_any _ w2.heap.size k s l o f A1 c1 L lf (Nat.le_refl _) RI_xa.out.il).mono ?_
    rintro e w3 hans
    obtain ⟨xrA, xrn, rfl, hP, hb⟩ := doa_open HX.out hans; clear hans
    have kk := OI.call RI_xa.out hb; clear RI_xa; have RI_xa := Lib.hid kk; clear kk
    have hsw3 := hb.size
    replace zd := has_call zd hb
    replace zb := bthen zb hb; clear hb
    have RI_xr := Lib.hid (OI.of_or hP); clear hP
    have zdc0 := has_cell zd 0 rfl; have zdc1 := has_cell zd 1 rfl; have zdc2 := has_cell zd 2 rfl; have zdc3 := has_cell zd 3 rfl; have zdc4 := has_cell zd 4 rfl
    have zdlt := has_lt zd
    have ZDH := Lib.hid zd; clear zd
    have ZB := Lib.hid zb; clear zb
    go_wp2_with fail
    clear zdc0 zdc1 zdc2 zdc3 zdc4 zdlt
    have zd := ZDH.out; clear ZDH
    have zb := ZB.out; clear ZB
    generalize hX : (w3.alloc (.cells #[.int .i64 k, .int .i64 s, .bool l, .bool o, .bool f] 27)) = w4
    have hb : Below w3.heap.size w3 w4 := by rw [← hX]; exact balloc _ _
    have hk : Has w4 w3.heap.size 27 #[.int .i64 k, .int .i64 s, .bool l, .bool o, .bool f] := by rw [← hX]; exact has_new _ _ _
    clear hX
    have kk := OI.call RI_xa.out hb; clear RI_xa; have RI_xa := Lib.hid kk; clear kk
    have kk := OI.call RI_xr.out hb; clear RI_xr; have RI_xr := Lib.hid kk; clear kk
    have hsw4 := hb.size
    replace zd := has_call zd hb
    replace zb := bthen zb hb; clear hb
    have zx := hk; clear hk; have hlzx := has_lt zx
    refine (doaS_any _ w4.heap.size k s l o f A1 c1 L lf (Nat.le_refl _) RI_xa.out.il).mono ?_
    rintro e w5 hans
    obtain ⟨xsA, xsn, rfl, hP, hb⟩ := doa_open HX.out hans; clear hans
    have kk := OI.call RI_xa.out hb; clear RI_xa; have RI_xa := Lib.hid kk; clear kk
    have kk := OI.call RI_xr.out hb; clear RI_xr; have RI_xr := Lib.hid kk; clear kk
    have hsw5 := hb.size
    replace zd := has_call zd hb
    replace zx := has_call zx hb
    replace zb := bthen zb hb; clear hb
    have RI_xs := Lib.hid (OI.of_or hP); clear hP
    have zdc0 := has_cell zd 0 rfl; have zdc1 := has_cell zd 1 rfl; have zdc2 := has_cell zd 2 rfl; have zdc3 := has_cell zd 3 rfl; have zdc4 := has_cell zd 4 rfl
    have zdlt := has_lt zd
    have zxc0 := has_cell zx 0 rfl; have zxc1 := has_cell zx 1 rfl; have zxc2 := has_cell zx 2 rfl; have zxc3 := has_cell zx 3 rfl; have zxc4 := has_cell zx 4 rfl
    have zxlt := has_lt zx
    have ZDH := Lib.hid zd; clear zd
    have ZXH := Lib.hid zx; clear zx
    have ZB := Lib.hid zb; clear zb
    go_upto_region 6 with fail
    clear zdc0 zdc1 zdc2 zdc3 zdc4 zdlt zxc0 zxc1 zxc2 zxc3 zxc4 zxlt
    have zd := ZDH.out; clear ZDH
    have zx := ZXH.out; clear ZXH
    have zb := ZB.out; clear ZB
    generalize hX : (w5.alloc (.cells #[.int .i64 k, .int .i64 s, .bool l, .bool o, .bool f] 27)) = w6
    have hb : Below w5.heap.size w5 w6 := by rw [← hX]; exact balloc _ _
    have hk : Has w6 w5.heap.size 27 #[.int .i64 k, .int .i64 s, .bool l, .bool o, .bool f] := by rw [← hX]; exact has_new _ _ _
    clear hX
    have kk := OI.call RI_xa.out hb; clear RI_xa; have RI_xa := Lib.hid kk; clear kk
    have kk := OI.call RI_xr.out hb; clear RI_xr; have RI_xr := Lib.hid kk; clear kk
    have kk := OI.call RI_xs.out hb; clear RI_xs; have RI_xs := Lib.hid kk; clear kk
    have hsw6 := hb.size
    replace zd := has_call zd hb
    replace zx := has_call zx hb
    replace zb := bthen zb hb; clear hb
    have zy := hk; clear hk; have hlzy := has_lt zy
    have hld := has_lt zd; have hlx := has_lt zx; have hly := has_lt zy
    have S00 : (fun W : World => W.cell? ⟨w1.heap.size, 0, none⟩ = some (.int .i64 k) ∧ W.cell? ⟨w1.heap.size, 1, none⟩ = some (.int .i64 s) ∧ W.cell? ⟨w1.heap.size, 2, none⟩ = some (.bool l) ∧ W.cell? ⟨w1.heap.size, 3, none⟩ = some (.bool o) ∧ W.cell? ⟨w1.heap.size, 4, none⟩ = some (.bool f) ∧ W.cell? ⟨w3.heap.size, 0, none⟩ = some (.int .i64 k) ∧ W.cell? ⟨w3.heap.size, 1, none⟩ = some (.int .i64 s) ∧ W.cell? ⟨w3.heap.size, 2, none⟩ = some (.bool l) ∧ W.cell? ⟨w3.heap.size, 3, none⟩ = some (.bool o) ∧ W.cell? ⟨w3.heap.size, 4, none⟩ = some (.bool f) ∧ W.cell? ⟨w5.heap.size, 0, none⟩ = some (.int .i64 k) ∧ W.cell? ⟨w5.heap.size, 1, none⟩ = some (.int .i64 s) ∧ W.cell? ⟨w5.heap.size, 2, none⟩ = some (.bool l) ∧ W.cell? ⟨w5.heap.size, 3, none⟩ = some (.bool o) ∧ W.cell? ⟨w5.heap.size, 4, none⟩ = some (.bool f) ∧ Below w6.heap.size w6 W) w6 := ⟨has_cell zd 0 rfl, has_cell zd 1 rfl, has_cell zd 2 rfl, has_cell zd 3 rfl, has_cell zd 4 rfl, has_cell zx 0 rfl, has_cell zx 1 rfl, has_cell zx 2 rfl, has_cell zx 3 rfl, has_cell zx 4 rfl, has_cell zy 0 rfl, has_cell zy 1 rfl, has_cell zy 2 rfl, has_cell zy 3 rfl, has_cell zy 4 rfl, Below.refl _ _⟩
    have S0 : (fun W : World => W.cell? ⟨w1.heap.size, 0, none⟩ = some (.int .i64 k) ∧ W.cell? ⟨w1.heap.size, 1, none⟩ = some (.int .i64 s) ∧ W.cell? ⟨w1.heap.size, 2, none⟩ = some (.bool l) ∧ W.cell? ⟨w1.heap.size, 3, none⟩ = some (.bool o) ∧ W.cell? ⟨w1.heap.size, 4, none⟩ = some (.bool f) ∧ W.cell? ⟨w3.heap.size, 0, none⟩ = some (.int .i64 k) ∧ W.cell? ⟨w3.heap.size, 1, none⟩ = some (.int .i64 s) ∧ W.cell? ⟨w3.heap.size, 2, none⟩ = some (.bool l) ∧ W.cell? ⟨w3.heap.size, 3, none⟩ = some (.bool o) ∧ W.cell? ⟨w3.heap.size, 4, none⟩ = some (.bool f) ∧ W.cell? ⟨w5.heap.size, 0, none⟩ = some (.int .i64 k) ∧ W.cell? ⟨w5.heap.size, 1, none⟩ = some (.int .i64 s) ∧ W.cell? ⟨w5.heap.size, 2, none⟩ = some (.bool l) ∧ W.cell? ⟨w5.heap.size, 3, none⟩ = some (.bool o) ∧ W.cell? ⟨w5.heap.size, 4, none⟩ = some (.bool f) ∧ Below w6.heap.size w6 W) w6.drew := ⟨has_cell zd 0 rfl, has_cell zd 1 rfl, has_cell zd 2 rfl, has_cell zd 3 rfl, has_cell zd 4 rfl, has_cell zx 0 rfl, has_cell zx 1 rfl, has_cell zx 2 rfl, has_cell zx 3 rfl, has_cell zx 4 rfl, has_cell zy 0 rfl, has_cell zy 1 rfl, has_cell zy 2 rfl, has_cell zy 3 rfl, has_cell zy 4 rfl, (Below.refl _ _).drew⟩
    have ZDH := Lib.hid zd; clear zd
    have ZXH := Lib.hid zx; clear zx
    have ZYH := Lib.hid zy; clear zy
    have ZB := Lib.hid zb; clear zb
    go_cut [48] (fun p W => p = .bool false ∧ Below w6.heap.size w6 W)
    case first =>
      go_region_held3 (fun W : World => W.cell? ⟨w1.heap.size, 0, none⟩ = some (.int .i64 k) ∧ W.cell? ⟨w1.heap.size, 1, none⟩ = some (.int .i64 s) ∧ W.cell? ⟨w1.heap.size, 2, none⟩ = some (.bool l) ∧ W.cell? ⟨w1.heap.size, 3, none⟩ = some (.bool o) ∧ W.cell? ⟨w1.heap.size, 4, none⟩ = some (.bool f) ∧ W.cell? ⟨w3.heap.size, 0, none⟩ = some (.int .i64 k) ∧ W.cell? ⟨w3.heap.size, 1, none⟩ = some (.int .i64 s) ∧ W.cell? ⟨w3.heap.size, 2, none⟩ = some (.bool l) ∧ W.cell? ⟨w3.heap.size, 3, none⟩ = some (.bool o) ∧ W.cell? ⟨w3.heap.size, 4, none⟩ = some (.bool f) ∧ W.cell? ⟨w5.heap.size, 0, none⟩ = some (.int .i64 k) ∧ W.cell? ⟨w5.heap.size, 1, none⟩ = some (.int .i64 s) ∧ W.cell? ⟨w5.heap.size, 2, none⟩ = some (.bool l) ∧ W.cell? ⟨w5.heap.size, 3, none⟩ = some (.bool o) ∧ W.cell? ⟨w5.heap.size, 4, none⟩ = some (.bool f) ∧ Below w6.heap.size w6 W) (with_reducible assumption) (first
        | (go_at_call 17; refine (same_any w6.drew w6.heap.size w6.heap.size xrA xsA xrn xsn ([] : List Int) hRm (Nat.le_refl _) (Nat.le_refl _) RI_xr.out.il RI_xs.out.il).mono ?_; rintro e u1 ⟨rfl, hb1⟩; have S1 := keep15 (by with_reducible assumption) hb1)
        | (go_at_call 12; refine (doorI_any _ k s l o f).mono ?_; rintro e u2 ⟨rfl, hb2⟩; rw [HOK.out]; have S2 := keep15 (by with_reducible assumption) hb2)
        | (go_at_call 18; refine (doorS_any _ k s l o f).mono ?_; rintro e u3 ⟨rfl, hb3⟩; rw [HOK.out]; have S3 := keep15 (by with_reducible assumption) hb3))
      all_goals (go_wp2_with fail)
      all_goals (go_meet; with_reducible exact ⟨rfl, S3.2.2.2.2.2.2.2.2.2.2.2.2.2.2.2⟩)
    case rest =>
      rename World => wz
      obtain ⟨rfl, hb⟩ := hcut; clear S00 S0 hld hlx hly
      have zd := ZDH.out; clear ZDH
      have zx := ZXH.out; clear ZXH
      have zy := ZYH.out; clear ZYH
      have zb := ZB.out; clear ZB
      have kk := OI.call RI_xa.out hb; clear RI_xa; have RI_xa := Lib.hid kk; clear kk
      have kk := OI.call RI_xr.out hb; clear RI_xr; have RI_xr := Lib.hid kk; clear kk
      have kk := OI.call RI_xs.out hb; clear RI_xs; have RI_xs := Lib.hid kk; clear kk
      have hswz := hb.size
      replace zd := has_call zd hb
      replace zx := has_call zx hb
      replace zy := has_call zy hb
      replace zb := bthen zb hb; clear hb
      clear zy RI_xr RI_xs
      have zdc0 := has_cell zd 0 rfl; have zdc1 := has_cell zd 1 rfl; have zdc2 := has_cell zd 2 rfl; have zdc3 := has_cell zd 3 rfl; have zdc4 := has_cell zd 4 rfl
      have zdlt := has_lt zd
      have zxc0 := has_cell zx 0 rfl; have zxc1 := has_cell zx 1 rfl; have zxc2 := has_cell zx 2 rfl; have zxc3 := has_cell zx 3 rfl; have zxc4 := has_cell zx 4 rfl
      have zxlt := has_lt zx
      have ZDH := Lib.hid zd; clear zd
      have ZXH := Lib.hid zx; clear zx
      have ZB := Lib.hid zb; clear zb
      (try go_step)
      go_wp2_with fail
      clear zdc0 zdc1 zdc2 zdc3 zdc4 zdlt zxc0 zxc1 zxc2 zxc3 zxc4 zxlt
      have zd := ZDH.out; clear ZDH
      have zx := ZXH.out; clear ZXH
      have zb := ZB.out; clear ZB
      refine (doorS_any _ k s l o f).mono ?_
      rintro e w41 ⟨rfl, hb⟩
      rw [HOK.out]
      have kk := OI.call RI_xa.out hb; clear RI_xa; have RI_xa := Lib.hid kk; clear kk
      have hsw41 := hb.size
      replace zd := has_call zd hb
      replace zx := has_call zx hb
      replace zb := bthen zb hb; clear hb
      have zdc0 := has_cell zd 0 rfl; have zdc1 := has_cell zd 1 rfl; have zdc2 := has_cell zd 2 rfl; have zdc3 := has_cell zd 3 rfl; have zdc4 := has_cell zd 4 rfl
      have zdlt := has_lt zd
      have zxc0 := has_cell zx 0 rfl; have zxc1 := has_cell zx 1 rfl; have zxc2 := has_cell zx 2 rfl; have zxc3 := has_cell zx 3 rfl; have zxc4 := has_cell zx 4 rfl
      have zxlt := has_lt zx
      have ZDH := Lib.hid zd; clear zd
      have ZXH := Lib.hid zx; clear zx
      have ZB := Lib.hid zb; clear zb
      go_wp2_with fail
      go_ret
      exact ⟨rfl, ZB.out⟩
  · skip
    have HX := Lib.hid hk; clear hk
    have hRm : (([] : List Int)).length ≤ maxLen := Nat.zero_le _
    obtain ⟨hok, hlen⟩ := hok; have HOK := Lib.hid hok; clear hok
    have zb := hb1; clear hb1
    have RI_xa := Lib.hid (OI.of_or hor); clear hor
    go_wp2_with fail
    generalize hX : (w1.alloc (.cells #[.int .i64 k, .int .i64 s, .bool l, .bool o, .bool f] 27)) = w2
    have hb : Below w1.heap.size w1 w2 := by rw [← hX]; exact balloc _ _
    have hk : Has w2 w1.heap.size 27 #[.int .i64 k, .int .i64 s, .bool l, .bool o, .bool f] := by rw [← hX]; exact has_new _ _ _
    clear hX
    have kk := OI.call RI_xa.out hb; clear RI_xa; have RI_xa := Lib.hid kk; clear kk
    have hsw2 := hb.size
    replace zb := bthen zb hb; clear hb
    have zd := hk; clear hk; have hlzd := has_lt zd
    refine (doaI_any _ w2.heap.size k s l o f A1 c1 L lf (Nat.le_refl _) RI_xa.out.il).mono ?_
    rintro e w3 hans
    obtain ⟨xrA, xrn, rfl, hP, hb⟩ := doa_open HX.out hans; clear hans
    have kk := OI.call RI_xa.out hb; clear RI_xa; have RI_xa := Lib.hid kk; clear kk
    have hsw3 := hb.size
    replace zd := has_call zd hb
    replace zb := bthen zb hb; clear hb
    have RI_xr := Lib.hid (OI.of_or hP); clear hP
    have zdc0 := has_cell zd 0 rfl; have zdc1 := has_cell zd 1 rfl; have zdc2 := has_cell zd 2 rfl; have zdc3 := has_cell zd 3 rfl; have zdc4 := has_cell zd 4 rfl
    have zdlt := has_lt zd
    have ZDH := Lib.hid zd; clear zd
    have ZB := Lib.hid zb; clear zb
    go_wp2_with fail
    clear zdc0 zdc1 zdc2 zdc3 zdc4 zdlt
    have zd := ZDH.out; clear ZDH
    have zb := ZB.out; clear ZB
    generalize hX : (w3.alloc (.cells #[.int .i64 k, .int .i64 s, .bool l, .bool o, .bool f] 27)) = w4
    have hb : Below w3.heap.size w3 w4 := by rw [← hX]; exact balloc _ _
    have hk : Has w4 w3.heap.size 27 #[.int .i64 k, .int .i64 s, .bool l, .bool o, .bool f] := by rw [← hX]; exact has_new _ _ _
    clear hX
    have kk := OI.call RI_xa.out hb; clear RI_xa; have RI_xa := Lib.hid kk; clear kk
    have kk := OI.call RI_xr.out hb; clear RI_xr; have RI_xr := Lib.hid kk; clear kk
    have hsw4 := hb.size
    replace zd := has_call zd hb
    replace zb := bthen zb hb; clear hb
    have zx := hk; clear hk; have hlzx := has_lt zx
    refine (doaS_any _ w4.heap.size k s l o f A1 c1 L lf (Nat.le_refl _) RI_xa.out.il).mono ?_
    rintro e w5 hans
    obtain ⟨xsA, xsn, rfl, hP, hb⟩ := doa_open HX.out hans; clear hans
    have kk := OI.call RI_xa.out hb; clear RI_xa; have RI_xa := Lib.hid kk; clear kk
    have kk := OI.call RI_xr.out hb; clear RI_xr; have RI_xr := Lib.hid kk; clear kk
    have hsw5 := hb.size
    replace zd := has_call zd hb
    replace zx := has_call zx hb
    replace zb := bthen zb hb; clear hb
    have RI_xs := Lib.hid (OI.of_or hP); clear hP
    have zdc0 := has_cell zd 0 rfl; have zdc1 := has_cell zd 1 rfl; have zdc2 := has_cell zd 2 rfl; have zdc3 := has_cell zd 3 rfl; have zdc4 := has_cell zd 4 rfl
    have zdlt := has_lt zd
    have zxc0 := has_cell zx 0 rfl; have zxc1 := has_cell zx 1 rfl; have zxc2 := has_cell zx 2 rfl; have zxc3 := has_cell zx 3 rfl; have zxc4 := has_cell zx 4 rfl
    have zxlt := has_lt zx
    have ZDH := Lib.hid zd; clear zd
    have ZXH := Lib.hid zx; clear zx
    have ZB := Lib.hid zb; clear zb
    go_upto_region 6 with fail
    clear zdc0 zdc1 zdc2 zdc3 zdc4 zdlt zxc0 zxc1 zxc2 zxc3 zxc4 zxlt
    have zd := ZDH.out; clear ZDH
    have zx := ZXH.out; clear ZXH
    have zb := ZB.out; clear ZB
    generalize hX : (w5.alloc (.cells #[.int .i64 k, .int .i64 s, .bool l, .bool o, .bool f] 27)) = w6
    have hb : Below w5.heap.size w5 w6 := by rw [← hX]; exact balloc _ _
    have hk : Has w6 w5.heap.size 27 #[.int .i64 k, .int .i64 s, .bool l, .bool o, .bool f] := by rw [← hX]; exact has_new _ _ _
    clear hX
    have kk := OI.call RI_xa.out hb; clear RI_xa; have RI_xa := Lib.hid kk; clear kk
    have kk := OI.call RI_xr.out hb; clear RI_xr; have RI_xr := Lib.hid kk; clear kk
    have kk := OI.call RI_xs.out hb; clear RI_xs; have RI_xs := Lib.hid kk; clear kk
    have hsw6 := hb.size
    replace zd := has_call zd hb
    replace zx := has_call zx hb
    replace zb := bthen zb hb; clear hb
    have zy := hk; clear hk; have hlzy := has_lt zy
    have hld := has_lt zd; have hlx := has_lt zx; have hly := has_lt zy
    have S00 : (fun W : World => W.cell? ⟨w1.heap.size, 0, none⟩ = some (.int .i64 k) ∧ W.cell? ⟨w1.heap.size, 1, none⟩ = some (.int .i64 s) ∧ W.cell? ⟨w1.heap.size, 2, none⟩ = some (.bool l) ∧ W.cell? ⟨w1.heap.size, 3, none⟩ = some (.bool o) ∧ W.cell? ⟨w1.heap.size, 4, none⟩ = some (.bool f) ∧ W.cell? ⟨w3.heap.size, 0, none⟩ = some (.int .i64 k) ∧ W.cell? ⟨w3.heap.size, 1, none⟩ = some (.int .i64 s) ∧ W.cell? ⟨w3.heap.size, 2, none⟩ = some (.bool l) ∧ W.cell? ⟨w3.heap.size, 3, none⟩ = some (.bool o) ∧ W.cell? ⟨w3.heap.size, 4, none⟩ = some (.bool f) ∧ W.cell? ⟨w5.heap.size, 0, none⟩ = some (.int .i64 k) ∧ W.cell? ⟨w5.heap.size, 1, none⟩ = some (.int .i64 s) ∧ W.cell? ⟨w5.heap.size, 2, none⟩ = some (.bool l) ∧ W.cell? ⟨w5.heap.size, 3, none⟩ = some (.bool o) ∧ W.cell? ⟨w5.heap.size, 4, none⟩ = some (.bool f) ∧ Below w6.heap.size w6 W) w6 := ⟨has_cell zd 0 rfl, has_cell zd 1 rfl, has_cell zd 2 rfl, has_cell zd 3 rfl, has_cell zd 4 rfl, has_cell zx 0 rfl, has_cell zx 1 rfl, has_cell zx 2 rfl, has_cell zx 3 rfl, has_cell zx 4 rfl, has_cell zy 0 rfl, has_cell zy 1 rfl, has_cell zy 2 rfl, has_cell zy 3 rfl, has_cell zy 4 rfl, Below.refl _ _⟩
    have S0 : (fun W : World => W.cell? ⟨w1.heap.size, 0, none⟩ = some (.int .i64 k) ∧ W.cell? ⟨w1.heap.size, 1, none⟩ = some (.int .i64 s) ∧ W.cell? ⟨w1.heap.size, 2, none⟩ = some (.bool l) ∧ W.cell? ⟨w1.heap.size, 3, none⟩ = some (.bool o) ∧ W.cell? ⟨w1.heap.size, 4, none⟩ = some (.bool f) ∧ W.cell? ⟨w3.heap.size, 0, none⟩ = some (.int .i64 k) ∧ W.cell? ⟨w3.heap.size, 1, none⟩ = some (.int .i64 s) ∧ W.cell? ⟨w3.heap.size, 2, none⟩ = some (.bool l) ∧ W.cell? ⟨w3.heap.size, 3, none⟩ = some (.bool o) ∧ W.cell? ⟨w3.heap.size, 4, none⟩ = some (.bool f) ∧ W.cell? ⟨w5.heap.size, 0, none⟩ = some (.int .i64 k) ∧ W.cell? ⟨w5.heap.size, 1, none⟩ = some (.int .i64 s) ∧ W.cell? ⟨w5.heap.size, 2, none⟩ = some (.bool l) ∧ W.cell? ⟨w5.heap.size, 3, none⟩ = some (.bool o) ∧ W.cell? ⟨w5.heap.size, 4, none⟩ = some (.bool f) ∧ Below w6.heap.size w6 W) w6.drew := ⟨has_cell zd 0 rfl, has_cell zd 1 rfl, has_cell zd 2 rfl, has_cell zd 3 rfl, has_cell zd 4 rfl, has_cell zx 0 rfl, has_cell zx 1 rfl, has_cell zx 2 rfl, has_cell zx 3 rfl, has_cell zx 4 rfl, has_cell zy 0 rfl, has_cell zy 1 rfl, has_cell zy 2 rfl, has_cell zy 3 rfl, has_cell zy 4 rfl, (Below.refl _ _).drew⟩
    have ZDH := Lib.hid zd; clear zd
    have ZXH := Lib.hid zx; clear zx
    have ZYH := Lib.hid zy; clear zy
    have ZB := Lib.hid zb; clear zb
    go_cut [48] (fun p W => p = .bool false ∧ Below w6.heap.size w6 W)
    case first =>
      go_region_held3 (fun W : World => W.cell? ⟨w1.heap.size, 0, none⟩ = some (.int .i64 k) ∧ W.cell? ⟨w1.heap.size, 1, none⟩ = some (.int .i64 s) ∧ W.cell? ⟨w1.heap.size, 2, none⟩ = some (.bool l) ∧ W.cell? ⟨w1.heap.size, 3, none⟩ = some (.bool o) ∧ W.cell? ⟨w1.heap.size, 4, none⟩ = some (.bool f) ∧ W.cell? ⟨w3.heap.size, 0, none⟩ = some (.int .i64 k) ∧ W.cell? ⟨w3.heap.size, 1, none⟩ = some (.int .i64 s) ∧ W.cell? ⟨w3.heap.size, 2, none⟩ = some (.bool l) ∧ W.cell? ⟨w3.heap.size, 3, none⟩ = some (.bool o) ∧ W.cell? ⟨w3.heap.size, 4, none⟩ = some (.bool f) ∧ W.cell? ⟨w5.heap.size, 0, none⟩ = some (.int .i64 k) ∧ W.cell? ⟨w5.heap.size, 1, none⟩ = some (.int .i64 s) ∧ W.cell? ⟨w5.heap.size, 2, none⟩ = some (.bool l) ∧ W.cell? ⟨w5.heap.size, 3, none⟩ = some (.bool o) ∧ W.cell? ⟨w5.heap.size, 4, none⟩ = some (.bool f) ∧ Below w6.heap.size w6 W) (with_reducible assumption) (first
        | (go_at_call 17; refine (same_any w6.drew w6.heap.size w6.heap.size xrA xsA xrn xsn ([] : List Int) hRm (Nat.le_refl _) (Nat.le_refl _) RI_xr.out.il RI_xs.out.il).mono ?_; rintro e u1 ⟨rfl, hb1⟩; have S1 := keep15 (by with_reducible assumption) hb1)
        | (go_at_call 12; refine (doorI_any _ k s l o f).mono ?_; rintro e u2 ⟨rfl, hb2⟩; rw [HOK.out]; have S2 := keep15 (by with_reducible assumption) hb2)
        | (go_at_call 18; refine (doorS_any _ k s l o f).mono ?_; rintro e u3 ⟨rfl, hb3⟩; rw [HOK.out]; have S3 := keep15 (by with_reducible assumption) hb3))
      all_goals (go_wp2_with fail)
      all_goals (go_meet; with_reducible exact ⟨rfl, S3.2.2.2.2.2.2.2.2.2.2.2.2.2.2.2⟩)
    case rest =>
      rename World => wz
      obtain ⟨rfl, hb⟩ := hcut; clear S00 S0 hld hlx hly
      have zd := ZDH.out; clear ZDH
      have zx := ZXH.out; clear ZXH
      have zy := ZYH.out; clear ZYH
      have zb := ZB.out; clear ZB
      have kk := OI.call RI_xa.out hb; clear RI_xa; have RI_xa := Lib.hid kk; clear kk
      have kk := OI.call RI_xr.out hb; clear RI_xr; have RI_xr := Lib.hid kk; clear kk
      have kk := OI.call RI_xs.out hb; clear RI_xs; have RI_xs := Lib.hid kk; clear kk
      have hswz := hb.size
      replace zd := has_call zd hb
      replace zx := has_call zx hb
      replace zy := has_call zy hb
      replace zb := bthen zb hb; clear hb
      clear zy RI_xr RI_xs
      have zdc0 := has_cell zd 0 rfl; have zdc1 := has_cell zd 1 rfl; have zdc2 := has_cell zd 2 rfl; have zdc3 := has_cell zd 3 rfl; have zdc4 := has_cell zd 4 rfl
      have zdlt := has_lt zd
      have zxc0 := has_cell zx 0 rfl; have zxc1 := has_cell zx 1 rfl; have zxc2 := has_cell zx 2 rfl; have zxc3 := has_cell zx 3 rfl; have zxc4 := has_cell zx 4 rfl
      have zxlt := has_lt zx
      have ZDH := Lib.hid zd; clear zd
      have ZXH := Lib.hid zx; clear zx
      have ZB := Lib.hid zb; clear zb
      (try go_step)
      go_wp2_with fail
      clear zdc0 zdc1 zdc2 zdc3 zdc4 zdlt zxc0 zxc1 zxc2 zxc3 zxc4 zxlt
      have zd := ZDH.out; clear ZDH
      have zx := ZXH.out; clear ZXH
      have zb := ZB.out; clear ZB
      refine (doorS_any _ k s l o f).mono ?_
      rintro e w41 ⟨rfl, hb⟩
      rw [HOK.out]
      have kk := OI.call RI_xa.out hb; clear RI_xa; have RI_xa := Lib.hid kk; clear kk
      have hsw41 := hb.size
      replace zd := has_call zd hb
      replace zx := has_call zx hb
      replace zb := bthen zb hb; clear hb
      have hl2 : (200 : Int) < L.length := by omega
      have zdc0 := has_cell zd 0 rfl; have zdc1 := has_cell zd 1 rfl; have zdc2 := has_cell zd 2 rfl; have zdc3 := has_cell zd 3 rfl; have zdc4 := has_cell zd 4 rfl
      have zdlt := has_lt zd
      have zxc0 := has_cell zx 0 rfl; have zxc1 := has_cell zx 1 rfl; have zxc2 := has_cell zx 2 rfl; have zxc3 := has_cell zx 3 rfl; have zxc4 := has_cell zx 4 rfl
      have zxlt := has_lt zx
      have ZDH := Lib.hid zd; clear zd
      have ZXH := Lib.hid zx; clear zx
      have ZB := Lib.hid zb; clear zb
      go_wp2_with fail
      go_ret
      exact ⟨rfl, ZB.out⟩
  · skip
    clear hk
    obtain ⟨k', s', l', o', f', R, hX⟩ : ∃ k' s' l' o' f' R, doActs ⟨k, s, l, o, f⟩ L = (⟨k', s', l', o', f'⟩, R) := ⟨_, _, _, _, _, _, rfl⟩
    have hRm : R.length ≤ maxLen := by have h7 := doActs_len ⟨k, s, l, o, f⟩ L; rw [hX] at h7; exact Nat.le_trans h7 lf
    have HX := Lib.hid hX; clear hX
    obtain ⟨hok, hlen⟩ := hok; have HOK := Lib.hid hok; clear hok
    have zb := hb1; clear hb1
    have RI_xa := Lib.hid (OI.of_or hor); clear hor
    go_wp2_with fail
    generalize hX : (w1.alloc (.cells #[.int .i64 k, .int .i64 s, .bool l, .bool o, .bool f] 27)) = w2
    have hb : Below w1.heap.size w1 w2 := by rw [← hX]; exact balloc _ _
    have hk : Has w2 w1.heap.size 27 #[.int .i64 k, .int .i64 s, .bool l, .bool o, .bool f] := by rw [← hX]; exact has_new _ _ _
    clear hX
    have kk := OI.call RI_xa.out hb; clear RI_xa; have RI_xa := Lib.hid kk; clear kk
    have hsw2 := hb.size
    replace zb := bthen zb hb; clear hb
    have zd := hk; clear hk; have hlzd := has_lt zd
    refine (doaI_any _ w2.heap.size k s l o f A1 c1 L lf (Nat.le_refl _) RI_xa.out.il).mono ?_
    rintro e w3 hans
    obtain ⟨xrA, xrn, rfl, hP, hb⟩ := doa_open HX.out hans; clear hans
    have kk := OI.call RI_xa.out hb; clear RI_xa; have RI_xa := Lib.hid kk; clear kk
    have hsw3 := hb.size
    replace zd := has_call zd hb
    replace zb := bthen zb hb; clear hb
    have RI_xr := Lib.hid (OI.of_or hP); clear hP
    have zdc0 := has_cell zd 0 rfl; have zdc1 := has_cell zd 1 rfl; have zdc2 := has_cell zd 2 rfl; have zdc3 := has_cell zd 3 rfl; have zdc4 := has_cell zd 4 rfl
    have zdlt := has_lt zd
    have ZDH := Lib.hid zd; clear zd
    have ZB := Lib.hid zb; clear zb
    go_wp2_with fail
    clear zdc0 zdc1 zdc2 zdc3 zdc4 zdlt
    have zd := ZDH.out; clear ZDH
    have zb := ZB.out; clear ZB
    generalize hX : (w3.alloc (.cells #[.int .i64 k', .int .i64 s', .bool l', .bool o', .bool f'] 27)) = w4
    have hb : Below w3.heap.size w3 w4 := by rw [← hX]; exact balloc _ _
    have hk : Has w4 w3.heap.size 27 #[.int .i64 k', .int .i64 s', .bool l', .bool o', .bool f'] := by rw [← hX]; exact has_new _ _ _
    clear hX
    have kk := OI.call RI_xa.out hb; clear RI_xa; have RI_xa := Lib.hid kk; clear kk
    have kk := OI.call RI_xr.out hb; clear RI_xr; have RI_xr := Lib.hid kk; clear kk
    have hsw4 := hb.size
    replace zd := has_call zd hb
    replace zb := bthen zb hb; clear hb
    have zx := hk; clear hk; have hlzx := has_lt zx
    refine (doaS_any _ w4.heap.size k s l o f A1 c1 L lf (Nat.le_refl _) RI_xa.out.il).mono ?_
    rintro e w5 hans
    obtain ⟨xsA, xsn, rfl, hP, hb⟩ := doa_open HX.out hans; clear hans
    have kk := OI.call RI_xa.out hb; clear RI_xa; have RI_xa := Lib.hid kk; clear kk
    have kk := OI.call RI_xr.out hb; clear RI_xr; have RI_xr := Lib.hid kk; clear kk
    have hsw5 := hb.size
    replace zd := has_call zd hb
    replace zx := has_call zx hb
    replace zb := bthen zb hb; clear hb
    have RI_xs := Lib.hid (OI.of_or hP); clear hP
    have zdc0 := has_cell zd 0 rfl; have zdc1 := has_cell zd 1 rfl; have zdc2 := has_cell zd 2 rfl; have zdc3 := has_cell zd 3 rfl; have zdc4 := has_cell zd 4 rfl
    have zdlt := has_lt zd
    have zxc0 := has_cell zx 0 rfl; have zxc1 := has_cell zx 1 rfl; have zxc2 := has_cell zx 2 rfl; have zxc3 := has_cell zx 3 rfl; have zxc4 := has_cell zx 4 rfl
    have zxlt := has_lt zx
    have ZDH := Lib.hid zd; clear zd
    have ZXH := Lib.hid zx; clear zx
    have ZB := Lib.hid zb; clear zb
    go_upto_region 6 with fail
    clear zdc0 zdc1 zdc2 zdc3 zdc4 zdlt zxc0 zxc1 zxc2 zxc3 zxc4 zxlt
    have zd := ZDH.out; clear ZDH
    have zx := ZXH.out; clear ZXH
    have zb := ZB.out; clear ZB
    generalize hX : (w5.alloc (.cells #[.int .i64 k', .int .i64 s', .bool l', .bool o', .bool f'] 27)) = w6
    have hb : Below w5.heap.size w5 w6 := by rw [← hX]; exact balloc _ _
    have hk : Has w6 w5.heap.size 27 #[.int .i64 k', .int .i64 s', .bool l', .bool o', .bool f'] := by rw [← hX]; exact has_new _ _ _
    clear hX
    have kk := OI.call RI_xa.out hb; clear RI_xa; have RI_xa := Lib.hid kk; clear kk
    have kk := OI.call RI_xr.out hb; clear RI_xr; have RI_xr := Lib.hid kk; clear kk
    have kk := OI.call RI_xs.out hb; clear RI_xs; have RI_xs := Lib.hid kk; clear kk
    have hsw6 := hb.size
    replace zd := has_call zd hb
    replace zx := has_call zx hb
    replace zb := bthen zb hb; clear hb
    have zy := hk; clear hk; have hlzy := has_lt zy
    have hld := has_lt zd; have hlx := has_lt zx; have hly := has_lt zy
    have S00 : (fun W : World => W.cell? ⟨w1.heap.size, 0, none⟩ = some (.int .i64 k) ∧ W.cell? ⟨w1.heap.size, 1, none⟩ = some (.int .i64 s) ∧ W.cell? ⟨w1.heap.size, 2, none⟩ = some (.bool l) ∧ W.cell? ⟨w1.heap.size, 3, none⟩ = some (.bool o) ∧ W.cell? ⟨w1.heap.size, 4, none⟩ = some (.bool f) ∧ W.cell? ⟨w3.heap.size, 0, none⟩ = some (.int .i64 k') ∧ W.cell? ⟨w3.heap.size, 1, none⟩ = some (.int .i64 s') ∧ W.cell? ⟨w3.heap.size, 2, none⟩ = some (.bool l') ∧ W.cell? ⟨w3.heap.size, 3, none⟩ = some (.bool o') ∧ W.cell? ⟨w3.heap.size, 4, none⟩ = some (.bool f') ∧ W.cell? ⟨w5.heap.size, 0, none⟩ = some (.int .i64 k') ∧ W.cell? ⟨w5.heap.size, 1, none⟩ = some (.int .i64 s') ∧ W.cell? ⟨w5.heap.size, 2, none⟩ = some (.bool l') ∧ W.cell? ⟨w5.heap.size, 3, none⟩ = some (.bool o') ∧ W.cell? ⟨w5.heap.size, 4, none⟩ = some (.bool f') ∧ Below w6.heap.size w6 W) w6 := ⟨has_cell zd 0 rfl, has_cell zd 1 rfl, has_cell zd 2 rfl, has_cell zd 3 rfl, has_cell zd 4 rfl, has_cell zx 0 rfl, has_cell zx 1 rfl, has_cell zx 2 rfl, has_cell zx 3 rfl, has_cell zx 4 rfl, has_cell zy 0 rfl, has_cell zy 1 rfl, has_cell zy 2 rfl, has_cell zy 3 rfl, has_cell zy 4 rfl, Below.refl _ _⟩
    have S0 : (fun W : World => W.cell? ⟨w1.heap.size, 0, none⟩ = some (.int .i64 k) ∧ W.cell? ⟨w1.heap.size, 1, none⟩ = some (.int .i64 s) ∧ W.cell? ⟨w1.heap.size, 2, none⟩ = some (.bool l) ∧ W.cell? ⟨w1.heap.size, 3, none⟩ = some (.bool o) ∧ W.cell? ⟨w1.heap.size, 4, none⟩ = some (.bool f) ∧ W.cell? ⟨w3.heap.size, 0, none⟩ = some (.int .i64 k') ∧ W.cell? ⟨w3.heap.size, 1, none⟩ = some (.int .i64 s') ∧ W.cell? ⟨w3.heap.size, 2, none⟩ = some (.bool l') ∧ W.cell? ⟨w3.heap.size, 3, none⟩ = some (.bool o') ∧ W.cell? ⟨w3.heap.size, 4, none⟩ = some (.bool f') ∧ W.cell? ⟨w5.heap.size, 0, none⟩ = some (.int .i64 k') ∧ W.cell? ⟨w5.heap.size, 1, none⟩ = some (.int .i64 s') ∧ W.cell? ⟨w5.heap.size, 2, none⟩ = some (.bool l') ∧ W.cell? ⟨w5.heap.size, 3, none⟩ = some (.bool o') ∧ W.cell? ⟨w5.heap.size, 4, none⟩ = some (.bool f') ∧ Below w6.heap.size w6 W) w6.drew := ⟨has_cell zd 0 rfl, has_cell zd 1 rfl, has_cell zd 2 rfl, has_cell zd 3 rfl, has_cell zd 4 rfl, has_cell zx 0 rfl, has_cell zx 1 rfl, has_cell zx 2 rfl, has_cell zx 3 rfl, has_cell zx 4 rfl, has_cell zy 0 rfl, has_cell zy 1 rfl, has_cell zy 2 rfl, has_cell zy 3 rfl, has_cell zy 4 rfl, (Below.refl _ _).drew⟩
    have ZDH := Lib.hid zd; clear zd
    have ZXH := Lib.hid zx; clear zx
    have ZYH := Lib.hid zy; clear zy
    have ZB := Lib.hid zb; clear zb
    go_cut [48] (fun p W => p = .bool false ∧ Below w6.heap.size w6 W)
    case first =>
      go_region_held3 (fun W : World => W.cell? ⟨w1.heap.size, 0, none⟩ = some (.int .i64 k) ∧ W.cell? ⟨w1.heap.size, 1, none⟩ = some (.int .i64 s) ∧ W.cell? ⟨w1.heap.size, 2, none⟩ = some (.bool l) ∧ W.cell? ⟨w1.heap.size, 3, none⟩ = some (.bool o) ∧ W.cell? ⟨w1.heap.size, 4, none⟩ = some (.bool f) ∧ W.cell? ⟨w3.heap.size, 0, none⟩ = some (.int .i64 k') ∧ W.cell? ⟨w3.heap.size, 1, none⟩ = some (.int .i64 s') ∧ W.cell? ⟨w3.heap.size, 2, none⟩ = some (.bool l') ∧ W.cell? ⟨w3.heap.size, 3, none⟩ = some (.bool o') ∧ W.cell? ⟨w3.heap.size, 4, none⟩ = some (.bool f') ∧ W.cell? ⟨w5.heap.size, 0, none⟩ = some (.int .i64 k') ∧ W.cell? ⟨w5.heap.size, 1, none⟩ = some (.int .i64 s') ∧ W.cell? ⟨w5.heap.size, 2, none⟩ = some (.bool l') ∧ W.cell? ⟨w5.heap.size, 3, none⟩ = some (.bool o') ∧ W.cell? ⟨w5.heap.size, 4, none⟩ = some (.bool f') ∧ Below w6.heap.size w6 W) (with_reducible assumption) (first
        | (go_at_call 17; refine (same_any w6.drew w6.heap.size w6.heap.size xrA xsA xrn xsn R hRm (Nat.le_refl _) (Nat.le_refl _) RI_xr.out.il RI_xs.out.il).mono ?_; rintro e u1 ⟨rfl, hb1⟩; have S1 := keep15 (by with_reducible assumption) hb1)
        | (go_at_call 12; refine (doorI_any _ k s l o f).mono ?_; rintro e u2 ⟨rfl, hb2⟩; rw [HOK.out]; have S2 := keep15 (by with_reducible assumption) hb2)
        | (go_at_call 18; refine (doorS_any _ k s l o f).mono ?_; rintro e u3 ⟨rfl, hb3⟩; rw [HOK.out]; have S3 := keep15 (by with_reducible assumption) hb3))
      all_goals (go_wp2_with fail)
      all_goals (go_meet; with_reducible exact ⟨rfl, S3.2.2.2.2.2.2.2.2.2.2.2.2.2.2.2⟩)
    case rest =>
      rename World => wz
      obtain ⟨rfl, hb⟩ := hcut; clear S00 S0 hld hlx hly
      have zd := ZDH.out; clear ZDH
      have zx := ZXH.out; clear ZXH
      have zy := ZYH.out; clear ZYH
      have zb := ZB.out; clear ZB
      have kk := OI.call RI_xa.out hb; clear RI_xa; have RI_xa := Lib.hid kk; clear kk
      have kk := OI.call RI_xr.out hb; clear RI_xr; have RI_xr := Lib.hid kk; clear kk
      have kk := OI.call RI_xs.out hb; clear RI_xs; have RI_xs := Lib.hid kk; clear kk
      have hswz := hb.size
      replace zd := has_call zd hb
      replace zx := has_call zx hb
      replace zy := has_call zy hb
      replace zb := bthen zb hb; clear hb
      clear zy RI_xr RI_xs
      have zdc0 := has_cell zd 0 rfl; have zdc1 := has_cell zd 1 rfl; have zdc2 := has_cell zd 2 rfl; have zdc3 := has_cell zd 3 rfl; have zdc4 := has_cell zd 4 rfl
      have zdlt := has_lt zd
      have zxc0 := has_cell zx 0 rfl; have zxc1 := has_cell zx 1 rfl; have zxc2 := has_cell zx 2 rfl; have zxc3 := has_cell zx 3 rfl; have zxc4 := has_cell zx 4 rfl
      have zxlt := has_lt zx
      have ZDH := Lib.hid zd; clear zd
      have ZXH := Lib.hid zx; clear zx
      have ZB := Lib.hid zb; clear zb
      (try go_step)
      go_wp2_with fail
      clear zdc0 zdc1 zdc2 zdc3 zdc4 zdlt zxc0 zxc1 zxc2 zxc3 zxc4 zxlt
      have zd := ZDH.out; clear ZDH
      have zx := ZXH.out; clear ZXH
      have zb := ZB.out; clear ZB
      refine (doorS_any _ k s l o f).mono ?_
      rintro e w41 ⟨rfl, hb⟩
      rw [HOK.out]
      have kk := OI.call RI_xa.out hb; clear RI_xa; have RI_xa := Lib.hid kk; clear kk
      have hsw41 := hb.size
      replace zd := has_call zd hb
      replace zx := has_call zx hb
      replace zb := bthen zb hb; clear hb
      have hl2 : ¬ (200 : Int) < L.length := by omega
      have zdc0 := has_cell zd 0 rfl; have zdc1 := has_cell zd 1 rfl; have zdc2 := has_cell zd 2 rfl; have zdc3 := has_cell zd 3 rfl; have zdc4 := has_cell zd 4 rfl
      have zdlt := has_lt zd
      have zxc0 := has_cell zx 0 rfl; have zxc1 := has_cell zx 1 rfl; have zxc2 := has_cell zx 2 rfl; have zxc3 := has_cell zx 3 rfl; have zxc4 := has_cell zx 4 rfl
      have zxlt := has_lt zx
      have ZDH := Lib.hid zd; clear zd
      have ZXH := Lib.hid zx; clear zx
      have ZB := Lib.hid zb; clear zb
      go_wp2_with fail
      clear zdc0 zdc1 zdc2 zdc3 zdc4 zdlt zxc0 zxc1 zxc2 zxc3 zxc4 zxlt
      have zd := ZDH.out; clear ZDH
      have zx := ZXH.out; clear ZXH
      have zb := ZB.out; clear ZB
      clear zx hl2
      have ST : Hid (Has w41 (w1.heap.size) 27 #[.int .i64 k, .int .i64 s, .bool l, .bool o, .bool f] ∧ OI w41 w.heap.size w1.heap.size 3 A1 (intV L) ∧ Below w.heap.size w w41) := Lib.hid ⟨zd, RI_xa.out, zb⟩; clear zd RI_xa zb
      go_loopw [9] (fun iv wr => ∃ (n : Nat) (d : Dr), n ≤ L.length ∧ iv = .int .i64 n ∧ d.ok = true ∧ Has wr (w1.heap.size) 27 d.A ∧ OI wr w.heap.size w1.heap.size 3 A1 (intV L) ∧ Below w.heap.size w wr) (fun iv _ => L.length - (intOf iv).toNat)
      case atStart => exact ⟨0, ⟨k, s, l, o, f⟩, Nat.zero_le _, rfl, HOK.out, ST.out.1, ST.out.2.1, ST.out.2.2⟩
      case round =>
        obtain ⟨n, ⟨k1, s1, l1, o1, f1⟩, hn, rfl, hok, hy, hra, zb⟩ := hrel; clear ST
        have zd : Has wr (w1.heap.size) 27 #[.int .i64 k1, .int .i64 s1, .bool l1, .bool o1, .bool f1] := hy; clear hy
        have hszd := has_lt zd; have hszw := zb.size
        have HRA := Lib.hid hra; clear hra
        by_cases hlt : n < L.length
        · have hltI : (n : Int) < L.length := by omega
          obtain ⟨b, off, x, rfl, hbB, hx, hc0⟩ := HRA.out.il.at_ hlt
          have zdc0 := has_cell zd 0 rfl; have zdc1 := has_cell zd 1 rfl; have zdc2 := has_cell zd 2 rfl; have zdc3 := has_cell zd 3 rfl; have zdc4 := has_cell zd 4 rfl
          have zdlt := has_lt zd
          have ZDH := Lib.hid zd; clear zd
          have ZB := Lib.hid zb; clear zb
          go_upto_region 13 with fail
          clear zdc0 zdc1 zdc2 zdc3 zdc4 zdlt
          have zd := ZDH.out; clear ZDH
          have zb := ZB.out; clear ZB
          have hgl := has_lt zd; have hbw : b < wr.heap.size := by have := hszw; omega
          have HDD := Lib.hid hok; clear hok
          obtain ⟨k2, s2, l2, o2, f2, R2, hX2⟩ : ∃ k2 s2 l2 o2 f2 R2, doActs ⟨k1, s1, l1, o1, f1⟩ [x] = (⟨k2, s2, l2, o2, f2⟩, R2) := ⟨_, _, _, _, _, _, rfl⟩
          have hok2 : doorB k2 s2 l2 o2 f2 = true := by have := doActs_ok HDD.out [x]; rw [hX2] at this; exact this
          have hful : (f2 == f1 || o1) = true := by have := one_full HDD.out x; rw [hX2] at this; exact this
          have HX2 := Lib.hid hX2; have HOK2 := Lib.hid hok2; have HFU := Lib.hid hful; clear hX2 hok2 hful hx
          have ZDH := Lib.hid zd; have ZB := Lib.hid zb; have HC0 := Lib.hid hc0; clear zd zb hc0
          have hgl13 := has_lt ZDH.out; have hbw13 : b < wr.heap.size := by omega
          have S00 : (fun W : World => (W.cell? ⟨w1.heap.size, 0, none⟩ = some (.int .i64 k1) ∧ W.cell? ⟨w1.heap.size, 1, none⟩ = some (.int .i64 s1) ∧ W.cell? ⟨w1.heap.size, 2, none⟩ = some (.bool l1) ∧ W.cell? ⟨w1.heap.size, 3, none⟩ = some (.bool o1) ∧ W.cell? ⟨w1.heap.size, 4, none⟩ = some (.bool f1) ∧ W.cell? ⟨b, off + n, none⟩ = some (.int .i64 x)) ∧ Below wr.heap.size wr W) wr := ⟨⟨has_cell ZDH.out 0 rfl, has_cell ZDH.out 1 rfl, has_cell ZDH.out 2 rfl, has_cell ZDH.out 3 rfl, has_cell ZDH.out 4 rfl, HC0.out⟩, Below.refl _ _⟩
          have S0 : (fun W : World => (W.cell? ⟨w1.heap.size, 0, none⟩ = some (.int .i64 k1) ∧ W.cell? ⟨w1.heap.size, 1, none⟩ = some (.int .i64 s1) ∧ W.cell? ⟨w1.heap.size, 2, none⟩ = some (.bool l1) ∧ W.cell? ⟨w1.heap.size, 3, none⟩ = some (.bool o1) ∧ W.cell? ⟨w1.heap.size, 4, none⟩ = some (.bool f1) ∧ W.cell? ⟨b, off + n, none⟩ = some (.int .i64 x)) ∧ Below wr.heap.size wr W) wr.drew := ⟨⟨has_cell ZDH.out 0 rfl, has_cell ZDH.out 1 rfl, has_cell ZDH.out 2 rfl, has_cell ZDH.out 3 rfl, has_cell ZDH.out 4 rfl, HC0.out⟩, (Below.refl _ _).drew⟩
          have q1 : (0 : Int) ≤ (n : Int) := Int.natCast_nonneg n; have q2 : (n : Int) ≤ (n : Int) + 1 := (by omega); have q3 : (n : Int) + 1 ≤ (c1 : Int) := (by omega); have q4 : IntKind.i64.wrap ((n : Int) + 1) = (n : Int) + 1 := IntWalk.i64_in _ (by omega); have q5 : (0 : Int) ≤ (n : Int) + 1 := (by omega); have q6 : ¬ c1 = n := (by omega)
          go_cut [10] (fun p W => CutAct k2 s2 l2 o2 f2 wr p W)
          case first =>
            clear S00 S0
            have zdd0 := has_cell (has_drew ZDH.out) 0 rfl; have zde0 := has_cell ZDH.out 0 rfl; have zdf0 := has_cell (has_drew (has_alloc ZDH.out (.cells #[.int .i64 0, .int .i64 0, .bool false, .bool false, .bool false] 27))) 0 rfl; have zdd1 := has_cell (has_drew ZDH.out) 1 rfl; have zde1 := has_cell ZDH.out 1 rfl; have zdf1 := has_cell (has_drew (has_alloc ZDH.out (.cells #[.int .i64 0, .int .i64 0, .bool false, .bool false, .bool false] 27))) 1 rfl; have zdd2 := has_cell (has_drew ZDH.out) 2 rfl; have zde2 := has_cell ZDH.out 2 rfl; have zdf2 := has_cell (has_drew (has_alloc ZDH.out (.cells #[.int .i64 0, .int .i64 0, .bool false, .bool false, .bool false] 27))) 2 rfl; have zdd3 := has_cell (has_drew ZDH.out) 3 rfl; have zde3 := has_cell ZDH.out 3 rfl; have zdf3 := has_cell (has_drew (has_alloc ZDH.out (.cells #[.int .i64 0, .int .i64 0, .bool false, .bool false, .bool false] 27))) 3 rfl; have zdd4 := has_cell (has_drew ZDH.out) 4 rfl; have zde4 := has_cell ZDH.out 4 rfl; have zdf4 := has_cell (has_drew (has_alloc ZDH.out (.cells #[.int .i64 0, .int .i64 0, .bool false, .bool false, .bool false] 27))) 4 rfl
            have HI1 := Lib.hid (show Calls Try.prog 15 #[.agg #[.int .i64 k1, .int .i64 s1, .bool l1, .bool o1, .bool f1], .slice (some ⟨b, off + n, none⟩) 1 (c1 - n)] wr.drew (DoaAns (doActs ⟨k1, s1, l1, o1, f1⟩ [x]) wr.drew) from doaI_any wr.drew wr.drew.heap.size k1 s1 l1 o1 f1 (some ⟨b, off + n, none⟩) (c1 - n) [x] (by unfold maxLen; simp) (Nat.le_refl _) (il_one (w := wr.drew) hbw13 HC0.out))
            have HI2 := Lib.hid (show Calls Try.prog 15 #[.agg #[.int .i64 k1, .int .i64 s1, .bool l1, .bool o1, .bool f1], .slice (some ⟨b, off + n, none⟩) 1 (c1 - n)] (wr.alloc (.cells #[.int .i64 0, .int .i64 0, .bool false, .bool false, .bool false] 27)).drew (DoaAns (doActs ⟨k1, s1, l1, o1, f1⟩ [x]) (wr.alloc (.cells #[.int .i64 0, .int .i64 0, .bool false, .bool false, .bool false] 27)).drew) from doaI_any (wr.alloc (.cells #[.int .i64 0, .int .i64 0, .bool false, .bool false, .bool false] 27)).drew (wr.alloc (.cells #[.int .i64 0, .int .i64 0, .bool false, .bool false, .bool false] 27)).drew.heap.size k1 s1 l1 o1 f1 (some ⟨b, off + n, none⟩) (c1 - n) [x] (by unfold maxLen; simp) (Nat.le_refl _) (il_one (w := (wr.alloc (.cells #[.int .i64 0, .int .i64 0, .bool false, .bool false, .bool false] 27)).drew) (Nat.lt_of_lt_of_le hbw13 (balloc wr _).size) (ccall HC0.out (balloc wr _).drew)))
            go_region_with (go_at_call 15; first
              | ((with_reducible refine HI1.out.mono ?_); rintro e u3 hans; obtain ⟨A7, c7, rfl, -, hb3⟩ := doa_open HX2.out hans; clear hans; have HB3 := Lib.hid (((Below.refl wr.heap.size wr).drew).trans hb3); have hsu := HB3.out.size; clear hb3)
              | ((with_reducible refine HI2.out.mono ?_); rintro e u3 hans; obtain ⟨A7, c7, rfl, -, hb3⟩ := doa_open HX2.out hans; clear hans; have mz := has_call (has_drew (has_new wr 27 #[.int .i64 0, .int .i64 0, .bool false, .bool false, .bool false])) hb3; have z0 := has_cell mz 0 rfl; have f10 := has_free mz 0; have z1 := has_cell mz 1 rfl; have f11 := has_free mz 1; have z2 := has_cell mz 2 rfl; have f12 := has_free mz 2; have z3 := has_cell mz 3 rfl; have f13 := has_free mz 3; have z4 := has_cell mz 4 rfl; have f14 := has_free mz 4; have ltz := has_lt mz; have MZ := Lib.hid mz; have HB3 := Lib.hid (((balloc wr _).drew).trans (hb3.mono (balloc wr _).size)); have hsu := HB3.out.size; clear hb3 mz))
            all_goals (go_wp2_with fail)
            all_goals (go_meet; unfold CutAct; first | with_reducible exact ⟨_, rfl, hsu, has_new _ _ _, HB3.out.alloc hsu _⟩ | with_reducible exact ⟨_, rfl, Nat.le_refl _, hset5 MZ.out _ _ _ _ _, bset5 (Nat.le_refl _) _ _ _ _ _ HB3.out⟩)
          case rest =>
            rename World => wp
            obtain ⟨gzx, rfl, hgzx, zx, hb⟩ := hcut
            clear S00 S0 q1 q2 q3 q4 q5 q6
            have zd := has_call ZDH.out hb; have zb := bthen ZB.out hb; have hc0 : wp.cell? ⟨b, off + n, none⟩ = some (.int .i64 x) := ccall HC0.out hb; have hsp := hb.size
            have hra := OI.call HRA.out hb; clear HRA ZDH ZB HC0 hb; have HRA := Lib.hid hra; have ZDH := Lib.hid zd; have ZB := Lib.hid zb; have HC0 := Lib.hid hc0; have ZXH := Lib.hid zx; clear hra zd zb hc0 zx
            (try go_step)
            go_upto_region 14 with fail
            have hgl14 := has_lt ZDH.out; have hbw14 : b < wp.heap.size := by omega
            have S00 : (fun W : World => (W.cell? ⟨w1.heap.size, 0, none⟩ = some (.int .i64 k1) ∧ W.cell? ⟨w1.heap.size, 1, none⟩ = some (.int .i64 s1) ∧ W.cell? ⟨w1.heap.size, 2, none⟩ = some (.bool l1) ∧ W.cell? ⟨w1.heap.size, 3, none⟩ = some (.bool o1) ∧ W.cell? ⟨w1.heap.size, 4, none⟩ = some (.bool f1) ∧ W.cell? ⟨b, off + n, none⟩ = some (.int .i64 x)) ∧ Below wp.heap.size wp W) wp := ⟨⟨has_cell ZDH.out 0 rfl, has_cell ZDH.out 1 rfl, has_cell ZDH.out 2 rfl, has_cell ZDH.out 3 rfl, has_cell ZDH.out 4 rfl, HC0.out⟩, Below.refl _ _⟩
            have S0 : (fun W : World => (W.cell? ⟨w1.heap.size, 0, none⟩ = some (.int .i64 k1) ∧ W.cell? ⟨w1.heap.size, 1, none⟩ = some (.int .i64 s1) ∧ W.cell? ⟨w1.heap.size, 2, none⟩ = some (.bool l1) ∧ W.cell? ⟨w1.heap.size, 3, none⟩ = some (.bool o1) ∧ W.cell? ⟨w1.heap.size, 4, none⟩ = some (.bool f1) ∧ W.cell? ⟨b, off + n, none⟩ = some (.int .i64 x)) ∧ Below wp.heap.size wp W) wp.drew := ⟨⟨has_cell ZDH.out 0 rfl, has_cell ZDH.out 1 rfl, has_cell ZDH.out 2 rfl, has_cell ZDH.out 3 rfl, has_cell ZDH.out 4 rfl, HC0.out⟩, (Below.refl _ _).drew⟩
            have q1 : (0 : Int) ≤ (n : Int) := Int.natCast_nonneg n; have q2 : (n : Int) ≤ (n : Int) + 1 := (by omega); have q3 : (n : Int) + 1 ≤ (c1 : Int) := (by omega); have q4 : IntKind.i64.wrap ((n : Int) + 1) = (n : Int) + 1 := IntWalk.i64_in _ (by omega); have q5 : (0 : Int) ≤ (n : Int) + 1 := (by omega); have q6 : ¬ c1 = n := (by omega)
            go_cut [12] (fun p W => CutAct k2 s2 l2 o2 f2 wp p W)
            case first =>
              clear S00 S0
              have zdd0 := has_cell (has_drew ZDH.out) 0 rfl; have zde0 := has_cell ZDH.out 0 rfl; have zdf0 := has_cell (has_drew (has_alloc ZDH.out (.cells #[.int .i64 0, .int .i64 0, .bool false, .bool false, .bool false] 27))) 0 rfl; have zdd1 := has_cell (has_drew ZDH.out) 1 rfl; have zde1 := has_cell ZDH.out 1 rfl; have zdf1 := has_cell (has_drew (has_alloc ZDH.out (.cells #[.int .i64 0, .int .i64 0, .bool false, .bool false, .bool false] 27))) 1 rfl; have zdd2 := has_cell (has_drew ZDH.out) 2 rfl; have zde2 := has_cell ZDH.out 2 rfl; have zdf2 := has_cell (has_drew (has_alloc ZDH.out (.cells #[.int .i64 0, .int .i64 0, .bool false, .bool false, .bool false] 27))) 2 rfl; have zdd3 := has_cell (has_drew ZDH.out) 3 rfl; have zde3 := has_cell ZDH.out 3 rfl; have zdf3 := has_cell (has_drew (has_alloc ZDH.out (.cells #[.int .i64 0, .int .i64 0, .bool false, .bool false, .bool false] 27))) 3 rfl; have zdd4 := has_cell (has_drew ZDH.out) 4 rfl; have zde4 := has_cell ZDH.out 4 rfl; have zdf4 := has_cell (has_drew (has_alloc ZDH.out (.cells #[.int .i64 0, .int .i64 0, .bool false, .bool false, .bool false] 27))) 4 rfl
              have HI1 := Lib.hid (show Calls Try.prog 16 #[.agg #[.int .i64 k1, .int .i64 s1, .bool l1, .bool o1, .bool f1], .slice (some ⟨b, off + n, none⟩) 1 (c1 - n)] wp.drew (DoaAns (doActs ⟨k1, s1, l1, o1, f1⟩ [x]) wp.drew) from doaS_any wp.drew wp.drew.heap.size k1 s1 l1 o1 f1 (some ⟨b, off + n, none⟩) (c1 - n) [x] (by unfold maxLen; simp) (Nat.le_refl _) (il_one (w := wp.drew) hbw14 HC0.out))
              have HI2 := Lib.hid (show Calls Try.prog 16 #[.agg #[.int .i64 k1, .int .i64 s1, .bool l1, .bool o1, .bool f1], .slice (some ⟨b, off + n, none⟩) 1 (c1 - n)] (wp.alloc (.cells #[.int .i64 0, .int .i64 0, .bool false, .bool false, .bool false] 27)).drew (DoaAns (doActs ⟨k1, s1, l1, o1, f1⟩ [x]) (wp.alloc (.cells #[.int .i64 0, .int .i64 0, .bool false, .bool false, .bool false] 27)).drew) from doaS_any (wp.alloc (.cells #[.int .i64 0, .int .i64 0, .bool false, .bool false, .bool false] 27)).drew (wp.alloc (.cells #[.int .i64 0, .int .i64 0, .bool false, .bool false, .bool false] 27)).drew.heap.size k1 s1 l1 o1 f1 (some ⟨b, off + n, none⟩) (c1 - n) [x] (by unfold maxLen; simp) (Nat.le_refl _) (il_one (w := (wp.alloc (.cells #[.int .i64 0, .int .i64 0, .bool false, .bool false, .bool false] 27)).drew) (Nat.lt_of_lt_of_le hbw14 (balloc wp _).size) (ccall HC0.out (balloc wp _).drew)))
              go_region_with (go_at_call 16; first
                | ((with_reducible refine HI1.out.mono ?_); rintro e u3 hans; obtain ⟨A7, c7, rfl, -, hb3⟩ := doa_open HX2.out hans; clear hans; have HB3 := Lib.hid (((Below.refl wp.heap.size wp).drew).trans hb3); have hsu := HB3.out.size; clear hb3)
                | ((with_reducible refine HI2.out.mono ?_); rintro e u3 hans; obtain ⟨A7, c7, rfl, -, hb3⟩ := doa_open HX2.out hans; clear hans; have mz := has_call (has_drew (has_new wp 27 #[.int .i64 0, .int .i64 0, .bool false, .bool false, .bool false])) hb3; have z0 := has_cell mz 0 rfl; have f10 := has_free mz 0; have z1 := has_cell mz 1 rfl; have f11 := has_free mz 1; have z2 := has_cell mz 2 rfl; have f12 := has_free mz 2; have z3 := has_cell mz 3 rfl; have f13 := has_free mz 3; have z4 := has_cell mz 4 rfl; have f14 := has_free mz 4; have ltz := has_lt mz; have MZ := Lib.hid mz; have HB3 := Lib.hid (((balloc wp _).drew).trans (hb3.mono (balloc wp _).size)); have hsu := HB3.out.size; clear hb3 mz))
              all_goals (go_wp2_with fail)
              all_goals (go_meet; unfold CutAct; first | with_reducible exact ⟨_, rfl, hsu, has_new _ _ _, HB3.out.alloc hsu _⟩ | with_reducible exact ⟨_, rfl, Nat.le_refl _, hset5 MZ.out _ _ _ _ _, bset5 (Nat.le_refl _) _ _ _ _ _ HB3.out⟩)
            case rest =>
              rename World => wo
              obtain ⟨gzy, rfl, hgzy, zy, hb⟩ := hcut
              clear S00 S0 q1 q2 q3 q4 q5 q6
              have hso := hb.size
              have zd := has_call ZDH.out hb; have zx := has_call ZXH.out hb; have zb := bthen ZB.out hb; have hra := OI.call HRA.out hb; clear HRA ZDH ZXH ZB HC0 hb; have HRA := Lib.hid hra; clear hra
              have zdc0 := has_cell zd 0 rfl; have zdc1 := has_cell zd 1 rfl; have zdc2 := has_cell zd 2 rfl; have zdc3 := has_cell zd 3 rfl; have zdc4 := has_cell zd 4 rfl
              have zdlt := has_lt zd
              have zxc0 := has_cell zx 0 rfl; have zxc1 := has_cell zx 1 rfl; have zxc2 := has_cell zx 2 rfl; have zxc3 := has_cell zx 3 rfl; have zxc4 := has_cell zx 4 rfl
              have zxlt := has_lt zx
              have zyc0 := has_cell zy 0 rfl; have zyc1 := has_cell zy 1 rfl; have zyc2 := has_cell zy 2 rfl; have zyc3 := has_cell zy 3 rfl; have zyc4 := has_cell zy 4 rfl
              have zylt := has_lt zy
              have ZDH := Lib.hid zd; clear zd
              have ZXH := Lib.hid zx; clear zx
              have ZYH := Lib.hid zy; clear zy
              have ZB := Lib.hid zb; clear zb
              (try go_step)
              go_wp2_with fail
              clear zdc0 zdc1 zdc2 zdc3 zdc4 zdlt zxc0 zxc1 zxc2 zxc3 zxc4 zxlt zyc0 zyc1 zyc2 zyc3 zyc4 zylt
              have zd := ZDH.out; clear ZDH
              have zx := ZXH.out; clear ZXH
              have zy := ZYH.out; clear ZYH
              have zb := ZB.out; clear ZB
              refine (doorI_any _ k2 s2 l2 o2 f2).mono ?_
              rintro e w61 ⟨rfl, hb⟩
              rw [HOK2.out]
              have hra := OI.call HRA.out hb; clear HRA; have HRA := Lib.hid hra; clear hra
              have hsw61 := hb.size
              replace zd := has_call zd hb
              replace zx := has_call zx hb
              replace zy := has_call zy hb
              replace zb := bthen zb hb; clear hb
              have hgd := hgzx; have hgd2 := hgzy
              have hful := HFU.out; clear HFU HDD
              have hbw1 : w.heap.size ≤ w1.heap.size := by omega
              cases f1
              · cases f2
                · skip
                  clear hful
                  have zdc0 := has_cell zd 0 rfl; have zdc1 := has_cell zd 1 rfl; have zdc2 := has_cell zd 2 rfl; have zdc3 := has_cell zd 3 rfl; have zdc4 := has_cell zd 4 rfl
                  have zdf0 := has_free zd 0; have zdf1 := has_free zd 1; have zdf2 := has_free zd 2; have zdf3 := has_free zd 3; have zdf4 := has_free zd 4
                  have zdlt := has_lt zd
                  have zxc0 := has_cell zx 0 rfl; have zxc1 := has_cell zx 1 rfl; have zxc2 := has_cell zx 2 rfl; have zxc3 := has_cell zx 3 rfl; have zxc4 := has_cell zx 4 rfl
                  have zxlt := has_lt zx
                  have zyc0 := has_cell zy 0 rfl; have zyc1 := has_cell zy 1 rfl; have zyc2 := has_cell zy 2 rfl; have zyc3 := has_cell zy 3 rfl; have zyc4 := has_cell zy 4 rfl
                  have zylt := has_lt zy
                  have ZDH := Lib.hid zd; clear zd
                  have ZXH := Lib.hid zx; clear zx
                  have ZYH := Lib.hid zy; clear zy
                  have ZB := Lib.hid zb; clear zb
                  go_wp2_with fail
                  clear zdc0 zdc1 zdc2 zdc3 zdc4 zdf0 zdf1 zdf2 zdf3 zdf4 zdlt zxc0 zxc1 zxc2 zxc3 zxc4 zxlt zyc0 zyc1 zyc2 zyc3 zyc4 zylt
                  have zd := ZDH.out; clear ZDH
                  have zx := ZXH.out; clear ZXH
                  have zy := ZYH.out; clear ZYH
                  have zb := ZB.out; clear ZB
                  go_roundw
                  case rel =>
                    refine ⟨n + 1, ⟨k2, s2, l2, o2, false⟩, by omega, by go_num, HOK2.out, ?_, ?_, ?_⟩
                    · exact hs5 zd _ _ _ _ _
                    · with_reducible exact oi_set5 HRA.out (Nat.le_refl _)
                    · with_reducible exact bs5 hbw1 _ _ _ _ _ zb
                  case measure => simp [intOf] <;> omega
                · skip
                  have ho1 : true = o1 := (by simpa using hful.symm)
                  subst ho1
                  clear hful
                  have zdc0 := has_cell zd 0 rfl; have zdc1 := has_cell zd 1 rfl; have zdc2 := has_cell zd 2 rfl; have zdc3 := has_cell zd 3 rfl; have zdc4 := has_cell zd 4 rfl
                  have zdf0 := has_free zd 0; have zdf1 := has_free zd 1; have zdf2 := has_free zd 2; have zdf3 := has_free zd 3; have zdf4 := has_free zd 4
                  have zdlt := has_lt zd
                  have zxc0 := has_cell zx 0 rfl; have zxc1 := has_cell zx 1 rfl; have zxc2 := has_cell zx 2 rfl; have zxc3 := has_cell zx 3 rfl; have zxc4 := has_cell zx 4 rfl
                  have zxlt := has_lt zx
                  have zyc0 := has_cell zy 0 rfl; have zyc1 := has_cell zy 1 rfl; have zyc2 := has_cell zy 2 rfl; have zyc3 := has_cell zy 3 rfl; have zyc4 := has_cell zy 4 rfl
                  have zylt := has_lt zy
                  have ZDH := Lib.hid zd; clear zd
                  have ZXH := Lib.hid zx; clear zx
                  have ZYH := Lib.hid zy; clear zy
                  have ZB := Lib.hid zb; clear zb
                  go_wp2_with fail
                  clear zdc0 zdc1 zdc2 zdc3 zdc4 zdf0 zdf1 zdf2 zdf3 zdf4 zdlt zxc0 zxc1 zxc2 zxc3 zxc4 zxlt zyc0 zyc1 zyc2 zyc3 zyc4 zylt
                  have zd := ZDH.out; clear ZDH
                  have zx := ZXH.out; clear ZXH
                  have zy := ZYH.out; clear ZYH
                  have zb := ZB.out; clear ZB
                  go_roundw
                  case rel =>
                    refine ⟨n + 1, ⟨k2, s2, l2, o2, true⟩, by omega, by go_num, HOK2.out, ?_, ?_, ?_⟩
                    · exact hs5 zd _ _ _ _ _
                    · with_reducible exact oi_set5 HRA.out (Nat.le_refl _)
                    · with_reducible exact bs5 hbw1 _ _ _ _ _ zb
                  case measure => simp [intOf] <;> omega
              · cases f2
                · skip
                  have ho1 : true = o1 := (by simpa using hful.symm)
                  subst ho1
                  clear hful
                  have zdc0 := has_cell zd 0 rfl; have zdc1 := has_cell zd 1 rfl; have zdc2 := has_cell zd 2 rfl; have zdc3 := has_cell zd 3 rfl; have zdc4 := has_cell zd 4 rfl
                  have zdf0 := has_free zd 0; have zdf1 := has_free zd 1; have zdf2 := has_free zd 2; have zdf3 := has_free zd 3; have zdf4 := has_free zd 4
                  have zdlt := has_lt zd
                  have zxc0 := has_cell zx 0 rfl; have zxc1 := has_cell zx 1 rfl; have zxc2 := has_cell zx 2 rfl; have zxc3 := has_cell zx 3 rfl; have zxc4 := has_cell zx 4 rfl
                  have zxlt := has_lt zx
                  have zyc0 := has_cell zy 0 rfl; have zyc1 := has_cell zy 1 rfl; have zyc2 := has_cell zy 2 rfl; have zyc3 := has_cell zy 3 rfl; have zyc4 := has_cell zy 4 rfl
                  have zylt := has_lt zy
                  have ZDH := Lib.hid zd; clear zd
                  have ZXH := Lib.hid zx; clear zx
                  have ZYH := Lib.hid zy; clear zy
                  have ZB := Lib.hid zb; clear zb
                  go_wp2_with fail
                  clear zdc0 zdc1 zdc2 zdc3 zdc4 zdf0 zdf1 zdf2 zdf3 zdf4 zdlt zxc0 zxc1 zxc2 zxc3 zxc4 zxlt zyc0 zyc1 zyc2 zyc3 zyc4 zylt
                  have zd := ZDH.out; clear ZDH
                  have zx := ZXH.out; clear ZXH
                  have zy := ZYH.out; clear ZYH
                  have zb := ZB.out; clear ZB
                  go_roundw
                  case rel =>
                    refine ⟨n + 1, ⟨k2, s2, l2, o2, false⟩, by omega, by go_num, HOK2.out, ?_, ?_, ?_⟩
                    · exact hs5 zd _ _ _ _ _
                    · with_reducible exact oi_set5 HRA.out (Nat.le_refl _)
                    · with_reducible exact bs5 hbw1 _ _ _ _ _ zb
                  case measure => simp [intOf] <;> omega
                · skip
                  clear hful
                  have zdc0 := has_cell zd 0 rfl; have zdc1 := has_cell zd 1 rfl; have zdc2 := has_cell zd 2 rfl; have zdc3 := has_cell zd 3 rfl; have zdc4 := has_cell zd 4 rfl
                  have zdf0 := has_free zd 0; have zdf1 := has_free zd 1; have zdf2 := has_free zd 2; have zdf3 := has_free zd 3; have zdf4 := has_free zd 4
                  have zdlt := has_lt zd
                  have zxc0 := has_cell zx 0 rfl; have zxc1 := has_cell zx 1 rfl; have zxc2 := has_cell zx 2 rfl; have zxc3 := has_cell zx 3 rfl; have zxc4 := has_cell zx 4 rfl
                  have zxlt := has_lt zx
                  have zyc0 := has_cell zy 0 rfl; have zyc1 := has_cell zy 1 rfl; have zyc2 := has_cell zy 2 rfl; have zyc3 := has_cell zy 3 rfl; have zyc4 := has_cell zy 4 rfl
                  have zylt := has_lt zy
                  have ZDH := Lib.hid zd; clear zd
                  have ZXH := Lib.hid zx; clear zx
                  have ZYH := Lib.hid zy; clear zy
                  have ZB := Lib.hid zb; clear zb
                  go_wp2_with fail
                  clear zdc0 zdc1 zdc2 zdc3 zdc4 zdf0 zdf1 zdf2 zdf3 zdf4 zdlt zxc0 zxc1 zxc2 zxc3 zxc4 zxlt zyc0 zyc1 zyc2 zyc3 zyc4 zylt
                  have zd := ZDH.out; clear ZDH
                  have zx := ZXH.out; clear ZXH
                  have zy := ZYH.out; clear ZYH
                  have zb := ZB.out; clear ZB
                  go_roundw
                  case rel =>
                    refine ⟨n + 1, ⟨k2, s2, l2, o2, true⟩, by omega, by go_num, HOK2.out, ?_, ?_, ?_⟩
                    · exact hs5 zd _ _ _ _ _
                    · with_reducible exact oi_set5 HRA.out (Nat.le_refl _)
                    · with_reducible exact bs5 hbw1 _ _ _ _ _ zb
                  case measure => simp [intOf] <;> omega
        have hil : n = L.length := by omega
        have hltI : ¬ (n : Int) < L.length := by omega
        have zdc0 := has_cell zd 0 rfl; have zdc1 := has_cell zd 1 rfl; have zdc2 := has_cell zd 2 rfl; have zdc3 := has_cell zd 3 rfl; have zdc4 := has_cell zd 4 rfl
        have zdlt := has_lt zd
        have ZDH := Lib.hid zd; clear zd
        have ZB := Lib.hid zb; clear zb
        go_wp2_with fail
        go_ret
        exact ⟨rfl, ZB.out⟩
end Go.Proofs.Ytaeonangkbhmgaa
