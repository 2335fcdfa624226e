/- Chapter 4: the walk of the law FnOpenings. -/
import Derived.Test.YtfdpnlliaccopaaOpgP
import Derived.Test.YtfdpnlliaccopaaDorE
import Derived.Test.YtfdpnlliaccopaaDorC
import Derived.Test.YtfdpnlliaccopaaDorL
import Derived.Test.YtfdpnlliaccopaaPlb
namespace Go.Proofs.Ytfdpnlliaccopaa
open Go.RowKit
set_option linter.unusedVariables false
theorem drT {k s : Int} {l o f q : Bool} {x : Dr × Bool} (h : x = (⟨k, s, l, o, f⟩, q)) : drB x = .tuple #[.agg #[.int .i64 k, .int .i64 s, .bool l, .bool o, .bool f], .bool q] := by subst h; rfl
set_option maxRecDepth 100000 in
set_option maxHeartbeats 16000000 in
theorem opg_walk (w : World) (A : Option Addr) (na ca : Nat) (hn : na ≤ maxLen) (hS : BS w w.heap.size A na) : Calls Try.prog 3 #[.slice A na ca] w fun e w' => e = .returned (.bool true) ∧ Below w.heap.size w w' := by
  have HS := Lib.hid hS; clear hS
  have HBG := Lib.hid (fun W => big_any W A na ca hn)
  have HPL := Lib.hid (fun W (h : BS W W.heap.size A na) => places_any W A na ca hn h)
  clear hn
  by_cases hbig : (1048576 : Int) < na
  · have hd : decide ((1048576 : Int) < na) = true := by simpa using hbig
    have HD := Lib.hid hd; clear hd
    go_enter Try.func3, Try.ntmps3
    go_wp2_with (refine (HBG.out _).mono ?_; rintro e w' ⟨rfl, hw⟩; rw [hw, HD.out]; clear hw)
    go_ret
    exact ⟨rfl, Below.refl _ _⟩
  have hd : decide ((1048576 : Int) < na) = false := by simpa using hbig
  have HD := Lib.hid hd; clear hd hbig
  go_enter Try.func3, Try.ntmps3
  go_wp2_with (go_at_call 5; refine (HBG.out _).mono ?_; rintro e w' ⟨rfl, hw⟩; rw [hw, HD.out]; clear hw)
  refine (HPL.out w HS.out).mono ?_
  rintro e w1 ⟨kb, kc, kl, rfl, hl12, hall, hkc, hlt1, hge1, hb1⟩
  obtain ⟨x, hx⟩ : ∃ x, kl[0]? = some x := ⟨_, List.getElem?_eq_getElem (by omega)⟩
  have y0 := hkc 0 x hx
  obtain ⟨r0, r1⟩ := hall x (List.mem_of_getElem? hx)
  clear hkc hall hx hl12
  have hsw1 := hb1.size
  obtain ⟨q, hq, hq01⟩ : ∃ q : Int, x % 2 = q ∧ (q = 0 ∨ q = 1) := ⟨_, rfl, by omega⟩
  rcases hq01 with rfl | rfl
  · skip
    go_wp2_with fail
    have zb := hb1; clear hb1 y0 hlt1 hge1 r0 r1 hq
    generalize hX : (w1.alloc (.cells #[.int .i64 0, .int .i64 0, .bool false, .bool false, .bool false] 27)) = w2
    have hb : Below w1.heap.size w1 w2 := by rw [← hX]; exact balloc _ _
    have hk : Has w2 w1.heap.size 27 #[.int .i64 0, .int .i64 0, .bool false, .bool false, .bool false] := by rw [← hX]; exact has_new _ _ _
    clear hX
    have hsw2 := hb.size
    replace zb := bthen zb hb; clear hb
    have zd := hk; clear hk; have hlzd := has_lt zd
    refine (begI_any _ 0 0 false false false 1).mono ?_
    rintro e w3 ⟨rfl, hb⟩
    rw [drT (show begD ⟨0, 0, false, false, false⟩ 1 = (⟨1, 1, false, false, false⟩, true) by decide)]
    have hsw3 := hb.size
    replace zd := has_call zd hb
    replace zb := bthen zb hb; clear hb
    have zdc0 := has_cell zd 0 rfl; have zdc1 := has_cell zd 1 rfl; have zdc2 := has_cell zd 2 rfl; have zdc3 := has_cell zd 3 rfl; have zdc4 := has_cell zd 4 rfl
    have zdlt := has_lt zd
    have ZDH := Lib.hid zd; clear zd
    have ZB := Lib.hid zb; clear zb
    go_wp2_with fail
    clear zdc0 zdc1 zdc2 zdc3 zdc4 zdlt
    have zd := ZDH.out; clear ZDH
    have zb := ZB.out; clear ZB
    generalize hX : (w3.alloc (.cells #[.int .i64 1, .int .i64 1, .bool false, .bool false, .bool false] 27)) = w4
    have hb : Below w3.heap.size w3 w4 := by rw [← hX]; exact balloc _ _
    have hk : Has w4 w3.heap.size 27 #[.int .i64 1, .int .i64 1, .bool false, .bool false, .bool false] := by rw [← hX]; exact has_new _ _ _
    clear hX
    have hsw4 := hb.size
    replace zd := has_call zd hb
    replace zb := bthen zb hb; clear hb
    have zx := hk; clear hk; have hlzx := has_lt zx
    refine (begI_any _ 0 0 false false false 2).mono ?_
    rintro e w5 ⟨rfl, hb⟩
    rw [drT (show begD ⟨0, 0, false, false, false⟩ 2 = (⟨0, 0, false, false, false⟩, false) by decide)]
    have hsw5 := hb.size
    replace zd := has_call zd hb
    replace zx := has_call zx hb
    replace zb := bthen zb hb; clear hb
    have zdc0 := has_cell zd 0 rfl; have zdc1 := has_cell zd 1 rfl; have zdc2 := has_cell zd 2 rfl; have zdc3 := has_cell zd 3 rfl; have zdc4 := has_cell zd 4 rfl
    have zdlt := has_lt zd
    have zxc0 := has_cell zx 0 rfl; have zxc1 := has_cell zx 1 rfl; have zxc2 := has_cell zx 2 rfl; have zxc3 := has_cell zx 3 rfl; have zxc4 := has_cell zx 4 rfl
    have zxlt := has_lt zx
    have ZDH := Lib.hid zd; clear zd
    have ZXH := Lib.hid zx; clear zx
    have ZB := Lib.hid zb; clear zb
    go_wp2_with fail
    clear zdc0 zdc1 zdc2 zdc3 zdc4 zdlt zxc0 zxc1 zxc2 zxc3 zxc4 zxlt
    have zd := ZDH.out; clear ZDH
    have zx := ZXH.out; clear ZXH
    have zb := ZB.out; clear ZB
    have hz9 := size_new w5 27 #[.int .i64 0, .int .i64 0, .bool false, .bool false, .bool false]
    generalize hX : (w5.alloc (.cells #[.int .i64 0, .int .i64 0, .bool false, .bool false, .bool false] 27)) = w6 at hz9 ⊢
    have hb : Below w5.heap.size w5 w6 := by rw [← hX]; exact balloc _ _
    have hk : Has w6 w5.heap.size 27 #[.int .i64 0, .int .i64 0, .bool false, .bool false, .bool false] := by rw [← hX]; exact has_new _ _ _
    clear hX
    have hsw6 := hb.size
    replace zd := has_call zd hb
    replace zx := has_call zx hb
    replace zb := bthen zb hb; clear hb
    have zn := hk; clear hk; have hlzn := has_lt zn
    clear zn hlzn
    generalize hX : (w6.alloc (.cells #[.int .i64 1, .int .i64 1, .bool false, .bool false, .bool false] 27)) = w7
    have hb : Below w6.heap.size w6 w7 := by rw [← hX]; exact balloc _ _
    have hk : Has w7 w6.heap.size 27 #[.int .i64 1, .int .i64 1, .bool false, .bool false, .bool false] := by rw [← hX]; exact has_new _ _ _
    clear hX
    have hsw7 := hb.size
    replace zd := has_call zd hb
    replace zx := has_call zx hb
    replace zb := bthen zb hb; clear hb
    have zy := hk; clear hk; have hlzy := has_lt zy
    rw [hz9] at zy hlzy; clear hz9
    have ST : Hid (Has w7 (w1.heap.size) 27 #[.int .i64 0, .int .i64 0, .bool false, .bool false, .bool false] ∧ Has w7 (w3.heap.size) 27 #[.int .i64 1, .int .i64 1, .bool false, .bool false, .bool false] ∧ Has w7 (w5.heap.size + 1) 27 (opA false 0).A ∧ Below w.heap.size w w7) := Lib.hid ⟨zd, zx, zy, zb⟩
    clear zd zx zy zb
    go_loopw [10] (fun iv wr => ∃ n : Nat, n ≤ 6 ∧ iv = .int .i64 n ∧ Has wr (w1.heap.size) 27 #[.int .i64 0, .int .i64 0, .bool false, .bool false, .bool false] ∧ Has wr (w3.heap.size) 27 #[.int .i64 1, .int .i64 1, .bool false, .bool false, .bool false] ∧ Has wr (w5.heap.size + 1) 27 (opA false n).A ∧ Below w.heap.size w wr) (fun iv _ => 6 - (intOf iv).toNat)
    case atStart => exact ⟨0, Nat.zero_le _, rfl, ST.out.1, ST.out.2.1, ST.out.2.2.1, ST.out.2.2.2⟩
    case round =>
      obtain ⟨n, hn, rfl, zd, zx, hy, zb⟩ := hrel; clear ST
      by_cases hlt : n < 6
      · obtain ⟨h1, h2, h3⟩ := opA_go false n hlt
        obtain ⟨k, s, l, o, f, hO⟩ : ∃ (k s : Int) (l o f : Bool), opA false n = ⟨k, s, l, o, f⟩ := ⟨_, _, _, _, _, rfl⟩
        obtain ⟨k2, s2, l2, o2, f2, hO2⟩ : ∃ (k2 s2 : Int) (l2 o2 f2 : Bool), opA false (n + 1) = ⟨k2, s2, l2, o2, f2⟩ := ⟨_, _, _, _, _, rfl⟩
        have e9 : opA false (n + 1) = (advD (opA false n)).1 := rfl
        rw [hO] at hy h1 h3 e9; rw [hO2] at e9 h2
        have zy : Has wr (w5.heap.size + 1) 27 #[.int .i64 k, .int .i64 s, .bool l, .bool o, .bool f] := hy; clear hy
        have HA := Lib.hid (show advD ⟨k, s, l, o, f⟩ = (⟨k2, s2, l2, o2, f2⟩, true) from Prod.ext e9.symm h1)
        have HOK := Lib.hid (show doorB k2 s2 l2 o2 f2 = true from h2)
        have HN := Lib.hid (stepV_some (show 0 ≤ s ∧ s ≤ 6 from h3))
        have HO2 := Lib.hid hO2; clear h1 h2 h3 hO hO2 e9
        have hszy := has_lt zy
        have zdc0 := has_cell zd 0 rfl; have zdc1 := has_cell zd 1 rfl; have zdc2 := has_cell zd 2 rfl; have zdc3 := has_cell zd 3 rfl; have zdc4 := has_cell zd 4 rfl
        have zdlt := has_lt zd
        have zxc0 := has_cell zx 0 rfl; have zxc1 := has_cell zx 1 rfl; have zxc2 := has_cell zx 2 rfl; have zxc3 := has_cell zx 3 rfl; have zxc4 := has_cell zx 4 rfl
        have zxlt := has_lt zx
        have zyc0 := has_cell zy 0 rfl; have zyc1 := has_cell zy 1 rfl; have zyc2 := has_cell zy 2 rfl; have zyc3 := has_cell zy 3 rfl; have zyc4 := has_cell zy 4 rfl
        have zylt := has_lt zy
        have ZDH := Lib.hid zd; clear zd
        have ZXH := Lib.hid zx; clear zx
        have ZYH := Lib.hid zy; clear zy
        have ZB := Lib.hid zb; clear zb
        go_wp2_with fail
        clear zdc0 zdc1 zdc2 zdc3 zdc4 zdlt zxc0 zxc1 zxc2 zxc3 zxc4 zxlt zyc0 zyc1 zyc2 zyc3 zyc4 zylt
        have zd := ZDH.out; clear ZDH
        have zx := ZXH.out; clear ZXH
        have zy := ZYH.out; clear ZYH
        have zb := ZB.out; clear ZB
        refine (advI_any _ k s l o f).mono ?_
        rintro e w8 ⟨rfl, hb⟩
        rw [drT HA.out]
        have hsw8 := hb.size
        replace zd := has_call zd hb
        replace zx := has_call zx hb
        replace zy := has_call zy hb
        replace zb := bthen zb hb; clear hb
        have zdc0 := has_cell zd 0 rfl; have zdc1 := has_cell zd 1 rfl; have zdc2 := has_cell zd 2 rfl; have zdc3 := has_cell zd 3 rfl; have zdc4 := has_cell zd 4 rfl
        have zdlt := has_lt zd
        have zxc0 := has_cell zx 0 rfl; have zxc1 := has_cell zx 1 rfl; have zxc2 := has_cell zx 2 rfl; have zxc3 := has_cell zx 3 rfl; have zxc4 := has_cell zx 4 rfl
        have zxlt := has_lt zx
        have zyc0 := has_cell zy 0 rfl; have zyc1 := has_cell zy 1 rfl; have zyc2 := has_cell zy 2 rfl; have zyc3 := has_cell zy 3 rfl; have zyc4 := has_cell zy 4 rfl
        have zylt := has_lt zy
        have ZDH := Lib.hid zd; clear zd
        have ZXH := Lib.hid zx; clear zx
        have ZYH := Lib.hid zy; clear zy
        have ZB := Lib.hid zb; clear zb
        go_wp2_with fail
        clear zdc0 zdc1 zdc2 zdc3 zdc4 zdlt zxc0 zxc1 zxc2 zxc3 zxc4 zxlt zyc0 zyc1 zyc2 zyc3 zyc4 zylt
        have zd := ZDH.out; clear ZDH
        have zx := ZXH.out; clear ZXH
        have zy := ZYH.out; clear ZYH
        have zb := ZB.out; clear ZB
        generalize hX : (w8.alloc (.cells #[.int .i64 k2, .int .i64 s2, .bool l2, .bool o2, .bool f2] 27)) = w9
        have hb : Below w8.heap.size w8 w9 := by rw [← hX]; exact balloc _ _
        have hk : Has w9 w8.heap.size 27 #[.int .i64 k2, .int .i64 s2, .bool l2, .bool o2, .bool f2] := by rw [← hX]; exact has_new _ _ _
        clear hX
        have hsw9 := hb.size
        replace zd := has_call zd hb
        replace zx := has_call zx hb
        replace zy := has_call zy hb
        replace zb := bthen zb hb; clear hb
        have zz := hk; clear hk; have hlzz := has_lt zz
        refine (stepNameI_any _ s).mono ?_
        rintro e w10 ⟨rfl, hb⟩
        have hsw10 := hb.size
        replace zd := has_call zd hb
        replace zx := has_call zx hb
        replace zy := has_call zy hb
        replace zz := has_call zz hb
        replace zb := bthen zb hb; clear hb
        have hn1 := HN.out; have hn2 : ¬ (stepV s).toList = [] := by rw [← List.isEmpty_iff, hn1]; simp
        have zdc0 := has_cell zd 0 rfl; have zdc1 := has_cell zd 1 rfl; have zdc2 := has_cell zd 2 rfl; have zdc3 := has_cell zd 3 rfl; have zdc4 := has_cell zd 4 rfl
        have zdlt := has_lt zd
        have zxc0 := has_cell zx 0 rfl; have zxc1 := has_cell zx 1 rfl; have zxc2 := has_cell zx 2 rfl; have zxc3 := has_cell zx 3 rfl; have zxc4 := has_cell zx 4 rfl
        have zxlt := has_lt zx
        have zyc0 := has_cell zy 0 rfl; have zyc1 := has_cell zy 1 rfl; have zyc2 := has_cell zy 2 rfl; have zyc3 := has_cell zy 3 rfl; have zyc4 := has_cell zy 4 rfl
        have zylt := has_lt zy
        have zzc0 := has_cell zz 0 rfl; have zzc1 := has_cell zz 1 rfl; have zzc2 := has_cell zz 2 rfl; have zzc3 := has_cell zz 3 rfl; have zzc4 := has_cell zz 4 rfl
        have zzlt := has_lt zz
        have ZDH := Lib.hid zd; clear zd
        have ZXH := Lib.hid zx; clear zx
        have ZYH := Lib.hid zy; clear zy
        have ZZH := Lib.hid zz; clear zz
        have ZB := Lib.hid zb; clear zb
        go_wp2_with fail
        clear zdc0 zdc1 zdc2 zdc3 zdc4 zdlt zxc0 zxc1 zxc2 zxc3 zxc4 zxlt zyc0 zyc1 zyc2 zyc3 zyc4 zylt zzc0 zzc1 zzc2 zzc3 zzc4 zzlt
        have zd := ZDH.out; clear ZDH
        have zx := ZXH.out; clear ZXH
        have zy := ZYH.out; clear ZYH
        have zz := ZZH.out; clear ZZH
        have zb := ZB.out; clear ZB
        refine (doorI_any _ k2 s2 l2 o2 f2).mono ?_
        rintro e w11 ⟨rfl, hb⟩
        rw [HOK.out]
        have hsw11 := hb.size
        replace zd := has_call zd hb
        replace zx := has_call zx hb
        replace zy := has_call zy hb
        replace zz := has_call zz hb
        replace zb := bthen zb hb; clear hb
        have zdc0 := has_cell zd 0 rfl; have zdc1 := has_cell zd 1 rfl; have zdc2 := has_cell zd 2 rfl; have zdc3 := has_cell zd 3 rfl; have zdc4 := has_cell zd 4 rfl
        have zdlt := has_lt zd
        have zxc0 := has_cell zx 0 rfl; have zxc1 := has_cell zx 1 rfl; have zxc2 := has_cell zx 2 rfl; have zxc3 := has_cell zx 3 rfl; have zxc4 := has_cell zx 4 rfl
        have zxlt := has_lt zx
        have zyc0 := has_cell zy 0 rfl; have zyc1 := has_cell zy 1 rfl; have zyc2 := has_cell zy 2 rfl; have zyc3 := has_cell zy 3 rfl; have zyc4 := has_cell zy 4 rfl
        have zyf0 := has_free zy 0; have zyf1 := has_free zy 1; have zyf2 := has_free zy 2; have zyf3 := has_free zy 3; have zyf4 := has_free zy 4
        have zylt := has_lt zy
        have zzc0 := has_cell zz 0 rfl; have zzc1 := has_cell zz 1 rfl; have zzc2 := has_cell zz 2 rfl; have zzc3 := has_cell zz 3 rfl; have zzc4 := has_cell zz 4 rfl
        have zzlt := has_lt zz
        have ZDH := Lib.hid zd; clear zd
        have ZXH := Lib.hid zx; clear zx
        have ZYH := Lib.hid zy; clear zy
        have ZZH := Lib.hid zz; clear zz
        have ZB := Lib.hid zb; clear zb
        go_wp2_with fail
        clear zdc0 zdc1 zdc2 zdc3 zdc4 zdlt zxc0 zxc1 zxc2 zxc3 zxc4 zxlt zyc0 zyc1 zyc2 zyc3 zyc4 zyf0 zyf1 zyf2 zyf3 zyf4 zylt zzc0 zzc1 zzc2 zzc3 zzc4 zzlt
        have zd := ZDH.out; clear ZDH
        have zx := ZXH.out; clear ZXH
        have zy := ZYH.out; clear ZYH
        have zz := ZZH.out; clear ZZH
        have zb := ZB.out; clear ZB
        go_roundw
        case rel => exact ⟨n + 1, by omega, by go_num, hoo zd (os5 (only_refl _ _) _ _ _ _ _) (by omega), hoo zx (os5 (only_refl _ _) _ _ _ _ _) (by omega), by rw [HO2.out]; exact hs5 zy _ _ _ _ _, bs5 (by omega) _ _ _ _ _ zb⟩
        case measure => simp [intOf]; omega
      obtain rfl : n = 6 := by omega
      have zy : Has wr (w5.heap.size + 1) 27 #[.int .i64 0, .int .i64 0, .bool false, .bool false, .bool true] := hy; clear hy hlt hn
      have hszy := has_lt zy
      have hswr := zb.size
      have zdc0 := has_cell zd 0 rfl; have zdc1 := has_cell zd 1 rfl; have zdc2 := has_cell zd 2 rfl; have zdc3 := has_cell zd 3 rfl; have zdc4 := has_cell zd 4 rfl
      have zdlt := has_lt zd
      have zxc0 := has_cell zx 0 rfl; have zxc1 := has_cell zx 1 rfl; have zxc2 := has_cell zx 2 rfl; have zxc3 := has_cell zx 3 rfl; have zxc4 := has_cell zx 4 rfl
      have zxlt := has_lt zx
      have zyc0 := has_cell zy 0 rfl; have zyc1 := has_cell zy 1 rfl; have zyc2 := has_cell zy 2 rfl; have zyc3 := has_cell zy 3 rfl; have zyc4 := has_cell zy 4 rfl
      have zylt := has_lt zy
      have ZDH := Lib.hid zd; clear zd
      have ZXH := Lib.hid zx; clear zx
      have ZYH := Lib.hid zy; clear zy
      have ZB := Lib.hid zb; clear zb
      go_wp2_with fail
      clear zdc0 zdc1 zdc2 zdc3 zdc4 zdlt zxc0 zxc1 zxc2 zxc3 zxc4 zxlt zyc0 zyc1 zyc2 zyc3 zyc4 zylt
      have zd := ZDH.out; clear ZDH
      have zx := ZXH.out; clear ZXH
      have zy := ZYH.out; clear ZYH
      have zb := ZB.out; clear ZB
      refine (HPL.out wr ((HS.out.below zb).below' zb.size)).mono ?_
      rintro e w12 ⟨kb2, kc2, kl2, rfl, hl12, hall, hkc, hlt2, hge2, hb⟩
      obtain ⟨x2, hx2⟩ : ∃ x2, kl2[1]? = some x2 := ⟨_, List.getElem?_eq_getElem (by omega)⟩
      have y1 := hkc 1 x2 hx2
      obtain ⟨r0, r1⟩ := hall x2 (List.mem_of_getElem? hx2)
      clear hkc hall hx2 hl12
      obtain ⟨q, hq, hq0, hq2⟩ : ∃ q : Int, x2 % 3 = q ∧ 0 ≤ q ∧ q ≤ 2 := ⟨_, rfl, by omega, by omega⟩
      have hsw12 := hb.size
      replace zd := has_call zd hb
      replace zx := has_call zx hb
      replace zy := has_call zy hb
      replace zb := bthen zb hb; clear hb
      have zdc0 := has_cell zd 0 rfl; have zdc1 := has_cell zd 1 rfl; have zdc2 := has_cell zd 2 rfl; have zdc3 := has_cell zd 3 rfl; have zdc4 := has_cell zd 4 rfl
      have zdlt := has_lt zd
      have zxc0 := has_cell zx 0 rfl; have zxc1 := has_cell zx 1 rfl; have zxc2 := has_cell zx 2 rfl; have zxc3 := has_cell zx 3 rfl; have zxc4 := has_cell zx 4 rfl
      have zxlt := has_lt zx
      have zyc0 := has_cell zy 0 rfl; have zyc1 := has_cell zy 1 rfl; have zyc2 := has_cell zy 2 rfl; have zyc3 := has_cell zy 3 rfl; have zyc4 := has_cell zy 4 rfl
      have zylt := has_lt zy
      have ZDH := Lib.hid zd; clear zd
      have ZXH := Lib.hid zx; clear zx
      have ZYH := Lib.hid zy; clear zy
      have ZB := Lib.hid zb; clear zb
      go_wp2_with fail
      clear zdc0 zdc1 zdc2 zdc3 zdc4 zdlt zxc0 zxc1 zxc2 zxc3 zxc4 zxlt zyc0 zyc1 zyc2 zyc3 zyc4 zylt
      have zd := ZDH.out; clear ZDH
      have zx := ZXH.out; clear ZXH
      have zy := ZYH.out; clear ZYH
      have zb := ZB.out; clear ZB
      generalize hX : (w12.alloc (.cells #[.int .i64 1, .int .i64 1, .bool false, .bool false, .bool false] 27)) = w13
      have hb : Below w12.heap.size w12 w13 := by rw [← hX]; exact balloc _ _
      have hk : Has w13 w12.heap.size 27 #[.int .i64 1, .int .i64 1, .bool false, .bool false, .bool false] := by rw [← hX]; exact has_new _ _ _
      clear hX
      have hsw13 := hb.size
      replace zd := has_call zd hb
      replace zx := has_call zx hb
      replace zy := has_call zy hb
      replace zb := bthen zb hb; clear hb
      have zw := hk; clear hk; have hlzw := has_lt zw
      obtain ⟨t, ht⟩ : ∃ t : Nat, 1 + q = t := ⟨(1 + q).toNat, by omega⟩
      have ht1 : 1 ≤ t := by omega
      have ht4 : t < 4 := by omega
      have HT := Lib.hid ht; clear y1 hlt2 hge2 r0 r1 hq ht
      have ST : Hid ((Has w13 (w1.heap.size) 27 #[.int .i64 0, .int .i64 0, .bool false, .bool false, .bool false] ∧ Has w13 (w3.heap.size) 27 #[.int .i64 1, .int .i64 1, .bool false, .bool false, .bool false] ∧ Has w13 (w5.heap.size + 1) 27 #[.int .i64 0, .int .i64 0, .bool false, .bool false, .bool true]) ∧ Has w13 (w12.heap.size) 27 (opA false 0).A ∧ Below w.heap.size w w13) := Lib.hid ⟨⟨zd, zx, zy⟩, zw, zb⟩
      clear zd zx zy zw zb
      go_loopw [15] (fun iv wr => ∃ n : Nat, n ≤ t ∧ iv = .int .i64 n ∧ (Has wr (w1.heap.size) 27 #[.int .i64 0, .int .i64 0, .bool false, .bool false, .bool false] ∧ Has wr (w3.heap.size) 27 #[.int .i64 1, .int .i64 1, .bool false, .bool false, .bool false] ∧ Has wr (w5.heap.size + 1) 27 #[.int .i64 0, .int .i64 0, .bool false, .bool false, .bool true]) ∧ Has wr (w12.heap.size) 27 (opA false n).A ∧ Below w.heap.size w wr) (fun iv _ => t - (intOf iv).toNat)
      case atStart => exact ⟨0, Nat.zero_le _, rfl, ST.out.1, ST.out.2.1, ST.out.2.2⟩
      case round =>
        rename World => wq
        obtain ⟨n, hn, rfl, ⟨zd, zx, zy⟩, hy, zb⟩ := hrel; clear ST
        have hszw := has_lt hy
        by_cases hlt : n < t
        · obtain ⟨h1, h2, h3⟩ := opA_go false n (by omega)
          obtain ⟨k, s, l, o, f, hO⟩ : ∃ (k s : Int) (l o f : Bool), opA false n = ⟨k, s, l, o, f⟩ := ⟨_, _, _, _, _, rfl⟩
          obtain ⟨k2, s2, l2, o2, f2, hO2⟩ : ∃ (k2 s2 : Int) (l2 o2 f2 : Bool), opA false (n + 1) = ⟨k2, s2, l2, o2, f2⟩ := ⟨_, _, _, _, _, rfl⟩
          have e9 : opA false (n + 1) = (advD (opA false n)).1 := rfl
          rw [hO] at hy h1 e9; rw [hO2] at e9
          have zw : Has wq (w12.heap.size) 27 #[.int .i64 k, .int .i64 s, .bool l, .bool o, .bool f] := hy; clear hy
          have HA := Lib.hid (show advD ⟨k, s, l, o, f⟩ = (⟨k2, s2, l2, o2, f2⟩, true) from Prod.ext e9.symm h1)
          have HO2 := Lib.hid hO2; clear h1 h2 h3 hO hO2 e9
          have hlq : (n : Int) < 1 + q := by have := HT.out; omega
          have zdc0 := has_cell zd 0 rfl; have zdc1 := has_cell zd 1 rfl; have zdc2 := has_cell zd 2 rfl; have zdc3 := has_cell zd 3 rfl; have zdc4 := has_cell zd 4 rfl
          have zdlt := has_lt zd
          have zxc0 := has_cell zx 0 rfl; have zxc1 := has_cell zx 1 rfl; have zxc2 := has_cell zx 2 rfl; have zxc3 := has_cell zx 3 rfl; have zxc4 := has_cell zx 4 rfl
          have zxlt := has_lt zx
          have zyc0 := has_cell zy 0 rfl; have zyc1 := has_cell zy 1 rfl; have zyc2 := has_cell zy 2 rfl; have zyc3 := has_cell zy 3 rfl; have zyc4 := has_cell zy 4 rfl
          have zylt := has_lt zy
          have zwc0 := has_cell zw 0 rfl; have zwc1 := has_cell zw 1 rfl; have zwc2 := has_cell zw 2 rfl; have zwc3 := has_cell zw 3 rfl; have zwc4 := has_cell zw 4 rfl
          have zwlt := has_lt zw
          have ZDH := Lib.hid zd; clear zd
          have ZXH := Lib.hid zx; clear zx
          have ZYH := Lib.hid zy; clear zy
          have ZWH := Lib.hid zw; clear zw
          have ZB := Lib.hid zb; clear zb
          go_wp2_with fail
          clear zdc0 zdc1 zdc2 zdc3 zdc4 zdlt zxc0 zxc1 zxc2 zxc3 zxc4 zxlt zyc0 zyc1 zyc2 zyc3 zyc4 zylt zwc0 zwc1 zwc2 zwc3 zwc4 zwlt
          have zd := ZDH.out; clear ZDH
          have zx := ZXH.out; clear ZXH
          have zy := ZYH.out; clear ZYH
          have zw := ZWH.out; clear ZWH
          have zb := ZB.out; clear ZB
          refine (advI_any _ k s l o f).mono ?_
          rintro e w14 ⟨rfl, hb⟩
          rw [drT HA.out]
          have hsw14 := hb.size
          replace zd := has_call zd hb
          replace zx := has_call zx hb
          replace zy := has_call zy hb
          replace zw := has_call zw hb
          replace zb := bthen zb hb; clear hb
          have zdc0 := has_cell zd 0 rfl; have zdc1 := has_cell zd 1 rfl; have zdc2 := has_cell zd 2 rfl; have zdc3 := has_cell zd 3 rfl; have zdc4 := has_cell zd 4 rfl
          have zdlt := has_lt zd
          have zxc0 := has_cell zx 0 rfl; have zxc1 := has_cell zx 1 rfl; have zxc2 := has_cell zx 2 rfl; have zxc3 := has_cell zx 3 rfl; have zxc4 := has_cell zx 4 rfl
          have zxlt := has_lt zx
          have zyc0 := has_cell zy 0 rfl; have zyc1 := has_cell zy 1 rfl; have zyc2 := has_cell zy 2 rfl; have zyc3 := has_cell zy 3 rfl; have zyc4 := has_cell zy 4 rfl
          have zylt := has_lt zy
          have zwc0 := has_cell zw 0 rfl; have zwc1 := has_cell zw 1 rfl; have zwc2 := has_cell zw 2 rfl; have zwc3 := has_cell zw 3 rfl; have zwc4 := has_cell zw 4 rfl
          have zwf0 := has_free zw 0; have zwf1 := has_free zw 1; have zwf2 := has_free zw 2; have zwf3 := has_free zw 3; have zwf4 := has_free zw 4
          have zwlt := has_lt zw
          have ZDH := Lib.hid zd; clear zd
          have ZXH := Lib.hid zx; clear zx
          have ZYH := Lib.hid zy; clear zy
          have ZWH := Lib.hid zw; clear zw
          have ZB := Lib.hid zb; clear zb
          go_wp2_with fail
          clear zdc0 zdc1 zdc2 zdc3 zdc4 zdlt zxc0 zxc1 zxc2 zxc3 zxc4 zxlt zyc0 zyc1 zyc2 zyc3 zyc4 zylt zwc0 zwc1 zwc2 zwc3 zwc4 zwf0 zwf1 zwf2 zwf3 zwf4 zwlt
          have zd := ZDH.out; clear ZDH
          have zx := ZXH.out; clear ZXH
          have zy := ZYH.out; clear ZYH
          have zw := ZWH.out; clear ZWH
          have zb := ZB.out; clear ZB
          go_roundw
          case rel => exact ⟨n + 1, by omega, by go_num, ⟨hoo zd (os5 (only_refl _ _) _ _ _ _ _) (by omega), hoo zx (os5 (only_refl _ _) _ _ _ _ _) (by omega), hoo zy (os5 (only_refl _ _) _ _ _ _ _) (by omega)⟩, by rw [HO2.out]; exact hs5 zw _ _ _ _ _, bs5 (by omega) _ _ _ _ _ zb⟩
          case measure => simp [intOf]; omega
        obtain rfl : n = t := by omega
        have hlq : ¬ (n : Int) < 1 + q := by have := HT.out; omega
        have ST : Hid ((Has wq (w1.heap.size) 27 #[.int .i64 0, .int .i64 0, .bool false, .bool false, .bool false] ∧ Has wq (w3.heap.size) 27 #[.int .i64 1, .int .i64 1, .bool false, .bool false, .bool false] ∧ Has wq (w5.heap.size + 1) 27 #[.int .i64 0, .int .i64 0, .bool false, .bool false, .bool true]) ∧ Has wq (w12.heap.size) 27 (opR false n 0).A ∧ Below w.heap.size w wq) := Lib.hid ⟨⟨zd, zx, zy⟩, hy, zb⟩
        clear zd zx zy hy zb hlt hn
        go_wp2_with fail
        go_loopw [16] (fun iv wr => ∃ m : Nat, m ≤ 3 ∧ iv = .int .i64 m ∧ (Has wr (w1.heap.size) 27 #[.int .i64 0, .int .i64 0, .bool false, .bool false, .bool false] ∧ Has wr (w3.heap.size) 27 #[.int .i64 1, .int .i64 1, .bool false, .bool false, .bool false] ∧ Has wr (w5.heap.size + 1) 27 #[.int .i64 0, .int .i64 0, .bool false, .bool false, .bool true]) ∧ Has wr (w12.heap.size) 27 (opR false n m).A ∧ Below w.heap.size w wr) (fun iv _ => 3 - (intOf iv).toNat)
        case atStart => exact ⟨0, Nat.zero_le _, rfl, ST.out.1, ST.out.2.1, ST.out.2.2⟩
        case round =>
          rename World => wp
          obtain ⟨m, hm, rfl, ⟨zd, zx, zy⟩, hy, zb⟩ := hrel; clear ST
          have hszp := has_lt hy
          obtain ⟨k, s, l, o, f, hO⟩ : ∃ (k s : Int) (l o f : Bool), opR false n m = ⟨k, s, l, o, f⟩ := ⟨_, _, _, _, _, rfl⟩
          have HO := Lib.hid hO
          rw [hO] at hy
          have zw : Has wp (w12.heap.size) 27 #[.int .i64 k, .int .i64 s, .bool l, .bool o, .bool f] := hy; clear hy hO
          by_cases hlt : m < 3
          · by_cases h5s : s = 5
            · subst h5s
              have HE := Lib.hid (opR_end false n ht4 ht1 m (by omega) (Or.inl (by rw [HO.out]))); clear hm
              have HE2 := Lib.hid (show opB ⟨k, 5, l, o, f⟩ 2 = ⟨0, 0, false, false, false⟩ by rw [← HO.out]; exact HE.out); clear HE HO
              have zdc0 := has_cell zd 0 rfl; have zdc1 := has_cell zd 1 rfl; have zdc2 := has_cell zd 2 rfl; have zdc3 := has_cell zd 3 rfl; have zdc4 := has_cell zd 4 rfl
              have zdlt := has_lt zd
              have zxc0 := has_cell zx 0 rfl; have zxc1 := has_cell zx 1 rfl; have zxc2 := has_cell zx 2 rfl; have zxc3 := has_cell zx 3 rfl; have zxc4 := has_cell zx 4 rfl
              have zxlt := has_lt zx
              have zyc0 := has_cell zy 0 rfl; have zyc1 := has_cell zy 1 rfl; have zyc2 := has_cell zy 2 rfl; have zyc3 := has_cell zy 3 rfl; have zyc4 := has_cell zy 4 rfl
              have zylt := has_lt zy
              have zwc0 := has_cell zw 0 rfl; have zwc1 := has_cell zw 1 rfl; have zwc2 := has_cell zw 2 rfl; have zwc3 := has_cell zw 3 rfl; have zwc4 := has_cell zw 4 rfl
              have zwlt := has_lt zw
              have ZDH := Lib.hid zd; clear zd
              have ZXH := Lib.hid zx; clear zx
              have ZYH := Lib.hid zy; clear zy
              have ZWH := Lib.hid zw; clear zw
              have ZB := Lib.hid zb; clear zb
              go_wp2_with fail
              clear zdc0 zdc1 zdc2 zdc3 zdc4 zdlt zxc0 zxc1 zxc2 zxc3 zxc4 zxlt zyc0 zyc1 zyc2 zyc3 zyc4 zylt zwc0 zwc1 zwc2 zwc3 zwc4 zwlt
              have zd := ZDH.out; clear ZDH
              have zx := ZXH.out; clear ZXH
              have zy := ZYH.out; clear ZYH
              have zw := ZWH.out; clear ZWH
              have zb := ZB.out; clear ZB
              clear hlt
              have ST : Hid ((Has wp (w1.heap.size) 27 #[.int .i64 0, .int .i64 0, .bool false, .bool false, .bool false] ∧ Has wp (w3.heap.size) 27 #[.int .i64 1, .int .i64 1, .bool false, .bool false, .bool false] ∧ Has wp (w5.heap.size + 1) 27 #[.int .i64 0, .int .i64 0, .bool false, .bool false, .bool true]) ∧ Has wp (w12.heap.size) 27 (opB ⟨k, 5, l, o, f⟩ 0).A ∧ Below w.heap.size w wp) := Lib.hid ⟨⟨zd, zx, zy⟩, zw, zb⟩
              clear zd zx zy zw zb
              go_loopw [17] (fun iv wr => ∃ j : Nat, j ≤ 2 ∧ iv = .int .i64 j ∧ (Has wr (w1.heap.size) 27 #[.int .i64 0, .int .i64 0, .bool false, .bool false, .bool false] ∧ Has wr (w3.heap.size) 27 #[.int .i64 1, .int .i64 1, .bool false, .bool false, .bool false] ∧ Has wr (w5.heap.size + 1) 27 #[.int .i64 0, .int .i64 0, .bool false, .bool false, .bool true]) ∧ Has wr (w12.heap.size) 27 (opB ⟨k, 5, l, o, f⟩ j).A ∧ Below w.heap.size w wr) (fun iv _ => 2 - (intOf iv).toNat)
              case atStart => exact ⟨0, Nat.zero_le _, rfl, ST.out.1, ST.out.2.1, ST.out.2.2⟩
              case round =>
                rename World => wo
                obtain ⟨j, hj, rfl, ⟨zd, zx, zy⟩, hy, zb⟩ := hrel; clear ST
                have hszo := has_lt hy
                by_cases hlt4 : j < 2
                · skip
                  obtain ⟨k1, s1, l1, o1, f1, hO⟩ : ∃ (k1 s1 : Int) (l1 o1 f1 : Bool), opB ⟨k, 5, l, o, f⟩ j = ⟨k1, s1, l1, o1, f1⟩ := ⟨_, _, _, _, _, rfl⟩
                  obtain ⟨k2, s2, l2, o2, f2, hO2⟩ : ∃ (k2 s2 : Int) (l2 o2 f2 : Bool), opB ⟨k, 5, l, o, f⟩ (j + 1) = ⟨k2, s2, l2, o2, f2⟩ := ⟨_, _, _, _, _, rfl⟩
                  have e9 : opB ⟨k, 5, l, o, f⟩ (j + 1) = (advD (opB ⟨k, 5, l, o, f⟩ j)).1 := rfl
                  rw [hO] at hy e9; rw [hO2] at e9
                  have zw : Has wo (w12.heap.size) 27 #[.int .i64 k1, .int .i64 s1, .bool l1, .bool o1, .bool f1] := hy; clear hy
                  obtain ⟨q9, hq9⟩ : ∃ q9, (advD ⟨k1, s1, l1, o1, f1⟩).2 = q9 := ⟨_, rfl⟩
                  have HA := Lib.hid (show advD ⟨k1, s1, l1, o1, f1⟩ = (⟨k2, s2, l2, o2, f2⟩, q9) from Prod.ext e9.symm hq9)
                  have HO2 := Lib.hid hO2; clear hO hO2 e9 hq9
                  have zdc0 := has_cell zd 0 rfl; have zdc1 := has_cell zd 1 rfl; have zdc2 := has_cell zd 2 rfl; have zdc3 := has_cell zd 3 rfl; have zdc4 := has_cell zd 4 rfl
                  have zdlt := has_lt zd
                  have zxc0 := has_cell zx 0 rfl; have zxc1 := has_cell zx 1 rfl; have zxc2 := has_cell zx 2 rfl; have zxc3 := has_cell zx 3 rfl; have zxc4 := has_cell zx 4 rfl
                  have zxlt := has_lt zx
                  have zyc0 := has_cell zy 0 rfl; have zyc1 := has_cell zy 1 rfl; have zyc2 := has_cell zy 2 rfl; have zyc3 := has_cell zy 3 rfl; have zyc4 := has_cell zy 4 rfl
                  have zylt := has_lt zy
                  have zwc0 := has_cell zw 0 rfl; have zwc1 := has_cell zw 1 rfl; have zwc2 := has_cell zw 2 rfl; have zwc3 := has_cell zw 3 rfl; have zwc4 := has_cell zw 4 rfl
                  have zwlt := has_lt zw
                  have ZDH := Lib.hid zd; clear zd
                  have ZXH := Lib.hid zx; clear zx
                  have ZYH := Lib.hid zy; clear zy
                  have ZWH := Lib.hid zw; clear zw
                  have ZB := Lib.hid zb; clear zb
                  go_wp2_with fail
                  clear zdc0 zdc1 zdc2 zdc3 zdc4 zdlt zxc0 zxc1 zxc2 zxc3 zxc4 zxlt zyc0 zyc1 zyc2 zyc3 zyc4 zylt zwc0 zwc1 zwc2 zwc3 zwc4 zwlt
                  have zd := ZDH.out; clear ZDH
                  have zx := ZXH.out; clear ZXH
                  have zy := ZYH.out; clear ZYH
                  have zw := ZWH.out; clear ZWH
                  have zb := ZB.out; clear ZB
                  refine (advI_any _ k1 s1 l1 o1 f1).mono ?_
                  rintro e w15 ⟨rfl, hb⟩
                  rw [drT HA.out]
                  have hsw15 := hb.size
                  replace zd := has_call zd hb
                  replace zx := has_call zx hb
                  replace zy := has_call zy hb
                  replace zw := has_call zw hb
                  replace zb := bthen zb hb; clear hb
                  have zdc0 := has_cell zd 0 rfl; have zdc1 := has_cell zd 1 rfl; have zdc2 := has_cell zd 2 rfl; have zdc3 := has_cell zd 3 rfl; have zdc4 := has_cell zd 4 rfl
                  have zdlt := has_lt zd
                  have zxc0 := has_cell zx 0 rfl; have zxc1 := has_cell zx 1 rfl; have zxc2 := has_cell zx 2 rfl; have zxc3 := has_cell zx 3 rfl; have zxc4 := has_cell zx 4 rfl
                  have zxlt := has_lt zx
                  have zyc0 := has_cell zy 0 rfl; have zyc1 := has_cell zy 1 rfl; have zyc2 := has_cell zy 2 rfl; have zyc3 := has_cell zy 3 rfl; have zyc4 := has_cell zy 4 rfl
                  have zylt := has_lt zy
                  have zwc0 := has_cell zw 0 rfl; have zwc1 := has_cell zw 1 rfl; have zwc2 := has_cell zw 2 rfl; have zwc3 := has_cell zw 3 rfl; have zwc4 := has_cell zw 4 rfl
                  have zwf0 := has_free zw 0; have zwf1 := has_free zw 1; have zwf2 := has_free zw 2; have zwf3 := has_free zw 3; have zwf4 := has_free zw 4
                  have zwlt := has_lt zw
                  have ZDH := Lib.hid zd; clear zd
                  have ZXH := Lib.hid zx; clear zx
                  have ZYH := Lib.hid zy; clear zy
                  have ZWH := Lib.hid zw; clear zw
                  have ZB := Lib.hid zb; clear zb
                  go_wp2_with fail
                  clear zdc0 zdc1 zdc2 zdc3 zdc4 zdlt zxc0 zxc1 zxc2 zxc3 zxc4 zxlt zyc0 zyc1 zyc2 zyc3 zyc4 zylt zwc0 zwc1 zwc2 zwc3 zwc4 zwf0 zwf1 zwf2 zwf3 zwf4 zwlt
                  have zd := ZDH.out; clear ZDH
                  have zx := ZXH.out; clear ZXH
                  have zy := ZYH.out; clear ZYH
                  have zw := ZWH.out; clear ZWH
                  have zb := ZB.out; clear ZB
                  go_roundw
                  case rel => exact ⟨j + 1, by omega, by go_num, ⟨hoo zd (os5 (only_refl _ _) _ _ _ _ _) (by omega), hoo zx (os5 (only_refl _ _) _ _ _ _ _) (by omega), hoo zy (os5 (only_refl _ _) _ _ _ _ _) (by omega)⟩, by rw [HO2.out]; exact hs5 zw _ _ _ _ _, bs5 (by omega) _ _ _ _ _ zb⟩
                  case measure => simp [intOf]; omega
                obtain rfl : j = 2 := by omega
                rw [HE2.out] at hy
                have zw : Has wo (w12.heap.size) 27 #[.int .i64 0, .int .i64 0, .bool false, .bool false, .bool false] := hy; clear hy hlt4 hj
                have zdc0 := has_cell zd 0 rfl; have zdc1 := has_cell zd 1 rfl; have zdc2 := has_cell zd 2 rfl; have zdc3 := has_cell zd 3 rfl; have zdc4 := has_cell zd 4 rfl
                have zdlt := has_lt zd
                have zxc0 := has_cell zx 0 rfl; have zxc1 := has_cell zx 1 rfl; have zxc2 := has_cell zx 2 rfl; have zxc3 := has_cell zx 3 rfl; have zxc4 := has_cell zx 4 rfl
                have zxlt := has_lt zx
                have zyc0 := has_cell zy 0 rfl; have zyc1 := has_cell zy 1 rfl; have zyc2 := has_cell zy 2 rfl; have zyc3 := has_cell zy 3 rfl; have zyc4 := has_cell zy 4 rfl
                have zylt := has_lt zy
                have zwc0 := has_cell zw 0 rfl; have zwc1 := has_cell zw 1 rfl; have zwc2 := has_cell zw 2 rfl; have zwc3 := has_cell zw 3 rfl; have zwc4 := has_cell zw 4 rfl
                have zwlt := has_lt zw
                have ZDH := Lib.hid zd; clear zd
                have ZXH := Lib.hid zx; clear zx
                have ZYH := Lib.hid zy; clear zy
                have ZWH := Lib.hid zw; clear zw
                have ZB := Lib.hid zb; clear zb
                go_wp2_with fail
                go_ret
                exact ⟨rfl, ZB.out⟩
            obtain ⟨k2, s2, l2, o2, f2, hO2⟩ : ∃ (k2 s2 : Int) (l2 o2 f2 : Bool), opR false n (m + 1) = ⟨k2, s2, l2, o2, f2⟩ := ⟨_, _, _, _, _, rfl⟩
            have e9 : opR false n (m + 1) = (relD (opR false n m)).1 := rfl
            rw [HO.out, hO2] at e9
            obtain ⟨q9, hq9⟩ : ∃ q9, (relD ⟨k, s, l, o, f⟩).2 = q9 := ⟨_, rfl⟩
            have HA := Lib.hid (show relD ⟨k, s, l, o, f⟩ = (⟨k2, s2, l2, o2, f2⟩, q9) from Prod.ext e9.symm hq9)
            have HO2 := Lib.hid hO2; clear hO2 e9 hq9 HO
            have zdc0 := has_cell zd 0 rfl; have zdc1 := has_cell zd 1 rfl; have zdc2 := has_cell zd 2 rfl; have zdc3 := has_cell zd 3 rfl; have zdc4 := has_cell zd 4 rfl
            have zdlt := has_lt zd
            have zxc0 := has_cell zx 0 rfl; have zxc1 := has_cell zx 1 rfl; have zxc2 := has_cell zx 2 rfl; have zxc3 := has_cell zx 3 rfl; have zxc4 := has_cell zx 4 rfl
            have zxlt := has_lt zx
            have zyc0 := has_cell zy 0 rfl; have zyc1 := has_cell zy 1 rfl; have zyc2 := has_cell zy 2 rfl; have zyc3 := has_cell zy 3 rfl; have zyc4 := has_cell zy 4 rfl
            have zylt := has_lt zy
            have zwc0 := has_cell zw 0 rfl; have zwc1 := has_cell zw 1 rfl; have zwc2 := has_cell zw 2 rfl; have zwc3 := has_cell zw 3 rfl; have zwc4 := has_cell zw 4 rfl
            have zwlt := has_lt zw
            have ZDH := Lib.hid zd; clear zd
            have ZXH := Lib.hid zx; clear zx
            have ZYH := Lib.hid zy; clear zy
            have ZWH := Lib.hid zw; clear zw
            have ZB := Lib.hid zb; clear zb
            go_wp2_with fail
            clear zdc0 zdc1 zdc2 zdc3 zdc4 zdlt zxc0 zxc1 zxc2 zxc3 zxc4 zxlt zyc0 zyc1 zyc2 zyc3 zyc4 zylt zwc0 zwc1 zwc2 zwc3 zwc4 zwlt
            have zd := ZDH.out; clear ZDH
            have zx := ZXH.out; clear ZXH
            have zy := ZYH.out; clear ZYH
            have zw := ZWH.out; clear ZWH
            have zb := ZB.out; clear ZB
            refine (relI_any _ k s l o f).mono ?_
            rintro e w16 ⟨rfl, hb⟩
            rw [drT HA.out]
            have hsw16 := hb.size
            replace zd := has_call zd hb
            replace zx := has_call zx hb
            replace zy := has_call zy hb
            replace zw := has_call zw hb
            replace zb := bthen zb hb; clear hb
            have zdc0 := has_cell zd 0 rfl; have zdc1 := has_cell zd 1 rfl; have zdc2 := has_cell zd 2 rfl; have zdc3 := has_cell zd 3 rfl; have zdc4 := has_cell zd 4 rfl
            have zdlt := has_lt zd
            have zxc0 := has_cell zx 0 rfl; have zxc1 := has_cell zx 1 rfl; have zxc2 := has_cell zx 2 rfl; have zxc3 := has_cell zx 3 rfl; have zxc4 := has_cell zx 4 rfl
            have zxlt := has_lt zx
            have zyc0 := has_cell zy 0 rfl; have zyc1 := has_cell zy 1 rfl; have zyc2 := has_cell zy 2 rfl; have zyc3 := has_cell zy 3 rfl; have zyc4 := has_cell zy 4 rfl
            have zylt := has_lt zy
            have zwc0 := has_cell zw 0 rfl; have zwc1 := has_cell zw 1 rfl; have zwc2 := has_cell zw 2 rfl; have zwc3 := has_cell zw 3 rfl; have zwc4 := has_cell zw 4 rfl
            have zwf0 := has_free zw 0; have zwf1 := has_free zw 1; have zwf2 := has_free zw 2; have zwf3 := has_free zw 3; have zwf4 := has_free zw 4
            have zwlt := has_lt zw
            have ZDH := Lib.hid zd; clear zd
            have ZXH := Lib.hid zx; clear zx
            have ZYH := Lib.hid zy; clear zy
            have ZWH := Lib.hid zw; clear zw
            have ZB := Lib.hid zb; clear zb
            go_wp2_with fail
            clear zdc0 zdc1 zdc2 zdc3 zdc4 zdlt zxc0 zxc1 zxc2 zxc3 zxc4 zxlt zyc0 zyc1 zyc2 zyc3 zyc4 zylt zwc0 zwc1 zwc2 zwc3 zwc4 zwf0 zwf1 zwf2 zwf3 zwf4 zwlt
            have zd := ZDH.out; clear ZDH
            have zx := ZXH.out; clear ZXH
            have zy := ZYH.out; clear ZYH
            have zw := ZWH.out; clear ZWH
            have zb := ZB.out; clear ZB
            go_roundw
            case rel => exact ⟨m + 1, by omega, by go_num, ⟨hoo zd (os5 (only_refl _ _) _ _ _ _ _) (by omega), hoo zx (os5 (only_refl _ _) _ _ _ _ _) (by omega), hoo zy (os5 (only_refl _ _) _ _ _ _ _) (by omega)⟩, by rw [HO2.out]; exact hs5 zw _ _ _ _ _, bs5 (by omega) _ _ _ _ _ zb⟩
            case measure => simp [intOf]; omega
          have HM3 := Lib.hid (show m = 3 by omega)
          have HE := Lib.hid (opR_end false n ht4 ht1 m (by omega) (Or.inr HM3.out)); clear hm
          have HE2 := Lib.hid (show opB ⟨k, s, l, o, f⟩ 2 = ⟨0, 0, false, false, false⟩ by rw [← HO.out]; exact HE.out); clear HE HO
          have zdc0 := has_cell zd 0 rfl; have zdc1 := has_cell zd 1 rfl; have zdc2 := has_cell zd 2 rfl; have zdc3 := has_cell zd 3 rfl; have zdc4 := has_cell zd 4 rfl
          have zdlt := has_lt zd
          have zxc0 := has_cell zx 0 rfl; have zxc1 := has_cell zx 1 rfl; have zxc2 := has_cell zx 2 rfl; have zxc3 := has_cell zx 3 rfl; have zxc4 := has_cell zx 4 rfl
          have zxlt := has_lt zx
          have zyc0 := has_cell zy 0 rfl; have zyc1 := has_cell zy 1 rfl; have zyc2 := has_cell zy 2 rfl; have zyc3 := has_cell zy 3 rfl; have zyc4 := has_cell zy 4 rfl
          have zylt := has_lt zy
          have zwc0 := has_cell zw 0 rfl; have zwc1 := has_cell zw 1 rfl; have zwc2 := has_cell zw 2 rfl; have zwc3 := has_cell zw 3 rfl; have zwc4 := has_cell zw 4 rfl
          have zwlt := has_lt zw
          have ZDH := Lib.hid zd; clear zd
          have ZXH := Lib.hid zx; clear zx
          have ZYH := Lib.hid zy; clear zy
          have ZWH := Lib.hid zw; clear zw
          have ZB := Lib.hid zb; clear zb
          go_wp2_with fail
          clear zdc0 zdc1 zdc2 zdc3 zdc4 zdlt zxc0 zxc1 zxc2 zxc3 zxc4 zxlt zyc0 zyc1 zyc2 zyc3 zyc4 zylt zwc0 zwc1 zwc2 zwc3 zwc4 zwlt
          have zd := ZDH.out; clear ZDH
          have zx := ZXH.out; clear ZXH
          have zy := ZYH.out; clear ZYH
          have zw := ZWH.out; clear ZWH
          have zb := ZB.out; clear ZB
          clear hlt
          have ST : Hid ((Has wp (w1.heap.size) 27 #[.int .i64 0, .int .i64 0, .bool false, .bool false, .bool false] ∧ Has wp (w3.heap.size) 27 #[.int .i64 1, .int .i64 1, .bool false, .bool false, .bool false] ∧ Has wp (w5.heap.size + 1) 27 #[.int .i64 0, .int .i64 0, .bool false, .bool false, .bool true]) ∧ Has wp (w12.heap.size) 27 (opB ⟨k, s, l, o, f⟩ 0).A ∧ Below w.heap.size w wp) := Lib.hid ⟨⟨zd, zx, zy⟩, zw, zb⟩
          clear zd zx zy zw zb
          go_loopw [17] (fun iv wr => ∃ j : Nat, j ≤ 2 ∧ iv = .int .i64 j ∧ (Has wr (w1.heap.size) 27 #[.int .i64 0, .int .i64 0, .bool false, .bool false, .bool false] ∧ Has wr (w3.heap.size) 27 #[.int .i64 1, .int .i64 1, .bool false, .bool false, .bool false] ∧ Has wr (w5.heap.size + 1) 27 #[.int .i64 0, .int .i64 0, .bool false, .bool false, .bool true]) ∧ Has wr (w12.heap.size) 27 (opB ⟨k, s, l, o, f⟩ j).A ∧ Below w.heap.size w wr) (fun iv _ => 2 - (intOf iv).toNat)
          case atStart => exact ⟨0, Nat.zero_le _, rfl, ST.out.1, ST.out.2.1, ST.out.2.2⟩
          case round =>
            rename World => wo
            obtain ⟨j, hj, rfl, ⟨zd, zx, zy⟩, hy, zb⟩ := hrel; clear ST
            have hszo := has_lt hy
            by_cases hlt4 : j < 2
            · skip
              obtain ⟨k1, s1, l1, o1, f1, hO⟩ : ∃ (k1 s1 : Int) (l1 o1 f1 : Bool), opB ⟨k, s, l, o, f⟩ j = ⟨k1, s1, l1, o1, f1⟩ := ⟨_, _, _, _, _, rfl⟩
              obtain ⟨k2, s2, l2, o2, f2, hO2⟩ : ∃ (k2 s2 : Int) (l2 o2 f2 : Bool), opB ⟨k, s, l, o, f⟩ (j + 1) = ⟨k2, s2, l2, o2, f2⟩ := ⟨_, _, _, _, _, rfl⟩
              have e9 : opB ⟨k, s, l, o, f⟩ (j + 1) = (advD (opB ⟨k, s, l, o, f⟩ j)).1 := rfl
              rw [hO] at hy e9; rw [hO2] at e9
              have zw : Has wo (w12.heap.size) 27 #[.int .i64 k1, .int .i64 s1, .bool l1, .bool o1, .bool f1] := hy; clear hy
              obtain ⟨q9, hq9⟩ : ∃ q9, (advD ⟨k1, s1, l1, o1, f1⟩).2 = q9 := ⟨_, rfl⟩
              have HA := Lib.hid (show advD ⟨k1, s1, l1, o1, f1⟩ = (⟨k2, s2, l2, o2, f2⟩, q9) from Prod.ext e9.symm hq9)
              have HO2 := Lib.hid hO2; clear hO hO2 e9 hq9
              have zdc0 := has_cell zd 0 rfl; have zdc1 := has_cell zd 1 rfl; have zdc2 := has_cell zd 2 rfl; have zdc3 := has_cell zd 3 rfl; have zdc4 := has_cell zd 4 rfl
              have zdlt := has_lt zd
              have zxc0 := has_cell zx 0 rfl; have zxc1 := has_cell zx 1 rfl; have zxc2 := has_cell zx 2 rfl; have zxc3 := has_cell zx 3 rfl; have zxc4 := has_cell zx 4 rfl
              have zxlt := has_lt zx
              have zyc0 := has_cell zy 0 rfl; have zyc1 := has_cell zy 1 rfl; have zyc2 := has_cell zy 2 rfl; have zyc3 := has_cell zy 3 rfl; have zyc4 := has_cell zy 4 rfl
              have zylt := has_lt zy
              have zwc0 := has_cell zw 0 rfl; have zwc1 := has_cell zw 1 rfl; have zwc2 := has_cell zw 2 rfl; have zwc3 := has_cell zw 3 rfl; have zwc4 := has_cell zw 4 rfl
              have zwlt := has_lt zw
              have ZDH := Lib.hid zd; clear zd
              have ZXH := Lib.hid zx; clear zx
              have ZYH := Lib.hid zy; clear zy
              have ZWH := Lib.hid zw; clear zw
              have ZB := Lib.hid zb; clear zb
              go_wp2_with fail
              clear zdc0 zdc1 zdc2 zdc3 zdc4 zdlt zxc0 zxc1 zxc2 zxc3 zxc4 zxlt zyc0 zyc1 zyc2 zyc3 zyc4 zylt zwc0 zwc1 zwc2 zwc3 zwc4 zwlt
              have zd := ZDH.out; clear ZDH
              have zx := ZXH.out; clear ZXH
              have zy := ZYH.out; clear ZYH
              have zw := ZWH.out; clear ZWH
              have zb := ZB.out; clear ZB
              refine (advI_any _ k1 s1 l1 o1 f1).mono ?_
              rintro e w17 ⟨rfl, hb⟩
              rw [drT HA.out]
              have hsw17 := hb.size
              replace zd := has_call zd hb
              replace zx := has_call zx hb
              replace zy := has_call zy hb
              replace zw := has_call zw hb
              replace zb := bthen zb hb; clear hb
              have zdc0 := has_cell zd 0 rfl; have zdc1 := has_cell zd 1 rfl; have zdc2 := has_cell zd 2 rfl; have zdc3 := has_cell zd 3 rfl; have zdc4 := has_cell zd 4 rfl
              have zdlt := has_lt zd
              have zxc0 := has_cell zx 0 rfl; have zxc1 := has_cell zx 1 rfl; have zxc2 := has_cell zx 2 rfl; have zxc3 := has_cell zx 3 rfl; have zxc4 := has_cell zx 4 rfl
              have zxlt := has_lt zx
              have zyc0 := has_cell zy 0 rfl; have zyc1 := has_cell zy 1 rfl; have zyc2 := has_cell zy 2 rfl; have zyc3 := has_cell zy 3 rfl; have zyc4 := has_cell zy 4 rfl
              have zylt := has_lt zy
              have zwc0 := has_cell zw 0 rfl; have zwc1 := has_cell zw 1 rfl; have zwc2 := has_cell zw 2 rfl; have zwc3 := has_cell zw 3 rfl; have zwc4 := has_cell zw 4 rfl
              have zwf0 := has_free zw 0; have zwf1 := has_free zw 1; have zwf2 := has_free zw 2; have zwf3 := has_free zw 3; have zwf4 := has_free zw 4
              have zwlt := has_lt zw
              have ZDH := Lib.hid zd; clear zd
              have ZXH := Lib.hid zx; clear zx
              have ZYH := Lib.hid zy; clear zy
              have ZWH := Lib.hid zw; clear zw
              have ZB := Lib.hid zb; clear zb
              go_wp2_with fail
              clear zdc0 zdc1 zdc2 zdc3 zdc4 zdlt zxc0 zxc1 zxc2 zxc3 zxc4 zxlt zyc0 zyc1 zyc2 zyc3 zyc4 zylt zwc0 zwc1 zwc2 zwc3 zwc4 zwf0 zwf1 zwf2 zwf3 zwf4 zwlt
              have zd := ZDH.out; clear ZDH
              have zx := ZXH.out; clear ZXH
              have zy := ZYH.out; clear ZYH
              have zw := ZWH.out; clear ZWH
              have zb := ZB.out; clear ZB
              go_roundw
              case rel => exact ⟨j + 1, by omega, by go_num, ⟨hoo zd (os5 (only_refl _ _) _ _ _ _ _) (by omega), hoo zx (os5 (only_refl _ _) _ _ _ _ _) (by omega), hoo zy (os5 (only_refl _ _) _ _ _ _ _) (by omega)⟩, by rw [HO2.out]; exact hs5 zw _ _ _ _ _, bs5 (by omega) _ _ _ _ _ zb⟩
              case measure => simp [intOf]; omega
            obtain rfl : j = 2 := by omega
            rw [HE2.out] at hy
            have zw : Has wo (w12.heap.size) 27 #[.int .i64 0, .int .i64 0, .bool false, .bool false, .bool false] := hy; clear hy hlt4 hj
            have zdc0 := has_cell zd 0 rfl; have zdc1 := has_cell zd 1 rfl; have zdc2 := has_cell zd 2 rfl; have zdc3 := has_cell zd 3 rfl; have zdc4 := has_cell zd 4 rfl
            have zdlt := has_lt zd
            have zxc0 := has_cell zx 0 rfl; have zxc1 := has_cell zx 1 rfl; have zxc2 := has_cell zx 2 rfl; have zxc3 := has_cell zx 3 rfl; have zxc4 := has_cell zx 4 rfl
            have zxlt := has_lt zx
            have zyc0 := has_cell zy 0 rfl; have zyc1 := has_cell zy 1 rfl; have zyc2 := has_cell zy 2 rfl; have zyc3 := has_cell zy 3 rfl; have zyc4 := has_cell zy 4 rfl
            have zylt := has_lt zy
            have zwc0 := has_cell zw 0 rfl; have zwc1 := has_cell zw 1 rfl; have zwc2 := has_cell zw 2 rfl; have zwc3 := has_cell zw 3 rfl; have zwc4 := has_cell zw 4 rfl
            have zwlt := has_lt zw
            have ZDH := Lib.hid zd; clear zd
            have ZXH := Lib.hid zx; clear zx
            have ZYH := Lib.hid zy; clear zy
            have ZWH := Lib.hid zw; clear zw
            have ZB := Lib.hid zb; clear zb
            go_wp2_with fail
            go_ret
            exact ⟨rfl, ZB.out⟩
  · skip
    go_wp2_with fail
    have zb := hb1; clear hb1 y0 hlt1 hge1 r0 r1 hq
    generalize hX : (w1.alloc (.cells #[.int .i64 0, .int .i64 0, .bool false, .bool false, .bool true] 27)) = w2
    have hb : Below w1.heap.size w1 w2 := by rw [← hX]; exact balloc _ _
    have hk : Has w2 w1.heap.size 27 #[.int .i64 0, .int .i64 0, .bool false, .bool false, .bool true] := by rw [← hX]; exact has_new _ _ _
    clear hX
    have hsw2 := hb.size
    replace zb := bthen zb hb; clear hb
    have zd := hk; clear hk; have hlzd := has_lt zd
    refine (begI_any _ 0 0 false false true 2).mono ?_
    rintro e w3 ⟨rfl, hb⟩
    rw [drT (show begD ⟨0, 0, false, false, true⟩ 2 = (⟨2, 1, false, false, true⟩, true) by decide)]
    have hsw3 := hb.size
    replace zd := has_call zd hb
    replace zb := bthen zb hb; clear hb
    have zdc0 := has_cell zd 0 rfl; have zdc1 := has_cell zd 1 rfl; have zdc2 := has_cell zd 2 rfl; have zdc3 := has_cell zd 3 rfl; have zdc4 := has_cell zd 4 rfl
    have zdlt := has_lt zd
    have ZDH := Lib.hid zd; clear zd
    have ZB := Lib.hid zb; clear zb
    go_wp2_with fail
    clear zdc0 zdc1 zdc2 zdc3 zdc4 zdlt
    have zd := ZDH.out; clear ZDH
    have zb := ZB.out; clear ZB
    generalize hX : (w3.alloc (.cells #[.int .i64 2, .int .i64 1, .bool false, .bool false, .bool true] 27)) = w4
    have hb : Below w3.heap.size w3 w4 := by rw [← hX]; exact balloc _ _
    have hk : Has w4 w3.heap.size 27 #[.int .i64 2, .int .i64 1, .bool false, .bool false, .bool true] := by rw [← hX]; exact has_new _ _ _
    clear hX
    have hsw4 := hb.size
    replace zd := has_call zd hb
    replace zb := bthen zb hb; clear hb
    have zx := hk; clear hk; have hlzx := has_lt zx
    refine (begI_any _ 0 0 false false true 1).mono ?_
    rintro e w5 ⟨rfl, hb⟩
    rw [drT (show begD ⟨0, 0, false, false, true⟩ 1 = (⟨0, 0, false, false, true⟩, false) by decide)]
    have hsw5 := hb.size
    replace zd := has_call zd hb
    replace zx := has_call zx hb
    replace zb := bthen zb hb; clear hb
    have zdc0 := has_cell zd 0 rfl; have zdc1 := has_cell zd 1 rfl; have zdc2 := has_cell zd 2 rfl; have zdc3 := has_cell zd 3 rfl; have zdc4 := has_cell zd 4 rfl
    have zdlt := has_lt zd
    have zxc0 := has_cell zx 0 rfl; have zxc1 := has_cell zx 1 rfl; have zxc2 := has_cell zx 2 rfl; have zxc3 := has_cell zx 3 rfl; have zxc4 := has_cell zx 4 rfl
    have zxlt := has_lt zx
    have ZDH := Lib.hid zd; clear zd
    have ZXH := Lib.hid zx; clear zx
    have ZB := Lib.hid zb; clear zb
    go_wp2_with fail
    clear zdc0 zdc1 zdc2 zdc3 zdc4 zdlt zxc0 zxc1 zxc2 zxc3 zxc4 zxlt
    have zd := ZDH.out; clear ZDH
    have zx := ZXH.out; clear ZXH
    have zb := ZB.out; clear ZB
    have hz9 := size_new w5 27 #[.int .i64 0, .int .i64 0, .bool false, .bool false, .bool true]
    generalize hX : (w5.alloc (.cells #[.int .i64 0, .int .i64 0, .bool false, .bool false, .bool true] 27)) = w6 at hz9 ⊢
    have hb : Below w5.heap.size w5 w6 := by rw [← hX]; exact balloc _ _
    have hk : Has w6 w5.heap.size 27 #[.int .i64 0, .int .i64 0, .bool false, .bool false, .bool true] := by rw [← hX]; exact has_new _ _ _
    clear hX
    have hsw6 := hb.size
    replace zd := has_call zd hb
    replace zx := has_call zx hb
    replace zb := bthen zb hb; clear hb
    have zn := hk; clear hk; have hlzn := has_lt zn
    clear zn hlzn
    generalize hX : (w6.alloc (.cells #[.int .i64 2, .int .i64 1, .bool false, .bool false, .bool true] 27)) = w7
    have hb : Below w6.heap.size w6 w7 := by rw [← hX]; exact balloc _ _
    have hk : Has w7 w6.heap.size 27 #[.int .i64 2, .int .i64 1, .bool false, .bool false, .bool true] := by rw [← hX]; exact has_new _ _ _
    clear hX
    have hsw7 := hb.size
    replace zd := has_call zd hb
    replace zx := has_call zx hb
    replace zb := bthen zb hb; clear hb
    have zy := hk; clear hk; have hlzy := has_lt zy
    rw [hz9] at zy hlzy; clear hz9
    have ST : Hid (Has w7 (w1.heap.size) 27 #[.int .i64 0, .int .i64 0, .bool false, .bool false, .bool true] ∧ Has w7 (w3.heap.size) 27 #[.int .i64 2, .int .i64 1, .bool false, .bool false, .bool true] ∧ Has w7 (w5.heap.size + 1) 27 (opA true 0).A ∧ Below w.heap.size w w7) := Lib.hid ⟨zd, zx, zy, zb⟩
    clear zd zx zy zb
    go_loopw [10] (fun iv wr => ∃ n : Nat, n ≤ 6 ∧ iv = .int .i64 n ∧ Has wr (w1.heap.size) 27 #[.int .i64 0, .int .i64 0, .bool false, .bool false, .bool true] ∧ Has wr (w3.heap.size) 27 #[.int .i64 2, .int .i64 1, .bool false, .bool false, .bool true] ∧ Has wr (w5.heap.size + 1) 27 (opA true n).A ∧ Below w.heap.size w wr) (fun iv _ => 6 - (intOf iv).toNat)
    case atStart => exact ⟨0, Nat.zero_le _, rfl, ST.out.1, ST.out.2.1, ST.out.2.2.1, ST.out.2.2.2⟩
    case round =>
      obtain ⟨n, hn, rfl, zd, zx, hy, zb⟩ := hrel; clear ST
      by_cases hlt : n < 6
      · obtain ⟨h1, h2, h3⟩ := opA_go true n hlt
        obtain ⟨k, s, l, o, f, hO⟩ : ∃ (k s : Int) (l o f : Bool), opA true n = ⟨k, s, l, o, f⟩ := ⟨_, _, _, _, _, rfl⟩
        obtain ⟨k2, s2, l2, o2, f2, hO2⟩ : ∃ (k2 s2 : Int) (l2 o2 f2 : Bool), opA true (n + 1) = ⟨k2, s2, l2, o2, f2⟩ := ⟨_, _, _, _, _, rfl⟩
        have e9 : opA true (n + 1) = (advD (opA true n)).1 := rfl
        rw [hO] at hy h1 h3 e9; rw [hO2] at e9 h2
        have zy : Has wr (w5.heap.size + 1) 27 #[.int .i64 k, .int .i64 s, .bool l, .bool o, .bool f] := hy; clear hy
        have HA := Lib.hid (show advD ⟨k, s, l, o, f⟩ = (⟨k2, s2, l2, o2, f2⟩, true) from Prod.ext e9.symm h1)
        have HOK := Lib.hid (show doorB k2 s2 l2 o2 f2 = true from h2)
        have HN := Lib.hid (stepV_some (show 0 ≤ s ∧ s ≤ 6 from h3))
        have HO2 := Lib.hid hO2; clear h1 h2 h3 hO hO2 e9
        have hszy := has_lt zy
        have zdc0 := has_cell zd 0 rfl; have zdc1 := has_cell zd 1 rfl; have zdc2 := has_cell zd 2 rfl; have zdc3 := has_cell zd 3 rfl; have zdc4 := has_cell zd 4 rfl
        have zdlt := has_lt zd
        have zxc0 := has_cell zx 0 rfl; have zxc1 := has_cell zx 1 rfl; have zxc2 := has_cell zx 2 rfl; have zxc3 := has_cell zx 3 rfl; have zxc4 := has_cell zx 4 rfl
        have zxlt := has_lt zx
        have zyc0 := has_cell zy 0 rfl; have zyc1 := has_cell zy 1 rfl; have zyc2 := has_cell zy 2 rfl; have zyc3 := has_cell zy 3 rfl; have zyc4 := has_cell zy 4 rfl
        have zylt := has_lt zy
        have ZDH := Lib.hid zd; clear zd
        have ZXH := Lib.hid zx; clear zx
        have ZYH := Lib.hid zy; clear zy
        have ZB := Lib.hid zb; clear zb
        go_wp2_with fail
        clear zdc0 zdc1 zdc2 zdc3 zdc4 zdlt zxc0 zxc1 zxc2 zxc3 zxc4 zxlt zyc0 zyc1 zyc2 zyc3 zyc4 zylt
        have zd := ZDH.out; clear ZDH
        have zx := ZXH.out; clear ZXH
        have zy := ZYH.out; clear ZYH
        have zb := ZB.out; clear ZB
        refine (advI_any _ k s l o f).mono ?_
        rintro e w8 ⟨rfl, hb⟩
        rw [drT HA.out]
        have hsw8 := hb.size
        replace zd := has_call zd hb
        replace zx := has_call zx hb
        replace zy := has_call zy hb
        replace zb := bthen zb hb; clear hb
        have zdc0 := has_cell zd 0 rfl; have zdc1 := has_cell zd 1 rfl; have zdc2 := has_cell zd 2 rfl; have zdc3 := has_cell zd 3 rfl; have zdc4 := has_cell zd 4 rfl
        have zdlt := has_lt zd
        have zxc0 := has_cell zx 0 rfl; have zxc1 := has_cell zx 1 rfl; have zxc2 := has_cell zx 2 rfl; have zxc3 := has_cell zx 3 rfl; have zxc4 := has_cell zx 4 rfl
        have zxlt := has_lt zx
        have zyc0 := has_cell zy 0 rfl; have zyc1 := has_cell zy 1 rfl; have zyc2 := has_cell zy 2 rfl; have zyc3 := has_cell zy 3 rfl; have zyc4 := has_cell zy 4 rfl
        have zylt := has_lt zy
        have ZDH := Lib.hid zd; clear zd
        have ZXH := Lib.hid zx; clear zx
        have ZYH := Lib.hid zy; clear zy
        have ZB := Lib.hid zb; clear zb
        go_wp2_with fail
        clear zdc0 zdc1 zdc2 zdc3 zdc4 zdlt zxc0 zxc1 zxc2 zxc3 zxc4 zxlt zyc0 zyc1 zyc2 zyc3 zyc4 zylt
        have zd := ZDH.out; clear ZDH
        have zx := ZXH.out; clear ZXH
        have zy := ZYH.out; clear ZYH
        have zb := ZB.out; clear ZB
        generalize hX : (w8.alloc (.cells #[.int .i64 k2, .int .i64 s2, .bool l2, .bool o2, .bool f2] 27)) = w9
        have hb : Below w8.heap.size w8 w9 := by rw [← hX]; exact balloc _ _
        have hk : Has w9 w8.heap.size 27 #[.int .i64 k2, .int .i64 s2, .bool l2, .bool o2, .bool f2] := by rw [← hX]; exact has_new _ _ _
        clear hX
        have hsw9 := hb.size
        replace zd := has_call zd hb
        replace zx := has_call zx hb
        replace zy := has_call zy hb
        replace zb := bthen zb hb; clear hb
        have zz := hk; clear hk; have hlzz := has_lt zz
        refine (stepNameI_any _ s).mono ?_
        rintro e w10 ⟨rfl, hb⟩
        have hsw10 := hb.size
        replace zd := has_call zd hb
        replace zx := has_call zx hb
        replace zy := has_call zy hb
        replace zz := has_call zz hb
        replace zb := bthen zb hb; clear hb
        have hn1 := HN.out; have hn2 : ¬ (stepV s).toList = [] := by rw [← List.isEmpty_iff, hn1]; simp
        have zdc0 := has_cell zd 0 rfl; have zdc1 := has_cell zd 1 rfl; have zdc2 := has_cell zd 2 rfl; have zdc3 := has_cell zd 3 rfl; have zdc4 := has_cell zd 4 rfl
        have zdlt := has_lt zd
        have zxc0 := has_cell zx 0 rfl; have zxc1 := has_cell zx 1 rfl; have zxc2 := has_cell zx 2 rfl; have zxc3 := has_cell zx 3 rfl; have zxc4 := has_cell zx 4 rfl
        have zxlt := has_lt zx
        have zyc0 := has_cell zy 0 rfl; have zyc1 := has_cell zy 1 rfl; have zyc2 := has_cell zy 2 rfl; have zyc3 := has_cell zy 3 rfl; have zyc4 := has_cell zy 4 rfl
        have zylt := has_lt zy
        have zzc0 := has_cell zz 0 rfl; have zzc1 := has_cell zz 1 rfl; have zzc2 := has_cell zz 2 rfl; have zzc3 := has_cell zz 3 rfl; have zzc4 := has_cell zz 4 rfl
        have zzlt := has_lt zz
        have ZDH := Lib.hid zd; clear zd
        have ZXH := Lib.hid zx; clear zx
        have ZYH := Lib.hid zy; clear zy
        have ZZH := Lib.hid zz; clear zz
        have ZB := Lib.hid zb; clear zb
        go_wp2_with fail
        clear zdc0 zdc1 zdc2 zdc3 zdc4 zdlt zxc0 zxc1 zxc2 zxc3 zxc4 zxlt zyc0 zyc1 zyc2 zyc3 zyc4 zylt zzc0 zzc1 zzc2 zzc3 zzc4 zzlt
        have zd := ZDH.out; clear ZDH
        have zx := ZXH.out; clear ZXH
        have zy := ZYH.out; clear ZYH
        have zz := ZZH.out; clear ZZH
        have zb := ZB.out; clear ZB
        refine (doorI_any _ k2 s2 l2 o2 f2).mono ?_
        rintro e w11 ⟨rfl, hb⟩
        rw [HOK.out]
        have hsw11 := hb.size
        replace zd := has_call zd hb
        replace zx := has_call zx hb
        replace zy := has_call zy hb
        replace zz := has_call zz hb
        replace zb := bthen zb hb; clear hb
        have zdc0 := has_cell zd 0 rfl; have zdc1 := has_cell zd 1 rfl; have zdc2 := has_cell zd 2 rfl; have zdc3 := has_cell zd 3 rfl; have zdc4 := has_cell zd 4 rfl
        have zdlt := has_lt zd
        have zxc0 := has_cell zx 0 rfl; have zxc1 := has_cell zx 1 rfl; have zxc2 := has_cell zx 2 rfl; have zxc3 := has_cell zx 3 rfl; have zxc4 := has_cell zx 4 rfl
        have zxlt := has_lt zx
        have zyc0 := has_cell zy 0 rfl; have zyc1 := has_cell zy 1 rfl; have zyc2 := has_cell zy 2 rfl; have zyc3 := has_cell zy 3 rfl; have zyc4 := has_cell zy 4 rfl
        have zyf0 := has_free zy 0; have zyf1 := has_free zy 1; have zyf2 := has_free zy 2; have zyf3 := has_free zy 3; have zyf4 := has_free zy 4
        have zylt := has_lt zy
        have zzc0 := has_cell zz 0 rfl; have zzc1 := has_cell zz 1 rfl; have zzc2 := has_cell zz 2 rfl; have zzc3 := has_cell zz 3 rfl; have zzc4 := has_cell zz 4 rfl
        have zzlt := has_lt zz
        have ZDH := Lib.hid zd; clear zd
        have ZXH := Lib.hid zx; clear zx
        have ZYH := Lib.hid zy; clear zy
        have ZZH := Lib.hid zz; clear zz
        have ZB := Lib.hid zb; clear zb
        go_wp2_with fail
        clear zdc0 zdc1 zdc2 zdc3 zdc4 zdlt zxc0 zxc1 zxc2 zxc3 zxc4 zxlt zyc0 zyc1 zyc2 zyc3 zyc4 zyf0 zyf1 zyf2 zyf3 zyf4 zylt zzc0 zzc1 zzc2 zzc3 zzc4 zzlt
        have zd := ZDH.out; clear ZDH
        have zx := ZXH.out; clear ZXH
        have zy := ZYH.out; clear ZYH
        have zz := ZZH.out; clear ZZH
        have zb := ZB.out; clear ZB
        go_roundw
        case rel => exact ⟨n + 1, by omega, by go_num, hoo zd (os5 (only_refl _ _) _ _ _ _ _) (by omega), hoo zx (os5 (only_refl _ _) _ _ _ _ _) (by omega), by rw [HO2.out]; exact hs5 zy _ _ _ _ _, bs5 (by omega) _ _ _ _ _ zb⟩
        case measure => simp [intOf]; omega
      obtain rfl : n = 6 := by omega
      have zy : Has wr (w5.heap.size + 1) 27 #[.int .i64 0, .int .i64 0, .bool false, .bool false, .bool false] := hy; clear hy hlt hn
      have hszy := has_lt zy
      have hswr := zb.size
      have zdc0 := has_cell zd 0 rfl; have zdc1 := has_cell zd 1 rfl; have zdc2 := has_cell zd 2 rfl; have zdc3 := has_cell zd 3 rfl; have zdc4 := has_cell zd 4 rfl
      have zdlt := has_lt zd
      have zxc0 := has_cell zx 0 rfl; have zxc1 := has_cell zx 1 rfl; have zxc2 := has_cell zx 2 rfl; have zxc3 := has_cell zx 3 rfl; have zxc4 := has_cell zx 4 rfl
      have zxlt := has_lt zx
      have zyc0 := has_cell zy 0 rfl; have zyc1 := has_cell zy 1 rfl; have zyc2 := has_cell zy 2 rfl; have zyc3 := has_cell zy 3 rfl; have zyc4 := has_cell zy 4 rfl
      have zylt := has_lt zy
      have ZDH := Lib.hid zd; clear zd
      have ZXH := Lib.hid zx; clear zx
      have ZYH := Lib.hid zy; clear zy
      have ZB := Lib.hid zb; clear zb
      go_wp2_with fail
      clear zdc0 zdc1 zdc2 zdc3 zdc4 zdlt zxc0 zxc1 zxc2 zxc3 zxc4 zxlt zyc0 zyc1 zyc2 zyc3 zyc4 zylt
      have zd := ZDH.out; clear ZDH
      have zx := ZXH.out; clear ZXH
      have zy := ZYH.out; clear ZYH
      have zb := ZB.out; clear ZB
      refine (HPL.out wr ((HS.out.below zb).below' zb.size)).mono ?_
      rintro e w12 ⟨kb2, kc2, kl2, rfl, hl12, hall, hkc, hlt2, hge2, hb⟩
      obtain ⟨x2, hx2⟩ : ∃ x2, kl2[1]? = some x2 := ⟨_, List.getElem?_eq_getElem (by omega)⟩
      have y1 := hkc 1 x2 hx2
      obtain ⟨r0, r1⟩ := hall x2 (List.mem_of_getElem? hx2)
      clear hkc hall hx2 hl12
      obtain ⟨q, hq, hq0, hq2⟩ : ∃ q : Int, x2 % 3 = q ∧ 0 ≤ q ∧ q ≤ 2 := ⟨_, rfl, by omega, by omega⟩
      have hsw12 := hb.size
      replace zd := has_call zd hb
      replace zx := has_call zx hb
      replace zy := has_call zy hb
      replace zb := bthen zb hb; clear hb
      have zdc0 := has_cell zd 0 rfl; have zdc1 := has_cell zd 1 rfl; have zdc2 := has_cell zd 2 rfl; have zdc3 := has_cell zd 3 rfl; have zdc4 := has_cell zd 4 rfl
      have zdlt := has_lt zd
      have zxc0 := has_cell zx 0 rfl; have zxc1 := has_cell zx 1 rfl; have zxc2 := has_cell zx 2 rfl; have zxc3 := has_cell zx 3 rfl; have zxc4 := has_cell zx 4 rfl
      have zxlt := has_lt zx
      have zyc0 := has_cell zy 0 rfl; have zyc1 := has_cell zy 1 rfl; have zyc2 := has_cell zy 2 rfl; have zyc3 := has_cell zy 3 rfl; have zyc4 := has_cell zy 4 rfl
      have zylt := has_lt zy
      have ZDH := Lib.hid zd; clear zd
      have ZXH := Lib.hid zx; clear zx
      have ZYH := Lib.hid zy; clear zy
      have ZB := Lib.hid zb; clear zb
      go_wp2_with fail
      clear zdc0 zdc1 zdc2 zdc3 zdc4 zdlt zxc0 zxc1 zxc2 zxc3 zxc4 zxlt zyc0 zyc1 zyc2 zyc3 zyc4 zylt
      have zd := ZDH.out; clear ZDH
      have zx := ZXH.out; clear ZXH
      have zy := ZYH.out; clear ZYH
      have zb := ZB.out; clear ZB
      generalize hX : (w12.alloc (.cells #[.int .i64 2, .int .i64 1, .bool false, .bool false, .bool true] 27)) = w13
      have hb : Below w12.heap.size w12 w13 := by rw [← hX]; exact balloc _ _
      have hk : Has w13 w12.heap.size 27 #[.int .i64 2, .int .i64 1, .bool false, .bool false, .bool true] := by rw [← hX]; exact has_new _ _ _
      clear hX
      have hsw13 := hb.size
      replace zd := has_call zd hb
      replace zx := has_call zx hb
      replace zy := has_call zy hb
      replace zb := bthen zb hb; clear hb
      have zw := hk; clear hk; have hlzw := has_lt zw
      obtain ⟨t, ht⟩ : ∃ t : Nat, 1 + q = t := ⟨(1 + q).toNat, by omega⟩
      have ht1 : 1 ≤ t := by omega
      have ht4 : t < 4 := by omega
      have HT := Lib.hid ht; clear y1 hlt2 hge2 r0 r1 hq ht
      have ST : Hid ((Has w13 (w1.heap.size) 27 #[.int .i64 0, .int .i64 0, .bool false, .bool false, .bool true] ∧ Has w13 (w3.heap.size) 27 #[.int .i64 2, .int .i64 1, .bool false, .bool false, .bool true] ∧ Has w13 (w5.heap.size + 1) 27 #[.int .i64 0, .int .i64 0, .bool false, .bool false, .bool false]) ∧ Has w13 (w12.heap.size) 27 (opA true 0).A ∧ Below w.heap.size w w13) := Lib.hid ⟨⟨zd, zx, zy⟩, zw, zb⟩
      clear zd zx zy zw zb
      go_loopw [15] (fun iv wr => ∃ n : Nat, n ≤ t ∧ iv = .int .i64 n ∧ (Has wr (w1.heap.size) 27 #[.int .i64 0, .int .i64 0, .bool false, .bool false, .bool true] ∧ Has wr (w3.heap.size) 27 #[.int .i64 2, .int .i64 1, .bool false, .bool false, .bool true] ∧ Has wr (w5.heap.size + 1) 27 #[.int .i64 0, .int .i64 0, .bool false, .bool false, .bool false]) ∧ Has wr (w12.heap.size) 27 (opA true n).A ∧ Below w.heap.size w wr) (fun iv _ => t - (intOf iv).toNat)
      case atStart => exact ⟨0, Nat.zero_le _, rfl, ST.out.1, ST.out.2.1, ST.out.2.2⟩
      case round =>
        rename World => wq
        obtain ⟨n, hn, rfl, ⟨zd, zx, zy⟩, hy, zb⟩ := hrel; clear ST
        have hszw := has_lt hy
        by_cases hlt : n < t
        · obtain ⟨h1, h2, h3⟩ := opA_go true n (by omega)
          obtain ⟨k, s, l, o, f, hO⟩ : ∃ (k s : Int) (l o f : Bool), opA true n = ⟨k, s, l, o, f⟩ := ⟨_, _, _, _, _, rfl⟩
          obtain ⟨k2, s2, l2, o2, f2, hO2⟩ : ∃ (k2 s2 : Int) (l2 o2 f2 : Bool), opA true (n + 1) = ⟨k2, s2, l2, o2, f2⟩ := ⟨_, _, _, _, _, rfl⟩
          have e9 : opA true (n + 1) = (advD (opA true n)).1 := rfl
          rw [hO] at hy h1 e9; rw [hO2] at e9
          have zw : Has wq (w12.heap.size) 27 #[.int .i64 k, .int .i64 s, .bool l, .bool o, .bool f] := hy; clear hy
          have HA := Lib.hid (show advD ⟨k, s, l, o, f⟩ = (⟨k2, s2, l2, o2, f2⟩, true) from Prod.ext e9.symm h1)
          have HO2 := Lib.hid hO2; clear h1 h2 h3 hO hO2 e9
          have hlq : (n : Int) < 1 + q := by have := HT.out; omega
          have zdc0 := has_cell zd 0 rfl; have zdc1 := has_cell zd 1 rfl; have zdc2 := has_cell zd 2 rfl; have zdc3 := has_cell zd 3 rfl; have zdc4 := has_cell zd 4 rfl
          have zdlt := has_lt zd
          have zxc0 := has_cell zx 0 rfl; have zxc1 := has_cell zx 1 rfl; have zxc2 := has_cell zx 2 rfl; have zxc3 := has_cell zx 3 rfl; have zxc4 := has_cell zx 4 rfl
          have zxlt := has_lt zx
          have zyc0 := has_cell zy 0 rfl; have zyc1 := has_cell zy 1 rfl; have zyc2 := has_cell zy 2 rfl; have zyc3 := has_cell zy 3 rfl; have zyc4 := has_cell zy 4 rfl
          have zylt := has_lt zy
          have zwc0 := has_cell zw 0 rfl; have zwc1 := has_cell zw 1 rfl; have zwc2 := has_cell zw 2 rfl; have zwc3 := has_cell zw 3 rfl; have zwc4 := has_cell zw 4 rfl
          have zwlt := has_lt zw
          have ZDH := Lib.hid zd; clear zd
          have ZXH := Lib.hid zx; clear zx
          have ZYH := Lib.hid zy; clear zy
          have ZWH := Lib.hid zw; clear zw
          have ZB := Lib.hid zb; clear zb
          go_wp2_with fail
          clear zdc0 zdc1 zdc2 zdc3 zdc4 zdlt zxc0 zxc1 zxc2 zxc3 zxc4 zxlt zyc0 zyc1 zyc2 zyc3 zyc4 zylt zwc0 zwc1 zwc2 zwc3 zwc4 zwlt
          have zd := ZDH.out; clear ZDH
          have zx := ZXH.out; clear ZXH
          have zy := ZYH.out; clear ZYH
          have zw := ZWH.out; clear ZWH
          have zb := ZB.out; clear ZB
          refine (advI_any _ k s l o f).mono ?_
          rintro e w14 ⟨rfl, hb⟩
          rw [drT HA.out]
          have hsw14 := hb.size
          replace zd := has_call zd hb
          replace zx := has_call zx hb
          replace zy := has_call zy hb
          replace zw := has_call zw hb
          replace zb := bthen zb hb; clear hb
          have zdc0 := has_cell zd 0 rfl; have zdc1 := has_cell zd 1 rfl; have zdc2 := has_cell zd 2 rfl; have zdc3 := has_cell zd 3 rfl; have zdc4 := has_cell zd 4 rfl
          have zdlt := has_lt zd
          have zxc0 := has_cell zx 0 rfl; have zxc1 := has_cell zx 1 rfl; have zxc2 := has_cell zx 2 rfl; have zxc3 := has_cell zx 3 rfl; have zxc4 := has_cell zx 4 rfl
          have zxlt := has_lt zx
          have zyc0 := has_cell zy 0 rfl; have zyc1 := has_cell zy 1 rfl; have zyc2 := has_cell zy 2 rfl; have zyc3 := has_cell zy 3 rfl; have zyc4 := has_cell zy 4 rfl
          have zylt := has_lt zy
          have zwc0 := has_cell zw 0 rfl; have zwc1 := has_cell zw 1 rfl; have zwc2 := has_cell zw 2 rfl; have zwc3 := has_cell zw 3 rfl; have zwc4 := has_cell zw 4 rfl
          have zwf0 := has_free zw 0; have zwf1 := has_free zw 1; have zwf2 := has_free zw 2; have zwf3 := has_free zw 3; have zwf4 := has_free zw 4
          have zwlt := has_lt zw
          have ZDH := Lib.hid zd; clear zd
          have ZXH := Lib.hid zx; clear zx
          have ZYH := Lib.hid zy; clear zy
          have ZWH := Lib.hid zw; clear zw
          have ZB := Lib.hid zb; clear zb
          go_wp2_with fail
          clear zdc0 zdc1 zdc2 zdc3 zdc4 zdlt zxc0 zxc1 zxc2 zxc3 zxc4 zxlt zyc0 zyc1 zyc2 zyc3 zyc4 zylt zwc0 zwc1 zwc2 zwc3 zwc4 zwf0 zwf1 zwf2 zwf3 zwf4 zwlt
          have zd := ZDH.out; clear ZDH
          have zx := ZXH.out; clear ZXH
          have zy := ZYH.out; clear ZYH
          have zw := ZWH.out; clear ZWH
          have zb := ZB.out; clear ZB
          go_roundw
          case rel => exact ⟨n + 1, by omega, by go_num, ⟨hoo zd (os5 (only_refl _ _) _ _ _ _ _) (by omega), hoo zx (os5 (only_refl _ _) _ _ _ _ _) (by omega), hoo zy (os5 (only_refl _ _) _ _ _ _ _) (by omega)⟩, by rw [HO2.out]; exact hs5 zw _ _ _ _ _, bs5 (by omega) _ _ _ _ _ zb⟩
          case measure => simp [intOf]; omega
        obtain rfl : n = t := by omega
        have hlq : ¬ (n : Int) < 1 + q := by have := HT.out; omega
        have ST : Hid ((Has wq (w1.heap.size) 27 #[.int .i64 0, .int .i64 0, .bool false, .bool false, .bool true] ∧ Has wq (w3.heap.size) 27 #[.int .i64 2, .int .i64 1, .bool false, .bool false, .bool true] ∧ Has wq (w5.heap.size + 1) 27 #[.int .i64 0, .int .i64 0, .bool false, .bool false, .bool false]) ∧ Has wq (w12.heap.size) 27 (opR true n 0).A ∧ Below w.heap.size w wq) := Lib.hid ⟨⟨zd, zx, zy⟩, hy, zb⟩
        clear zd zx zy hy zb hlt hn
        go_wp2_with fail
        go_loopw [16] (fun iv wr => ∃ m : Nat, m ≤ 3 ∧ iv = .int .i64 m ∧ (Has wr (w1.heap.size) 27 #[.int .i64 0, .int .i64 0, .bool false, .bool false, .bool true] ∧ Has wr (w3.heap.size) 27 #[.int .i64 2, .int .i64 1, .bool false, .bool false, .bool true] ∧ Has wr (w5.heap.size + 1) 27 #[.int .i64 0, .int .i64 0, .bool false, .bool false, .bool false]) ∧ Has wr (w12.heap.size) 27 (opR true n m).A ∧ Below w.heap.size w wr) (fun iv _ => 3 - (intOf iv).toNat)
        case atStart => exact ⟨0, Nat.zero_le _, rfl, ST.out.1, ST.out.2.1, ST.out.2.2⟩
        case round =>
          rename World => wp
          obtain ⟨m, hm, rfl, ⟨zd, zx, zy⟩, hy, zb⟩ := hrel; clear ST
          have hszp := has_lt hy
          obtain ⟨k, s, l, o, f, hO⟩ : ∃ (k s : Int) (l o f : Bool), opR true n m = ⟨k, s, l, o, f⟩ := ⟨_, _, _, _, _, rfl⟩
          have HO := Lib.hid hO
          rw [hO] at hy
          have zw : Has wp (w12.heap.size) 27 #[.int .i64 k, .int .i64 s, .bool l, .bool o, .bool f] := hy; clear hy hO
          by_cases hlt : m < 3
          · by_cases h5s : s = 5
            · subst h5s
              have HE := Lib.hid (opR_end true n ht4 ht1 m (by omega) (Or.inl (by rw [HO.out]))); clear hm
              have HE2 := Lib.hid (show opB ⟨k, 5, l, o, f⟩ 2 = ⟨0, 0, false, false, true⟩ by rw [← HO.out]; exact HE.out); clear HE HO
              have zdc0 := has_cell zd 0 rfl; have zdc1 := has_cell zd 1 rfl; have zdc2 := has_cell zd 2 rfl; have zdc3 := has_cell zd 3 rfl; have zdc4 := has_cell zd 4 rfl
              have zdlt := has_lt zd
              have zxc0 := has_cell zx 0 rfl; have zxc1 := has_cell zx 1 rfl; have zxc2 := has_cell zx 2 rfl; have zxc3 := has_cell zx 3 rfl; have zxc4 := has_cell zx 4 rfl
              have zxlt := has_lt zx
              have zyc0 := has_cell zy 0 rfl; have zyc1 := has_cell zy 1 rfl; have zyc2 := has_cell zy 2 rfl; have zyc3 := has_cell zy 3 rfl; have zyc4 := has_cell zy 4 rfl
              have zylt := has_lt zy
              have zwc0 := has_cell zw 0 rfl; have zwc1 := has_cell zw 1 rfl; have zwc2 := has_cell zw 2 rfl; have zwc3 := has_cell zw 3 rfl; have zwc4 := has_cell zw 4 rfl
              have zwlt := has_lt zw
              have ZDH := Lib.hid zd; clear zd
              have ZXH := Lib.hid zx; clear zx
              have ZYH := Lib.hid zy; clear zy
              have ZWH := Lib.hid zw; clear zw
              have ZB := Lib.hid zb; clear zb
              go_wp2_with fail
              clear zdc0 zdc1 zdc2 zdc3 zdc4 zdlt zxc0 zxc1 zxc2 zxc3 zxc4 zxlt zyc0 zyc1 zyc2 zyc3 zyc4 zylt zwc0 zwc1 zwc2 zwc3 zwc4 zwlt
              have zd := ZDH.out; clear ZDH
              have zx := ZXH.out; clear ZXH
              have zy := ZYH.out; clear ZYH
              have zw := ZWH.out; clear ZWH
              have zb := ZB.out; clear ZB
              clear hlt
              have ST : Hid ((Has wp (w1.heap.size) 27 #[.int .i64 0, .int .i64 0, .bool false, .bool false, .bool true] ∧ Has wp (w3.heap.size) 27 #[.int .i64 2, .int .i64 1, .bool false, .bool false, .bool true] ∧ Has wp (w5.heap.size + 1) 27 #[.int .i64 0, .int .i64 0, .bool false, .bool false, .bool false]) ∧ Has wp (w12.heap.size) 27 (opB ⟨k, 5, l, o, f⟩ 0).A ∧ Below w.heap.size w wp) := Lib.hid ⟨⟨zd, zx, zy⟩, zw, zb⟩
              clear zd zx zy zw zb
              go_loopw [17] (fun iv wr => ∃ j : Nat, j ≤ 2 ∧ iv = .int .i64 j ∧ (Has wr (w1.heap.size) 27 #[.int .i64 0, .int .i64 0, .bool false, .bool false, .bool true] ∧ Has wr (w3.heap.size) 27 #[.int .i64 2, .int .i64 1, .bool false, .bool false, .bool true] ∧ Has wr (w5.heap.size + 1) 27 #[.int .i64 0, .int .i64 0, .bool false, .bool false, .bool false]) ∧ Has wr (w12.heap.size) 27 (opB ⟨k, 5, l, o, f⟩ j).A ∧ Below w.heap.size w wr) (fun iv _ => 2 - (intOf iv).toNat)
              case atStart => exact ⟨0, Nat.zero_le _, rfl, ST.out.1, ST.out.2.1, ST.out.2.2⟩
              case round =>
                rename World => wo
                obtain ⟨j, hj, rfl, ⟨zd, zx, zy⟩, hy, zb⟩ := hrel; clear ST
                have hszo := has_lt hy
                by_cases hlt4 : j < 2
                · skip
                  obtain ⟨k1, s1, l1, o1, f1, hO⟩ : ∃ (k1 s1 : Int) (l1 o1 f1 : Bool), opB ⟨k, 5, l, o, f⟩ j = ⟨k1, s1, l1, o1, f1⟩ := ⟨_, _, _, _, _, rfl⟩
                  obtain ⟨k2, s2, l2, o2, f2, hO2⟩ : ∃ (k2 s2 : Int) (l2 o2 f2 : Bool), opB ⟨k, 5, l, o, f⟩ (j + 1) = ⟨k2, s2, l2, o2, f2⟩ := ⟨_, _, _, _, _, rfl⟩
                  have e9 : opB ⟨k, 5, l, o, f⟩ (j + 1) = (advD (opB ⟨k, 5, l, o, f⟩ j)).1 := rfl
                  rw [hO] at hy e9; rw [hO2] at e9
                  have zw : Has wo (w12.heap.size) 27 #[.int .i64 k1, .int .i64 s1, .bool l1, .bool o1, .bool f1] := hy; clear hy
                  obtain ⟨q9, hq9⟩ : ∃ q9, (advD ⟨k1, s1, l1, o1, f1⟩).2 = q9 := ⟨_, rfl⟩
                  have HA := Lib.hid (show advD ⟨k1, s1, l1, o1, f1⟩ = (⟨k2, s2, l2, o2, f2⟩, q9) from Prod.ext e9.symm hq9)
                  have HO2 := Lib.hid hO2; clear hO hO2 e9 hq9
                  have zdc0 := has_cell zd 0 rfl; have zdc1 := has_cell zd 1 rfl; have zdc2 := has_cell zd 2 rfl; have zdc3 := has_cell zd 3 rfl; have zdc4 := has_cell zd 4 rfl
                  have zdlt := has_lt zd
                  have zxc0 := has_cell zx 0 rfl; have zxc1 := has_cell zx 1 rfl; have zxc2 := has_cell zx 2 rfl; have zxc3 := has_cell zx 3 rfl; have zxc4 := has_cell zx 4 rfl
                  have zxlt := has_lt zx
                  have zyc0 := has_cell zy 0 rfl; have zyc1 := has_cell zy 1 rfl; have zyc2 := has_cell zy 2 rfl; have zyc3 := has_cell zy 3 rfl; have zyc4 := has_cell zy 4 rfl
                  have zylt := has_lt zy
                  have zwc0 := has_cell zw 0 rfl; have zwc1 := has_cell zw 1 rfl; have zwc2 := has_cell zw 2 rfl; have zwc3 := has_cell zw 3 rfl; have zwc4 := has_cell zw 4 rfl
                  have zwlt := has_lt zw
                  have ZDH := Lib.hid zd; clear zd
                  have ZXH := Lib.hid zx; clear zx
                  have ZYH := Lib.hid zy; clear zy
                  have ZWH := Lib.hid zw; clear zw
                  have ZB := Lib.hid zb; clear zb
                  go_wp2_with fail
                  clear zdc0 zdc1 zdc2 zdc3 zdc4 zdlt zxc0 zxc1 zxc2 zxc3 zxc4 zxlt zyc0 zyc1 zyc2 zyc3 zyc4 zylt zwc0 zwc1 zwc2 zwc3 zwc4 zwlt
                  have zd := ZDH.out; clear ZDH
                  have zx := ZXH.out; clear ZXH
                  have zy := ZYH.out; clear ZYH
                  have zw := ZWH.out; clear ZWH
                  have zb := ZB.out; clear ZB
                  refine (advI_any _ k1 s1 l1 o1 f1).mono ?_
                  rintro e w15 ⟨rfl, hb⟩
                  rw [drT HA.out]
                  have hsw15 := hb.size
                  replace zd := has_call zd hb
                  replace zx := has_call zx hb
                  replace zy := has_call zy hb
                  replace zw := has_call zw hb
                  replace zb := bthen zb hb; clear hb
                  have zdc0 := has_cell zd 0 rfl; have zdc1 := has_cell zd 1 rfl; have zdc2 := has_cell zd 2 rfl; have zdc3 := has_cell zd 3 rfl; have zdc4 := has_cell zd 4 rfl
                  have zdlt := has_lt zd
                  have zxc0 := has_cell zx 0 rfl; have zxc1 := has_cell zx 1 rfl; have zxc2 := has_cell zx 2 rfl; have zxc3 := has_cell zx 3 rfl; have zxc4 := has_cell zx 4 rfl
                  have zxlt := has_lt zx
                  have zyc0 := has_cell zy 0 rfl; have zyc1 := has_cell zy 1 rfl; have zyc2 := has_cell zy 2 rfl; have zyc3 := has_cell zy 3 rfl; have zyc4 := has_cell zy 4 rfl
                  have zylt := has_lt zy
                  have zwc0 := has_cell zw 0 rfl; have zwc1 := has_cell zw 1 rfl; have zwc2 := has_cell zw 2 rfl; have zwc3 := has_cell zw 3 rfl; have zwc4 := has_cell zw 4 rfl
                  have zwf0 := has_free zw 0; have zwf1 := has_free zw 1; have zwf2 := has_free zw 2; have zwf3 := has_free zw 3; have zwf4 := has_free zw 4
                  have zwlt := has_lt zw
                  have ZDH := Lib.hid zd; clear zd
                  have ZXH := Lib.hid zx; clear zx
                  have ZYH := Lib.hid zy; clear zy
                  have ZWH := Lib.hid zw; clear zw
                  have ZB := Lib.hid zb; clear zb
                  go_wp2_with fail
                  clear zdc0 zdc1 zdc2 zdc3 zdc4 zdlt zxc0 zxc1 zxc2 zxc3 zxc4 zxlt zyc0 zyc1 zyc2 zyc3 zyc4 zylt zwc0 zwc1 zwc2 zwc3 zwc4 zwf0 zwf1 zwf2 zwf3 zwf4 zwlt
                  have zd := ZDH.out; clear ZDH
                  have zx := ZXH.out; clear ZXH
                  have zy := ZYH.out; clear ZYH
                  have zw := ZWH.out; clear ZWH
                  have zb := ZB.out; clear ZB
                  go_roundw
                  case rel => exact ⟨j + 1, by omega, by go_num, ⟨hoo zd (os5 (only_refl _ _) _ _ _ _ _) (by omega), hoo zx (os5 (only_refl _ _) _ _ _ _ _) (by omega), hoo zy (os5 (only_refl _ _) _ _ _ _ _) (by omega)⟩, by rw [HO2.out]; exact hs5 zw _ _ _ _ _, bs5 (by omega) _ _ _ _ _ zb⟩
                  case measure => simp [intOf]; omega
                obtain rfl : j = 2 := by omega
                rw [HE2.out] at hy
                have zw : Has wo (w12.heap.size) 27 #[.int .i64 0, .int .i64 0, .bool false, .bool false, .bool true] := hy; clear hy hlt4 hj
                have zdc0 := has_cell zd 0 rfl; have zdc1 := has_cell zd 1 rfl; have zdc2 := has_cell zd 2 rfl; have zdc3 := has_cell zd 3 rfl; have zdc4 := has_cell zd 4 rfl
                have zdlt := has_lt zd
                have zxc0 := has_cell zx 0 rfl; have zxc1 := has_cell zx 1 rfl; have zxc2 := has_cell zx 2 rfl; have zxc3 := has_cell zx 3 rfl; have zxc4 := has_cell zx 4 rfl
                have zxlt := has_lt zx
                have zyc0 := has_cell zy 0 rfl; have zyc1 := has_cell zy 1 rfl; have zyc2 := has_cell zy 2 rfl; have zyc3 := has_cell zy 3 rfl; have zyc4 := has_cell zy 4 rfl
                have zylt := has_lt zy
                have zwc0 := has_cell zw 0 rfl; have zwc1 := has_cell zw 1 rfl; have zwc2 := has_cell zw 2 rfl; have zwc3 := has_cell zw 3 rfl; have zwc4 := has_cell zw 4 rfl
                have zwlt := has_lt zw
                have ZDH := Lib.hid zd; clear zd
                have ZXH := Lib.hid zx; clear zx
                have ZYH := Lib.hid zy; clear zy
                have ZWH := Lib.hid zw; clear zw
                have ZB := Lib.hid zb; clear zb
                go_wp2_with fail
                go_ret
                exact ⟨rfl, ZB.out⟩
            obtain ⟨k2, s2, l2, o2, f2, hO2⟩ : ∃ (k2 s2 : Int) (l2 o2 f2 : Bool), opR true n (m + 1) = ⟨k2, s2, l2, o2, f2⟩ := ⟨_, _, _, _, _, rfl⟩
            have e9 : opR true n (m + 1) = (relD (opR true n m)).1 := rfl
            rw [HO.out, hO2] at e9
            obtain ⟨q9, hq9⟩ : ∃ q9, (relD ⟨k, s, l, o, f⟩).2 = q9 := ⟨_, rfl⟩
            have HA := Lib.hid (show relD ⟨k, s, l, o, f⟩ = (⟨k2, s2, l2, o2, f2⟩, q9) from Prod.ext e9.symm hq9)
            have HO2 := Lib.hid hO2; clear hO2 e9 hq9 HO
            have zdc0 := has_cell zd 0 rfl; have zdc1 := has_cell zd 1 rfl; have zdc2 := has_cell zd 2 rfl; have zdc3 := has_cell zd 3 rfl; have zdc4 := has_cell zd 4 rfl
            have zdlt := has_lt zd
            have zxc0 := has_cell zx 0 rfl; have zxc1 := has_cell zx 1 rfl; have zxc2 := has_cell zx 2 rfl; have zxc3 := has_cell zx 3 rfl; have zxc4 := has_cell zx 4 rfl
            have zxlt := has_lt zx
            have zyc0 := has_cell zy 0 rfl; have zyc1 := has_cell zy 1 rfl; have zyc2 := has_cell zy 2 rfl; have zyc3 := has_cell zy 3 rfl; have zyc4 := has_cell zy 4 rfl
            have zylt := has_lt zy
            have zwc0 := has_cell zw 0 rfl; have zwc1 := has_cell zw 1 rfl; have zwc2 := has_cell zw 2 rfl; have zwc3 := has_cell zw 3 rfl; have zwc4 := has_cell zw 4 rfl
            have zwlt := has_lt zw
            have ZDH := Lib.hid zd; clear zd
            have ZXH := Lib.hid zx; clear zx
            have ZYH := Lib.hid zy; clear zy
            have ZWH := Lib.hid zw; clear zw
            have ZB := Lib.hid zb; clear zb
            go_wp2_with fail
            clear zdc0 zdc1 zdc2 zdc3 zdc4 zdlt zxc0 zxc1 zxc2 zxc3 zxc4 zxlt zyc0 zyc1 zyc2 zyc3 zyc4 zylt zwc0 zwc1 zwc2 zwc3 zwc4 zwlt
            have zd := ZDH.out; clear ZDH
            have zx := ZXH.out; clear ZXH
            have zy := ZYH.out; clear ZYH
            have zw := ZWH.out; clear ZWH
            have zb := ZB.out; clear ZB
            refine (relI_any _ k s l o f).mono ?_
            rintro e w16 ⟨rfl, hb⟩
            rw [drT HA.out]
            have hsw16 := hb.size
            replace zd := has_call zd hb
            replace zx := has_call zx hb
            replace zy := has_call zy hb
            replace zw := has_call zw hb
            replace zb := bthen zb hb; clear hb
            have zdc0 := has_cell zd 0 rfl; have zdc1 := has_cell zd 1 rfl; have zdc2 := has_cell zd 2 rfl; have zdc3 := has_cell zd 3 rfl; have zdc4 := has_cell zd 4 rfl
            have zdlt := has_lt zd
            have zxc0 := has_cell zx 0 rfl; have zxc1 := has_cell zx 1 rfl; have zxc2 := has_cell zx 2 rfl; have zxc3 := has_cell zx 3 rfl; have zxc4 := has_cell zx 4 rfl
            have zxlt := has_lt zx
            have zyc0 := has_cell zy 0 rfl; have zyc1 := has_cell zy 1 rfl; have zyc2 := has_cell zy 2 rfl; have zyc3 := has_cell zy 3 rfl; have zyc4 := has_cell zy 4 rfl
            have zylt := has_lt zy
            have zwc0 := has_cell zw 0 rfl; have zwc1 := has_cell zw 1 rfl; have zwc2 := has_cell zw 2 rfl; have zwc3 := has_cell zw 3 rfl; have zwc4 := has_cell zw 4 rfl
            have zwf0 := has_free zw 0; have zwf1 := has_free zw 1; have zwf2 := has_free zw 2; have zwf3 := has_free zw 3; have zwf4 := has_free zw 4
            have zwlt := has_lt zw
            have ZDH := Lib.hid zd; clear zd
            have ZXH := Lib.hid zx; clear zx
            have ZYH := Lib.hid zy; clear zy
            have ZWH := Lib.hid zw; clear zw
            have ZB := Lib.hid zb; clear zb
            go_wp2_with fail
            clear zdc0 zdc1 zdc2 zdc3 zdc4 zdlt zxc0 zxc1 zxc2 zxc3 zxc4 zxlt zyc0 zyc1 zyc2 zyc3 zyc4 zylt zwc0 zwc1 zwc2 zwc3 zwc4 zwf0 zwf1 zwf2 zwf3 zwf4 zwlt
            have zd := ZDH.out; clear ZDH
            have zx := ZXH.out; clear ZXH
            have zy := ZYH.out; clear ZYH
            have zw := ZWH.out; clear ZWH
            have zb := ZB.out; clear ZB
            go_roundw
            case rel => exact ⟨m + 1, by omega, by go_num, ⟨hoo zd (os5 (only_refl _ _) _ _ _ _ _) (by omega), hoo zx (os5 (only_refl _ _) _ _ _ _ _) (by omega), hoo zy (os5 (only_refl _ _) _ _ _ _ _) (by omega)⟩, by rw [HO2.out]; exact hs5 zw _ _ _ _ _, bs5 (by omega) _ _ _ _ _ zb⟩
            case measure => simp [intOf]; omega
          have HM3 := Lib.hid (show m = 3 by omega)
          have HE := Lib.hid (opR_end true n ht4 ht1 m (by omega) (Or.inr HM3.out)); clear hm
          have HE2 := Lib.hid (show opB ⟨k, s, l, o, f⟩ 2 = ⟨0, 0, false, false, true⟩ by rw [← HO.out]; exact HE.out); clear HE HO
          have zdc0 := has_cell zd 0 rfl; have zdc1 := has_cell zd 1 rfl; have zdc2 := has_cell zd 2 rfl; have zdc3 := has_cell zd 3 rfl; have zdc4 := has_cell zd 4 rfl
          have zdlt := has_lt zd
          have zxc0 := has_cell zx 0 rfl; have zxc1 := has_cell zx 1 rfl; have zxc2 := has_cell zx 2 rfl; have zxc3 := has_cell zx 3 rfl; have zxc4 := has_cell zx 4 rfl
          have zxlt := has_lt zx
          have zyc0 := has_cell zy 0 rfl; have zyc1 := has_cell zy 1 rfl; have zyc2 := has_cell zy 2 rfl; have zyc3 := has_cell zy 3 rfl; have zyc4 := has_cell zy 4 rfl
          have zylt := has_lt zy
          have zwc0 := has_cell zw 0 rfl; have zwc1 := has_cell zw 1 rfl; have zwc2 := has_cell zw 2 rfl; have zwc3 := has_cell zw 3 rfl; have zwc4 := has_cell zw 4 rfl
          have zwlt := has_lt zw
          have ZDH := Lib.hid zd; clear zd
          have ZXH := Lib.hid zx; clear zx
          have ZYH := Lib.hid zy; clear zy
          have ZWH := Lib.hid zw; clear zw
          have ZB := Lib.hid zb; clear zb
          go_wp2_with fail
          clear zdc0 zdc1 zdc2 zdc3 zdc4 zdlt zxc0 zxc1 zxc2 zxc3 zxc4 zxlt zyc0 zyc1 zyc2 zyc3 zyc4 zylt zwc0 zwc1 zwc2 zwc3 zwc4 zwlt
          have zd := ZDH.out; clear ZDH
          have zx := ZXH.out; clear ZXH
          have zy := ZYH.out; clear ZYH
          have zw := ZWH.out; clear ZWH
          have zb := ZB.out; clear ZB
          clear hlt
          have ST : Hid ((Has wp (w1.heap.size) 27 #[.int .i64 0, .int .i64 0, .bool false, .bool false, .bool true] ∧ Has wp (w3.heap.size) 27 #[.int .i64 2, .int .i64 1, .bool false, .bool false, .bool true] ∧ Has wp (w5.heap.size + 1) 27 #[.int .i64 0, .int .i64 0, .bool false, .bool false, .bool false]) ∧ Has wp (w12.heap.size) 27 (opB ⟨k, s, l, o, f⟩ 0).A ∧ Below w.heap.size w wp) := Lib.hid ⟨⟨zd, zx, zy⟩, zw, zb⟩
          clear zd zx zy zw zb
          go_loopw [17] (fun iv wr => ∃ j : Nat, j ≤ 2 ∧ iv = .int .i64 j ∧ (Has wr (w1.heap.size) 27 #[.int .i64 0, .int .i64 0, .bool false, .bool false, .bool true] ∧ Has wr (w3.heap.size) 27 #[.int .i64 2, .int .i64 1, .bool false, .bool false, .bool true] ∧ Has wr (w5.heap.size + 1) 27 #[.int .i64 0, .int .i64 0, .bool false, .bool false, .bool false]) ∧ Has wr (w12.heap.size) 27 (opB ⟨k, s, l, o, f⟩ j).A ∧ Below w.heap.size w wr) (fun iv _ => 2 - (intOf iv).toNat)
          case atStart => exact ⟨0, Nat.zero_le _, rfl, ST.out.1, ST.out.2.1, ST.out.2.2⟩
          case round =>
            rename World => wo
            obtain ⟨j, hj, rfl, ⟨zd, zx, zy⟩, hy, zb⟩ := hrel; clear ST
            have hszo := has_lt hy
            by_cases hlt4 : j < 2
            · skip
              obtain ⟨k1, s1, l1, o1, f1, hO⟩ : ∃ (k1 s1 : Int) (l1 o1 f1 : Bool), opB ⟨k, s, l, o, f⟩ j = ⟨k1, s1, l1, o1, f1⟩ := ⟨_, _, _, _, _, rfl⟩
              obtain ⟨k2, s2, l2, o2, f2, hO2⟩ : ∃ (k2 s2 : Int) (l2 o2 f2 : Bool), opB ⟨k, s, l, o, f⟩ (j + 1) = ⟨k2, s2, l2, o2, f2⟩ := ⟨_, _, _, _, _, rfl⟩
              have e9 : opB ⟨k, s, l, o, f⟩ (j + 1) = (advD (opB ⟨k, s, l, o, f⟩ j)).1 := rfl
              rw [hO] at hy e9; rw [hO2] at e9
              have zw : Has wo (w12.heap.size) 27 #[.int .i64 k1, .int .i64 s1, .bool l1, .bool o1, .bool f1] := hy; clear hy
              obtain ⟨q9, hq9⟩ : ∃ q9, (advD ⟨k1, s1, l1, o1, f1⟩).2 = q9 := ⟨_, rfl⟩
              have HA := Lib.hid (show advD ⟨k1, s1, l1, o1, f1⟩ = (⟨k2, s2, l2, o2, f2⟩, q9) from Prod.ext e9.symm hq9)
              have HO2 := Lib.hid hO2; clear hO hO2 e9 hq9
              have zdc0 := has_cell zd 0 rfl; have zdc1 := has_cell zd 1 rfl; have zdc2 := has_cell zd 2 rfl; have zdc3 := has_cell zd 3 rfl; have zdc4 := has_cell zd 4 rfl
              have zdlt := has_lt zd
              have zxc0 := has_cell zx 0 rfl; have zxc1 := has_cell zx 1 rfl; have zxc2 := has_cell zx 2 rfl; have zxc3 := has_cell zx 3 rfl; have zxc4 := has_cell zx 4 rfl
              have zxlt := has_lt zx
              have zyc0 := has_cell zy 0 rfl; have zyc1 := has_cell zy 1 rfl; have zyc2 := has_cell zy 2 rfl; have zyc3 := has_cell zy 3 rfl; have zyc4 := has_cell zy 4 rfl
              have zylt := has_lt zy
              have zwc0 := has_cell zw 0 rfl; have zwc1 := has_cell zw 1 rfl; have zwc2 := has_cell zw 2 rfl; have zwc3 := has_cell zw 3 rfl; have zwc4 := has_cell zw 4 rfl
              have zwlt := has_lt zw
              have ZDH := Lib.hid zd; clear zd
              have ZXH := Lib.hid zx; clear zx
              have ZYH := Lib.hid zy; clear zy
              have ZWH := Lib.hid zw; clear zw
              have ZB := Lib.hid zb; clear zb
              go_wp2_with fail
              clear zdc0 zdc1 zdc2 zdc3 zdc4 zdlt zxc0 zxc1 zxc2 zxc3 zxc4 zxlt zyc0 zyc1 zyc2 zyc3 zyc4 zylt zwc0 zwc1 zwc2 zwc3 zwc4 zwlt
              have zd := ZDH.out; clear ZDH
              have zx := ZXH.out; clear ZXH
              have zy := ZYH.out; clear ZYH
              have zw := ZWH.out; clear ZWH
              have zb := ZB.out; clear ZB
              refine (advI_any _ k1 s1 l1 o1 f1).mono ?_
              rintro e w17 ⟨rfl, hb⟩
              rw [drT HA.out]
              have hsw17 := hb.size
              replace zd := has_call zd hb
              replace zx := has_call zx hb
              replace zy := has_call zy hb
              replace zw := has_call zw hb
              replace zb := bthen zb hb; clear hb
              have zdc0 := has_cell zd 0 rfl; have zdc1 := has_cell zd 1 rfl; have zdc2 := has_cell zd 2 rfl; have zdc3 := has_cell zd 3 rfl; have zdc4 := has_cell zd 4 rfl
              have zdlt := has_lt zd
              have zxc0 := has_cell zx 0 rfl; have zxc1 := has_cell zx 1 rfl; have zxc2 := has_cell zx 2 rfl; have zxc3 := has_cell zx 3 rfl; have zxc4 := has_cell zx 4 rfl
              have zxlt := has_lt zx
              have zyc0 := has_cell zy 0 rfl; have zyc1 := has_cell zy 1 rfl; have zyc2 := has_cell zy 2 rfl; have zyc3 := has_cell zy 3 rfl; have zyc4 := has_cell zy 4 rfl
              have zylt := has_lt zy
              have zwc0 := has_cell zw 0 rfl; have zwc1 := has_cell zw 1 rfl; have zwc2 := has_cell zw 2 rfl; have zwc3 := has_cell zw 3 rfl; have zwc4 := has_cell zw 4 rfl
              have zwf0 := has_free zw 0; have zwf1 := has_free zw 1; have zwf2 := has_free zw 2; have zwf3 := has_free zw 3; have zwf4 := has_free zw 4
              have zwlt := has_lt zw
              have ZDH := Lib.hid zd; clear zd
              have ZXH := Lib.hid zx; clear zx
              have ZYH := Lib.hid zy; clear zy
              have ZWH := Lib.hid zw; clear zw
              have ZB := Lib.hid zb; clear zb
              go_wp2_with fail
              clear zdc0 zdc1 zdc2 zdc3 zdc4 zdlt zxc0 zxc1 zxc2 zxc3 zxc4 zxlt zyc0 zyc1 zyc2 zyc3 zyc4 zylt zwc0 zwc1 zwc2 zwc3 zwc4 zwf0 zwf1 zwf2 zwf3 zwf4 zwlt
              have zd := ZDH.out; clear ZDH
              have zx := ZXH.out; clear ZXH
              have zy := ZYH.out; clear ZYH
              have zw := ZWH.out; clear ZWH
              have zb := ZB.out; clear ZB
              go_roundw
              case rel => exact ⟨j + 1, by omega, by go_num, ⟨hoo zd (os5 (only_refl _ _) _ _ _ _ _) (by omega), hoo zx (os5 (only_refl _ _) _ _ _ _ _) (by omega), hoo zy (os5 (only_refl _ _) _ _ _ _ _) (by omega)⟩, by rw [HO2.out]; exact hs5 zw _ _ _ _ _, bs5 (by omega) _ _ _ _ _ zb⟩
              case measure => simp [intOf]; omega
            obtain rfl : j = 2 := by omega
            rw [HE2.out] at hy
            have zw : Has wo (w12.heap.size) 27 #[.int .i64 0, .int .i64 0, .bool false, .bool false, .bool true] := hy; clear hy hlt4 hj
            have zdc0 := has_cell zd 0 rfl; have zdc1 := has_cell zd 1 rfl; have zdc2 := has_cell zd 2 rfl; have zdc3 := has_cell zd 3 rfl; have zdc4 := has_cell zd 4 rfl
            have zdlt := has_lt zd
            have zxc0 := has_cell zx 0 rfl; have zxc1 := has_cell zx 1 rfl; have zxc2 := has_cell zx 2 rfl; have zxc3 := has_cell zx 3 rfl; have zxc4 := has_cell zx 4 rfl
            have zxlt := has_lt zx
            have zyc0 := has_cell zy 0 rfl; have zyc1 := has_cell zy 1 rfl; have zyc2 := has_cell zy 2 rfl; have zyc3 := has_cell zy 3 rfl; have zyc4 := has_cell zy 4 rfl
            have zylt := has_lt zy
            have zwc0 := has_cell zw 0 rfl; have zwc1 := has_cell zw 1 rfl; have zwc2 := has_cell zw 2 rfl; have zwc3 := has_cell zw 3 rfl; have zwc4 := has_cell zw 4 rfl
            have zwlt := has_lt zw
            have ZDH := Lib.hid zd; clear zd
            have ZXH := Lib.hid zx; clear zx
            have ZYH := Lib.hid zy; clear zy
            have ZWH := Lib.hid zw; clear zw
            have ZB := Lib.hid zb; clear zb
            go_wp2_with fail
            go_ret
            exact ⟨rfl, ZB.out⟩
end Go.Proofs.Ytfdpnlliaccopaa
