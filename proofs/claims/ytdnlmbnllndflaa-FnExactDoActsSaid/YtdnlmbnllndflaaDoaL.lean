/- Chapter 4: the walk of the law FnExactDoActs. -/
import Derived.Test.YtdnlmbnllndflaaDoaI
import Derived.Test.YtdnlmbnllndflaaDoaS
import Derived.Test.YtdnlmbnllndflaaDorL
namespace Go.Proofs.Ytdnlmbnllndflaa
open Go.RowKit
set_option linter.unusedVariables false
theorem doaI_any (w : World) (B : Nat) (k s : Int) (l o f : Bool) (A : Option Addr) (c : Nat) (L : List Int) (hl : L.length ≤ maxLen) (hB : B ≤ w.heap.size) (hS : IL w B A L) : Calls Try.prog 19 #[.agg #[.int .i64 k, .int .i64 s, .bool l, .bool o, .bool f], .slice A L.length c] w (DoaAns (doActs ⟨k, s, l, o, f⟩ L) w) := by
  cases hok : doorB k s l o f
  · exact doaI_no1 w B k s l o f A c L hl hB hS hok
  · cases ha : actsB L
    · exact doaI_no2 w B k s l o f A c L hl hB hS hok ha
    · exact doaI_yes w B k s l o f A c L hl hB hS hok ha
theorem doaS_any (w : World) (B : Nat) (k s : Int) (l o f : Bool) (A : Option Addr) (c : Nat) (L : List Int) (hl : L.length ≤ maxLen) (hB : B ≤ w.heap.size) (hS : IL w B A L) : Calls Try.prog 17 #[.agg #[.int .i64 k, .int .i64 s, .bool l, .bool o, .bool f], .slice A L.length c] w (DoaAns (doActs ⟨k, s, l, o, f⟩ L) w) := by
  cases hok : doorB k s l o f
  · exact doaS_no1 w B k s l o f A c L hl hB hS hok
  · by_cases hbig : 200 < L.length
    · exact doaS_big w B k s l o f A c L hl hB hS hok hbig
    · exact doaS_yes w B k s l o f A c L hl hB hS hok (by omega)
theorem doActs_len (d : Dr) (l : List Int) : (doActs d l).2.length ≤ l.length := by
  unfold doActs; split
  · exact oAt_len d l l.length
  · exact Nat.zero_le _
theorem doa_open {k s : Int} {l o f : Bool} {R : List Int} {x : Dr × List Int} (hx : x = (⟨k, s, l, o, f⟩, R)) {w : World} {e : Ending} {w' : World} (h : DoaAns x w e w') :
    ∃ A' c', e = .returned (.tuple #[.agg #[.int .i64 k, .int .i64 s, .bool l, .bool o, .bool f], .slice A' R.length c']) ∧ OR w' w.heap.size 3 A' (intV R) ∧ Below w.heap.size w w' := by subst hx; exact h

set_option maxRecDepth 100000 in
set_option maxHeartbeats 8000000 in
theorem doaLaw_walk (k s : Int) (l o f : Bool) (AF : Option Addr) (cF : Nat) (L : List Int) (w : World) (lf : L.length ≤ maxLen) (hS : IL w w.heap.size AF L) : Calls Try.prog 6 #[.agg #[.int .i64 k, .int .i64 s, .bool l, .bool o, .bool f], .slice AF L.length cF] w fun e w' => e = .returned (.bool true) ∧ Below w.heap.size w w' := by
  have HS := Lib.hid hS; clear hS
  by_cases hbig : (1048576 : Int) < L.length
  · unfold maxLen at lf
    go_enter Try.func6, Try.ntmps6
    go_wp2_with fail
    go_ret
    exact ⟨rfl, balloc _ _⟩
  have lf1 : L.length ≤ 1048576 := by omega
  have hnb : (L.length : Int) ≤ 1048576 := by omega
  obtain ⟨k', s', l', o', f', R, hX⟩ : ∃ k' s' l' o' f' R, doActs ⟨k, s, l, o, f⟩ L = (⟨k', s', l', o', f'⟩, R) := ⟨_, _, _, _, _, _, rfl⟩
  have hRl : R.length ≤ L.length := by have := doActs_len ⟨k, s, l, o, f⟩ L; rw [hX] at this; exact this
  have hRm : R.length ≤ maxLen := by unfold maxLen; omega
  have HX := Lib.hid hX; clear hX
  go_enter Try.func6, Try.ntmps6
  go_wp2_with fail
  generalize hX : (w.alloc (.cells #[.int .i64 k, .int .i64 s, .bool l, .bool o, .bool f] 23)) = w1
  have hb : Below w.heap.size w w1 := by rw [← hX]; exact balloc _ _
  have hk : Has w1 w.heap.size 23 #[.int .i64 k, .int .i64 s, .bool l, .bool o, .bool f] := by rw [← hX]; exact has_new _ _ _
  clear hX
  have hsw1 := hb.size
  have zb := hb; clear hb
  have za := hk; clear hk; have hlza := has_lt za
  refine (toDoor_any _ k s l o f).mono ?_
  rintro e w2 ⟨rfl, hb⟩
  have hsw2 := hb.size
  replace za := has_call za hb
  replace zb := bthen zb hb; clear hb
  have zac0 := has_cell za 0 rfl; have zac1 := has_cell za 1 rfl; have zac2 := has_cell za 2 rfl; have zac3 := has_cell za 3 rfl; have zac4 := has_cell za 4 rfl
  have zalt := has_lt za
  have ZAH := Lib.hid za; clear za
  have ZB := Lib.hid zb; clear zb
  go_wp2_with fail
  clear zac0 zac1 zac2 zac3 zac4 zalt
  have za := ZAH.out; clear ZAH
  have zb := ZB.out; clear ZB
  refine (toIntS_any _ w.heap.size AF cF L lf1 (by omega) (HS.out.below zb)).mono ?_
  rintro e w3 ⟨xsA, xsn, rfl, hP, hb⟩
  have hsw3 := hb.size
  replace za := has_call za hb
  replace zb := bthen zb hb; clear hb
  have RI_xs := Lib.hid (OI.of_or hP); clear hP
  have zac0 := has_cell za 0 rfl; have zac1 := has_cell za 1 rfl; have zac2 := has_cell za 2 rfl; have zac3 := has_cell za 3 rfl; have zac4 := has_cell za 4 rfl
  have zalt := has_lt za
  have ZAH := Lib.hid za; clear za
  have ZB := Lib.hid zb; clear zb
  go_wp2_with fail
  clear zac0 zac1 zac2 zac3 zac4 zalt
  have za := ZAH.out; clear ZAH
  have zb := ZB.out; clear ZB
  refine (doaS_any _ w3.heap.size k s l o f xsA xsn L lf (Nat.le_refl _) RI_xs.out.il).mono ?_
  rintro e w4 hans
  obtain ⟨xrA, xrn, rfl, hP, hb⟩ := doa_open HX.out hans; clear hans
  have kk := OI.call RI_xs.out hb; clear RI_xs; have RI_xs := Lib.hid kk; clear kk
  have hsw4 := hb.size
  replace za := has_call za hb
  replace zb := bthen zb hb; clear hb
  have RI_xr := Lib.hid (OI.of_or hP); clear hP
  have zac0 := has_cell za 0 rfl; have zac1 := has_cell za 1 rfl; have zac2 := has_cell za 2 rfl; have zac3 := has_cell za 3 rfl; have zac4 := has_cell za 4 rfl
  have zalt := has_lt za
  have ZAH := Lib.hid za; clear za
  have ZB := Lib.hid zb; clear zb
  go_wp2_with fail
  clear zac0 zac1 zac2 zac3 zac4 zalt
  have za := ZAH.out; clear ZAH
  have zb := ZB.out; clear ZB
  generalize hX : (w4.alloc (.cells #[.int .i64 k', .int .i64 s', .bool l', .bool o', .bool f'] 30)) = w5
  have hb : Below w4.heap.size w4 w5 := by rw [← hX]; exact balloc _ _
  have hk : Has w5 w4.heap.size 30 #[.int .i64 k', .int .i64 s', .bool l', .bool o', .bool f'] := by rw [← hX]; exact has_new _ _ _
  clear hX
  have kk := OI.call RI_xs.out hb; clear RI_xs; have RI_xs := Lib.hid kk; clear kk
  have kk := OI.call RI_xr.out hb; clear RI_xr; have RI_xr := Lib.hid kk; clear kk
  have hsw5 := hb.size
  replace za := has_call za hb
  replace zb := bthen zb hb; clear hb
  have zs := hk; clear hk; have hlzs := has_lt zs
  refine (toIntS_any _ w.heap.size AF cF L lf1 (by omega) (HS.out.below zb)).mono ?_
  rintro e w6 ⟨xxA, xxn, rfl, hP, hb⟩
  have kk := OI.call RI_xs.out hb; clear RI_xs; have RI_xs := Lib.hid kk; clear kk
  have kk := OI.call RI_xr.out hb; clear RI_xr; have RI_xr := Lib.hid kk; clear kk
  have hsw6 := hb.size
  replace za := has_call za hb
  replace zs := has_call zs hb
  replace zb := bthen zb hb; clear hb
  have RI_xx := Lib.hid (OI.of_or hP); clear hP
  have zac0 := has_cell za 0 rfl; have zac1 := has_cell za 1 rfl; have zac2 := has_cell za 2 rfl; have zac3 := has_cell za 3 rfl; have zac4 := has_cell za 4 rfl
  have zalt := has_lt za
  have zsc0 := has_cell zs 0 rfl; have zsc1 := has_cell zs 1 rfl; have zsc2 := has_cell zs 2 rfl; have zsc3 := has_cell zs 3 rfl; have zsc4 := has_cell zs 4 rfl
  have zslt := has_lt zs
  have ZAH := Lib.hid za; clear za
  have ZSH := Lib.hid zs; clear zs
  have ZB := Lib.hid zb; clear zb
  go_wp2_with fail
  clear zac0 zac1 zac2 zac3 zac4 zalt zsc0 zsc1 zsc2 zsc3 zsc4 zslt
  have za := ZAH.out; clear ZAH
  have zs := ZSH.out; clear ZSH
  have zb := ZB.out; clear ZB
  refine (toDoor_any _ k s l o f).mono ?_
  rintro e w7 ⟨rfl, hb⟩
  have kk := OI.call RI_xs.out hb; clear RI_xs; have RI_xs := Lib.hid kk; clear kk
  have kk := OI.call RI_xr.out hb; clear RI_xr; have RI_xr := Lib.hid kk; clear kk
  have kk := OI.call RI_xx.out hb; clear RI_xx; have RI_xx := Lib.hid kk; clear kk
  have hsw7 := hb.size
  replace za := has_call za hb
  replace zs := has_call zs hb
  replace zb := bthen zb hb; clear hb
  have zac0 := has_cell za 0 rfl; have zac1 := has_cell za 1 rfl; have zac2 := has_cell za 2 rfl; have zac3 := has_cell za 3 rfl; have zac4 := has_cell za 4 rfl
  have zalt := has_lt za
  have zsc0 := has_cell zs 0 rfl; have zsc1 := has_cell zs 1 rfl; have zsc2 := has_cell zs 2 rfl; have zsc3 := has_cell zs 3 rfl; have zsc4 := has_cell zs 4 rfl
  have zslt := has_lt zs
  have ZAH := Lib.hid za; clear za
  have ZSH := Lib.hid zs; clear zs
  have ZB := Lib.hid zb; clear zb
  go_wp2_with fail
  clear zac0 zac1 zac2 zac3 zac4 zalt zsc0 zsc1 zsc2 zsc3 zsc4 zslt
  have za := ZAH.out; clear ZAH
  have zs := ZSH.out; clear ZSH
  have zb := ZB.out; clear ZB
  refine (doaI_any _ w7.heap.size k s l o f xxA xxn L lf (Nat.le_refl _) RI_xx.out.il).mono ?_
  rintro e w8 hans
  obtain ⟨xgA, xgn, rfl, hP, hb⟩ := doa_open HX.out hans; clear hans
  have kk := OI.call RI_xs.out hb; clear RI_xs; have RI_xs := Lib.hid kk; clear kk
  have kk := OI.call RI_xr.out hb; clear RI_xr; have RI_xr := Lib.hid kk; clear kk
  have kk := OI.call RI_xx.out hb; clear RI_xx; have RI_xx := Lib.hid kk; clear kk
  have hsw8 := hb.size
  replace za := has_call za hb
  replace zs := has_call zs hb
  replace zb := bthen zb hb; clear hb
  have RI_xg := Lib.hid (OI.of_or hP); clear hP
  have zac0 := has_cell za 0 rfl; have zac1 := has_cell za 1 rfl; have zac2 := has_cell za 2 rfl; have zac3 := has_cell za 3 rfl; have zac4 := has_cell za 4 rfl
  have zalt := has_lt za
  have zsc0 := has_cell zs 0 rfl; have zsc1 := has_cell zs 1 rfl; have zsc2 := has_cell zs 2 rfl; have zsc3 := has_cell zs 3 rfl; have zsc4 := has_cell zs 4 rfl
  have zslt := has_lt zs
  have ZAH := Lib.hid za; clear za
  have ZSH := Lib.hid zs; clear zs
  have ZB := Lib.hid zb; clear zb
  go_wp2_with fail
  clear zac0 zac1 zac2 zac3 zac4 zalt zsc0 zsc1 zsc2 zsc3 zsc4 zslt
  have za := ZAH.out; clear ZAH
  have zs := ZSH.out; clear ZSH
  have zb := ZB.out; clear ZB
  generalize hX : (w8.alloc (.cells #[.int .i64 k', .int .i64 s', .bool l', .bool o', .bool f'] 30)) = w9
  have hb : Below w8.heap.size w8 w9 := by rw [← hX]; exact balloc _ _
  have hk : Has w9 w8.heap.size 30 #[.int .i64 k', .int .i64 s', .bool l', .bool o', .bool f'] := by rw [← hX]; exact has_new _ _ _
  clear hX
  have kk := OI.call RI_xs.out hb; clear RI_xs; have RI_xs := Lib.hid kk; clear kk
  have kk := OI.call RI_xr.out hb; clear RI_xr; have RI_xr := Lib.hid kk; clear kk
  have kk := OI.call RI_xx.out hb; clear RI_xx; have RI_xx := Lib.hid kk; clear kk
  have kk := OI.call RI_xg.out hb; clear RI_xg; have RI_xg := Lib.hid kk; clear kk
  have hsw9 := hb.size
  replace za := has_call za hb
  replace zs := has_call zs hb
  replace zb := bthen zb hb; clear hb
  have zg := hk; clear hk; have hlzg := has_lt zg
  have hR1 : R.length ≤ 1048576 := by omega
  refine (eqDoor_any _ k' s' l' o' f').mono ?_
  rintro e w10 ⟨rfl, hb⟩
  have kk := OI.call RI_xs.out hb; clear RI_xs; have RI_xs := Lib.hid kk; clear kk
  have kk := OI.call RI_xr.out hb; clear RI_xr; have RI_xr := Lib.hid kk; clear kk
  have kk := OI.call RI_xx.out hb; clear RI_xx; have RI_xx := Lib.hid kk; clear kk
  have kk := OI.call RI_xg.out hb; clear RI_xg; have RI_xg := Lib.hid kk; clear kk
  have hsw10 := hb.size
  replace za := has_call za hb
  replace zs := has_call zs hb
  replace zg := has_call zg hb
  replace zb := bthen zb hb; clear hb
  have zac0 := has_cell za 0 rfl; have zac1 := has_cell za 1 rfl; have zac2 := has_cell za 2 rfl; have zac3 := has_cell za 3 rfl; have zac4 := has_cell za 4 rfl
  have zalt := has_lt za
  have zsc0 := has_cell zs 0 rfl; have zsc1 := has_cell zs 1 rfl; have zsc2 := has_cell zs 2 rfl; have zsc3 := has_cell zs 3 rfl; have zsc4 := has_cell zs 4 rfl
  have zslt := has_lt zs
  have zgc0 := has_cell zg 0 rfl; have zgc1 := has_cell zg 1 rfl; have zgc2 := has_cell zg 2 rfl; have zgc3 := has_cell zg 3 rfl; have zgc4 := has_cell zg 4 rfl
  have zglt := has_lt zg
  have ZAH := Lib.hid za; clear za
  have ZSH := Lib.hid zs; clear zs
  have ZGH := Lib.hid zg; clear zg
  have ZB := Lib.hid zb; clear zb
  go_wp2_with fail
  clear zac0 zac1 zac2 zac3 zac4 zalt zsc0 zsc1 zsc2 zsc3 zsc4 zslt zgc0 zgc1 zgc2 zgc3 zgc4 zglt
  have za := ZAH.out; clear ZAH
  have zs := ZSH.out; clear ZSH
  have zg := ZGH.out; clear ZGH
  have zb := ZB.out; clear ZB
  refine (eqIntS_any _ w10.heap.size w10.heap.size xgA xrA xgn xrn R hRm (Nat.le_refl _) (Nat.le_refl _) RI_xg.out.il RI_xr.out.il).mono ?_
  rintro e w11 ⟨rfl, hb⟩
  have kk := OI.call RI_xs.out hb; clear RI_xs; have RI_xs := Lib.hid kk; clear kk
  have kk := OI.call RI_xr.out hb; clear RI_xr; have RI_xr := Lib.hid kk; clear kk
  have kk := OI.call RI_xx.out hb; clear RI_xx; have RI_xx := Lib.hid kk; clear kk
  have kk := OI.call RI_xg.out hb; clear RI_xg; have RI_xg := Lib.hid kk; clear kk
  have hsw11 := hb.size
  replace za := has_call za hb
  replace zs := has_call zs hb
  replace zg := has_call zg hb
  replace zb := bthen zb hb; clear hb
  have zac0 := has_cell za 0 rfl; have zac1 := has_cell za 1 rfl; have zac2 := has_cell za 2 rfl; have zac3 := has_cell za 3 rfl; have zac4 := has_cell za 4 rfl
  have zalt := has_lt za
  have zsc0 := has_cell zs 0 rfl; have zsc1 := has_cell zs 1 rfl; have zsc2 := has_cell zs 2 rfl; have zsc3 := has_cell zs 3 rfl; have zsc4 := has_cell zs 4 rfl
  have zslt := has_lt zs
  have zgc0 := has_cell zg 0 rfl; have zgc1 := has_cell zg 1 rfl; have zgc2 := has_cell zg 2 rfl; have zgc3 := has_cell zg 3 rfl; have zgc4 := has_cell zg 4 rfl
  have zglt := has_lt zg
  have ZAH := Lib.hid za; clear za
  have ZSH := Lib.hid zs; clear zs
  have ZGH := Lib.hid zg; clear zg
  have ZB := Lib.hid zb; clear zb
  go_wp2_with fail
  clear zac0 zac1 zac2 zac3 zac4 zalt zsc0 zsc1 zsc2 zsc3 zsc4 zslt zgc0 zgc1 zgc2 zgc3 zgc4 zglt
  have za := ZAH.out; clear ZAH
  have zs := ZSH.out; clear ZSH
  have zg := ZGH.out; clear ZGH
  have zb := ZB.out; clear ZB
  refine (toIntS_any _ w.heap.size AF cF L lf1 (by omega) (HS.out.below zb)).mono ?_
  rintro e w12 ⟨xyA, xyn, rfl, hP, hb⟩
  have kk := OI.call RI_xs.out hb; clear RI_xs; have RI_xs := Lib.hid kk; clear kk
  have kk := OI.call RI_xr.out hb; clear RI_xr; have RI_xr := Lib.hid kk; clear kk
  have kk := OI.call RI_xx.out hb; clear RI_xx; have RI_xx := Lib.hid kk; clear kk
  have kk := OI.call RI_xg.out hb; clear RI_xg; have RI_xg := Lib.hid kk; clear kk
  have hsw12 := hb.size
  replace za := has_call za hb
  replace zs := has_call zs hb
  replace zg := has_call zg hb
  replace zb := bthen zb hb; clear hb
  have RI_xy := Lib.hid (OI.of_or hP); clear hP
  have zac0 := has_cell za 0 rfl; have zac1 := has_cell za 1 rfl; have zac2 := has_cell za 2 rfl; have zac3 := has_cell za 3 rfl; have zac4 := has_cell za 4 rfl
  have zalt := has_lt za
  have zsc0 := has_cell zs 0 rfl; have zsc1 := has_cell zs 1 rfl; have zsc2 := has_cell zs 2 rfl; have zsc3 := has_cell zs 3 rfl; have zsc4 := has_cell zs 4 rfl
  have zslt := has_lt zs
  have zgc0 := has_cell zg 0 rfl; have zgc1 := has_cell zg 1 rfl; have zgc2 := has_cell zg 2 rfl; have zgc3 := has_cell zg 3 rfl; have zgc4 := has_cell zg 4 rfl
  have zglt := has_lt zg
  have ZAH := Lib.hid za; clear za
  have ZSH := Lib.hid zs; clear zs
  have ZGH := Lib.hid zg; clear zg
  have ZB := Lib.hid zb; clear zb
  go_wp2_with fail
  clear zac0 zac1 zac2 zac3 zac4 zalt zsc0 zsc1 zsc2 zsc3 zsc4 zslt zgc0 zgc1 zgc2 zgc3 zgc4 zglt
  have za := ZAH.out; clear ZAH
  have zs := ZSH.out; clear ZSH
  have zg := ZGH.out; clear ZGH
  have zb := ZB.out; clear ZB
  refine (eqIntS_any _ w12.heap.size w12.heap.size xxA xyA xxn xyn L lf (Nat.le_refl _) (Nat.le_refl _) RI_xx.out.il RI_xy.out.il).mono ?_
  rintro e w13 ⟨rfl, hb⟩
  have kk := OI.call RI_xs.out hb; clear RI_xs; have RI_xs := Lib.hid kk; clear kk
  have kk := OI.call RI_xr.out hb; clear RI_xr; have RI_xr := Lib.hid kk; clear kk
  have kk := OI.call RI_xx.out hb; clear RI_xx; have RI_xx := Lib.hid kk; clear kk
  have kk := OI.call RI_xg.out hb; clear RI_xg; have RI_xg := Lib.hid kk; clear kk
  have kk := OI.call RI_xy.out hb; clear RI_xy; have RI_xy := Lib.hid kk; clear kk
  have hsw13 := hb.size
  replace za := has_call za hb
  replace zs := has_call zs hb
  replace zg := has_call zg hb
  replace zb := bthen zb hb; clear hb
  have zac0 := has_cell za 0 rfl; have zac1 := has_cell za 1 rfl; have zac2 := has_cell za 2 rfl; have zac3 := has_cell za 3 rfl; have zac4 := has_cell za 4 rfl
  have zalt := has_lt za
  have zsc0 := has_cell zs 0 rfl; have zsc1 := has_cell zs 1 rfl; have zsc2 := has_cell zs 2 rfl; have zsc3 := has_cell zs 3 rfl; have zsc4 := has_cell zs 4 rfl
  have zslt := has_lt zs
  have zgc0 := has_cell zg 0 rfl; have zgc1 := has_cell zg 1 rfl; have zgc2 := has_cell zg 2 rfl; have zgc3 := has_cell zg 3 rfl; have zgc4 := has_cell zg 4 rfl
  have zglt := has_lt zg
  have ZAH := Lib.hid za; clear za
  have ZSH := Lib.hid zs; clear zs
  have ZGH := Lib.hid zg; clear zg
  have ZB := Lib.hid zb; clear zb
  go_wp2_with fail
  clear zac0 zac1 zac2 zac3 zac4 zalt zsc0 zsc1 zsc2 zsc3 zsc4 zslt zgc0 zgc1 zgc2 zgc3 zgc4 zglt
  have za := ZAH.out; clear ZAH
  have zs := ZSH.out; clear ZSH
  have zg := ZGH.out; clear ZGH
  have zb := ZB.out; clear ZB
  refine (markInt_any _ (w5.heap.size) xxA xxn L 1 lf1 (by omega) (by omega) RI_xx.out.or_).mono ?_
  rintro e w14 ⟨rfl, hF, hmk⟩
  have hw := within_marks RI_xx.out hmk
  have kk := oi_marked RI_xx.out hF intV_seq; clear RI_xx; have RI_xx := Lib.hid kk; clear kk hF hmk
  replace za := hw.has za (by omega)
  replace zs := hw.has zs (by omega)
  replace zg := hw.has zg (by omega)
  have kk := hw.oi RI_xs.out (by omega); clear RI_xs; have RI_xs := Lib.hid kk; clear kk
  have kk := hw.oi RI_xr.out (by omega); clear RI_xr; have RI_xr := Lib.hid kk; clear kk
  have kk := hw.oi RI_xg.out (by omega); clear RI_xg; have RI_xg := Lib.hid kk; clear kk
  have kk := hw.oi RI_xy.out (by omega); clear RI_xy; have RI_xy := Lib.hid kk; clear kk
  replace zb := zb.trans (hw.below (B := w.heap.size) (by omega) (by omega))
  have hsw14 := hw.size
  clear hw
  have zac0 := has_cell za 0 rfl; have zac1 := has_cell za 1 rfl; have zac2 := has_cell za 2 rfl; have zac3 := has_cell za 3 rfl; have zac4 := has_cell za 4 rfl
  have zalt := has_lt za
  have zsc0 := has_cell zs 0 rfl; have zsc1 := has_cell zs 1 rfl; have zsc2 := has_cell zs 2 rfl; have zsc3 := has_cell zs 3 rfl; have zsc4 := has_cell zs 4 rfl
  have zslt := has_lt zs
  have zgc0 := has_cell zg 0 rfl; have zgc1 := has_cell zg 1 rfl; have zgc2 := has_cell zg 2 rfl; have zgc3 := has_cell zg 3 rfl; have zgc4 := has_cell zg 4 rfl
  have zglt := has_lt zg
  have ZAH := Lib.hid za; clear za
  have ZSH := Lib.hid zs; clear zs
  have ZGH := Lib.hid zg; clear zg
  have ZB := Lib.hid zb; clear zb
  go_wp2_with fail
  clear zac0 zac1 zac2 zac3 zac4 zalt zsc0 zsc1 zsc2 zsc3 zsc4 zslt zgc0 zgc1 zgc2 zgc3 zgc4 zglt
  have za := ZAH.out; clear ZAH
  have zs := ZSH.out; clear ZSH
  have zg := ZGH.out; clear ZGH
  have zb := ZB.out; clear ZB
  refine (eqDoor_any _ k' s' l' o' f').mono ?_
  rintro e w15 ⟨rfl, hb⟩
  have kk := OI.call RI_xs.out hb; clear RI_xs; have RI_xs := Lib.hid kk; clear kk
  have kk := OI.call RI_xr.out hb; clear RI_xr; have RI_xr := Lib.hid kk; clear kk
  have kk := OI.call RI_xx.out hb; clear RI_xx; have RI_xx := Lib.hid kk; clear kk
  have kk := OI.call RI_xg.out hb; clear RI_xg; have RI_xg := Lib.hid kk; clear kk
  have kk := OI.call RI_xy.out hb; clear RI_xy; have RI_xy := Lib.hid kk; clear kk
  have hsw15 := hb.size
  replace za := has_call za hb
  replace zs := has_call zs hb
  replace zg := has_call zg hb
  replace zb := bthen zb hb; clear hb
  have zac0 := has_cell za 0 rfl; have zac1 := has_cell za 1 rfl; have zac2 := has_cell za 2 rfl; have zac3 := has_cell za 3 rfl; have zac4 := has_cell za 4 rfl
  have zalt := has_lt za
  have zsc0 := has_cell zs 0 rfl; have zsc1 := has_cell zs 1 rfl; have zsc2 := has_cell zs 2 rfl; have zsc3 := has_cell zs 3 rfl; have zsc4 := has_cell zs 4 rfl
  have zslt := has_lt zs
  have zgc0 := has_cell zg 0 rfl; have zgc1 := has_cell zg 1 rfl; have zgc2 := has_cell zg 2 rfl; have zgc3 := has_cell zg 3 rfl; have zgc4 := has_cell zg 4 rfl
  have zglt := has_lt zg
  have ZAH := Lib.hid za; clear za
  have ZSH := Lib.hid zs; clear zs
  have ZGH := Lib.hid zg; clear zg
  have ZB := Lib.hid zb; clear zb
  go_wp2_with fail
  clear zac0 zac1 zac2 zac3 zac4 zalt zsc0 zsc1 zsc2 zsc3 zsc4 zslt zgc0 zgc1 zgc2 zgc3 zgc4 zglt
  have za := ZAH.out; clear ZAH
  have zs := ZSH.out; clear ZSH
  have zg := ZGH.out; clear ZGH
  have zb := ZB.out; clear ZB
  refine (eqIntS_any _ w15.heap.size w15.heap.size xgA xrA xgn xrn R hRm (Nat.le_refl _) (Nat.le_refl _) RI_xg.out.il RI_xr.out.il).mono ?_
  rintro e w16 ⟨rfl, hb⟩
  have kk := OI.call RI_xs.out hb; clear RI_xs; have RI_xs := Lib.hid kk; clear kk
  have kk := OI.call RI_xr.out hb; clear RI_xr; have RI_xr := Lib.hid kk; clear kk
  have kk := OI.call RI_xx.out hb; clear RI_xx; have RI_xx := Lib.hid kk; clear kk
  have kk := OI.call RI_xg.out hb; clear RI_xg; have RI_xg := Lib.hid kk; clear kk
  have kk := OI.call RI_xy.out hb; clear RI_xy; have RI_xy := Lib.hid kk; clear kk
  have hsw16 := hb.size
  replace za := has_call za hb
  replace zs := has_call zs hb
  replace zg := has_call zg hb
  replace zb := bthen zb hb; clear hb
  have zac0 := has_cell za 0 rfl; have zac1 := has_cell za 1 rfl; have zac2 := has_cell za 2 rfl; have zac3 := has_cell za 3 rfl; have zac4 := has_cell za 4 rfl
  have zalt := has_lt za
  have zsc0 := has_cell zs 0 rfl; have zsc1 := has_cell zs 1 rfl; have zsc2 := has_cell zs 2 rfl; have zsc3 := has_cell zs 3 rfl; have zsc4 := has_cell zs 4 rfl
  have zslt := has_lt zs
  have zgc0 := has_cell zg 0 rfl; have zgc1 := has_cell zg 1 rfl; have zgc2 := has_cell zg 2 rfl; have zgc3 := has_cell zg 3 rfl; have zgc4 := has_cell zg 4 rfl
  have zglt := has_lt zg
  have ZAH := Lib.hid za; clear za
  have ZSH := Lib.hid zs; clear zs
  have ZGH := Lib.hid zg; clear zg
  have ZB := Lib.hid zb; clear zb
  go_wp2_with fail
  clear zac0 zac1 zac2 zac3 zac4 zalt zsc0 zsc1 zsc2 zsc3 zsc4 zslt zgc0 zgc1 zgc2 zgc3 zgc4 zglt
  have za := ZAH.out; clear ZAH
  have zs := ZSH.out; clear ZSH
  have zg := ZGH.out; clear ZGH
  have zb := ZB.out; clear ZB
  refine (markInt_any _ (w7.heap.size) xgA xgn R 1 hR1 (by omega) (by omega) RI_xg.out.or_).mono ?_
  rintro e w17 ⟨rfl, hF, hmk⟩
  have hw := within_marks RI_xg.out hmk
  have kk := oi_marked RI_xg.out hF intV_seq; clear RI_xg; have RI_xg := Lib.hid kk; clear kk hF hmk
  replace za := hw.has za (by omega)
  replace zs := hw.has zs (by omega)
  replace zg := hw.has zg (by omega)
  have kk := hw.oi RI_xs.out (by omega); clear RI_xs; have RI_xs := Lib.hid kk; clear kk
  have kk := hw.oi RI_xr.out (by omega); clear RI_xr; have RI_xr := Lib.hid kk; clear kk
  have kk := hw.oi RI_xx.out (by omega); clear RI_xx; have RI_xx := Lib.hid kk; clear kk
  have kk := hw.oi RI_xy.out (by omega); clear RI_xy; have RI_xy := Lib.hid kk; clear kk
  replace zb := zb.trans (hw.below (B := w.heap.size) (by omega) (by omega))
  have hsw17 := hw.size
  clear hw
  have zac0 := has_cell za 0 rfl; have zac1 := has_cell za 1 rfl; have zac2 := has_cell za 2 rfl; have zac3 := has_cell za 3 rfl; have zac4 := has_cell za 4 rfl
  have zalt := has_lt za
  have zsc0 := has_cell zs 0 rfl; have zsc1 := has_cell zs 1 rfl; have zsc2 := has_cell zs 2 rfl; have zsc3 := has_cell zs 3 rfl; have zsc4 := has_cell zs 4 rfl
  have zslt := has_lt zs
  have zgc0 := has_cell zg 0 rfl; have zgc1 := has_cell zg 1 rfl; have zgc2 := has_cell zg 2 rfl; have zgc3 := has_cell zg 3 rfl; have zgc4 := has_cell zg 4 rfl
  have zglt := has_lt zg
  have ZAH := Lib.hid za; clear za
  have ZSH := Lib.hid zs; clear zs
  have ZGH := Lib.hid zg; clear zg
  have ZB := Lib.hid zb; clear zb
  go_wp2_with fail
  clear zac0 zac1 zac2 zac3 zac4 zalt zsc0 zsc1 zsc2 zsc3 zsc4 zslt zgc0 zgc1 zgc2 zgc3 zgc4 zglt
  have za := ZAH.out; clear ZAH
  have zs := ZSH.out; clear ZSH
  have zg := ZGH.out; clear ZGH
  have zb := ZB.out; clear ZB
  refine (heldInt_any _ w17.heap.size xgA xgn R.length 1 hR1 (by omega) (by omega) (Nat.le_refl _) RI_xg.out.il).mono ?_
  rintro e w18 ⟨rfl, hb⟩
  have kk := OI.call RI_xs.out hb; clear RI_xs; have RI_xs := Lib.hid kk; clear kk
  have kk := OI.call RI_xr.out hb; clear RI_xr; have RI_xr := Lib.hid kk; clear kk
  have kk := OI.call RI_xx.out hb; clear RI_xx; have RI_xx := Lib.hid kk; clear kk
  have kk := OI.call RI_xg.out hb; clear RI_xg; have RI_xg := Lib.hid kk; clear kk
  have kk := OI.call RI_xy.out hb; clear RI_xy; have RI_xy := Lib.hid kk; clear kk
  have hsw18 := hb.size
  replace za := has_call za hb
  replace zs := has_call zs hb
  replace zg := has_call zg hb
  replace zb := bthen zb hb; clear hb
  have nq : ((1 + (R.length : Int)) != (1 + (R.length : Int))) = false := by simp
  have zac0 := has_cell za 0 rfl; have zac1 := has_cell za 1 rfl; have zac2 := has_cell za 2 rfl; have zac3 := has_cell za 3 rfl; have zac4 := has_cell za 4 rfl
  have zalt := has_lt za
  have zsc0 := has_cell zs 0 rfl; have zsc1 := has_cell zs 1 rfl; have zsc2 := has_cell zs 2 rfl; have zsc3 := has_cell zs 3 rfl; have zsc4 := has_cell zs 4 rfl
  have zslt := has_lt zs
  have zgc0 := has_cell zg 0 rfl; have zgc1 := has_cell zg 1 rfl; have zgc2 := has_cell zg 2 rfl; have zgc3 := has_cell zg 3 rfl; have zgc4 := has_cell zg 4 rfl
  have zglt := has_lt zg
  have ZAH := Lib.hid za; clear za
  have ZSH := Lib.hid zs; clear zs
  have ZGH := Lib.hid zg; clear zg
  have ZB := Lib.hid zb; clear zb
  go_wp2_with fail
  clear zac0 zac1 zac2 zac3 zac4 zalt zsc0 zsc1 zsc2 zsc3 zsc4 zslt zgc0 zgc1 zgc2 zgc3 zgc4 zglt
  have za := ZAH.out; clear ZAH
  have zs := ZSH.out; clear ZSH
  have zg := ZGH.out; clear ZGH
  have zb := ZB.out; clear ZB
  clear nq
  refine (toDoor_any _ k s l o f).mono ?_
  rintro e w19 ⟨rfl, hb⟩
  have kk := OI.call RI_xs.out hb; clear RI_xs; have RI_xs := Lib.hid kk; clear kk
  have kk := OI.call RI_xr.out hb; clear RI_xr; have RI_xr := Lib.hid kk; clear kk
  have kk := OI.call RI_xx.out hb; clear RI_xx; have RI_xx := Lib.hid kk; clear kk
  have kk := OI.call RI_xg.out hb; clear RI_xg; have RI_xg := Lib.hid kk; clear kk
  have kk := OI.call RI_xy.out hb; clear RI_xy; have RI_xy := Lib.hid kk; clear kk
  have hsw19 := hb.size
  replace za := has_call za hb
  replace zs := has_call zs hb
  replace zg := has_call zg hb
  replace zb := bthen zb hb; clear hb
  have zac0 := has_cell za 0 rfl; have zac1 := has_cell za 1 rfl; have zac2 := has_cell za 2 rfl; have zac3 := has_cell za 3 rfl; have zac4 := has_cell za 4 rfl
  have zalt := has_lt za
  have zsc0 := has_cell zs 0 rfl; have zsc1 := has_cell zs 1 rfl; have zsc2 := has_cell zs 2 rfl; have zsc3 := has_cell zs 3 rfl; have zsc4 := has_cell zs 4 rfl
  have zslt := has_lt zs
  have zgc0 := has_cell zg 0 rfl; have zgc1 := has_cell zg 1 rfl; have zgc2 := has_cell zg 2 rfl; have zgc3 := has_cell zg 3 rfl; have zgc4 := has_cell zg 4 rfl
  have zglt := has_lt zg
  have ZAH := Lib.hid za; clear za
  have ZSH := Lib.hid zs; clear zs
  have ZGH := Lib.hid zg; clear zg
  have ZB := Lib.hid zb; clear zb
  go_wp2_with fail
  clear zac0 zac1 zac2 zac3 zac4 zalt zsc0 zsc1 zsc2 zsc3 zsc4 zslt zgc0 zgc1 zgc2 zgc3 zgc4 zglt
  have za := ZAH.out; clear ZAH
  have zs := ZSH.out; clear ZSH
  have zg := ZGH.out; clear ZGH
  have zb := ZB.out; clear ZB
  refine (toIntS_any _ w.heap.size AF cF L lf1 (by omega) (HS.out.below zb)).mono ?_
  rintro e w20 ⟨xzA, xzn, rfl, hP, hb⟩
  have kk := OI.call RI_xs.out hb; clear RI_xs; have RI_xs := Lib.hid kk; clear kk
  have kk := OI.call RI_xr.out hb; clear RI_xr; have RI_xr := Lib.hid kk; clear kk
  have kk := OI.call RI_xx.out hb; clear RI_xx; have RI_xx := Lib.hid kk; clear kk
  have kk := OI.call RI_xg.out hb; clear RI_xg; have RI_xg := Lib.hid kk; clear kk
  have kk := OI.call RI_xy.out hb; clear RI_xy; have RI_xy := Lib.hid kk; clear kk
  have hsw20 := hb.size
  replace za := has_call za hb
  replace zs := has_call zs hb
  replace zg := has_call zg hb
  replace zb := bthen zb hb; clear hb
  have RI_xz := Lib.hid (OI.of_or hP); clear hP
  have zac0 := has_cell za 0 rfl; have zac1 := has_cell za 1 rfl; have zac2 := has_cell za 2 rfl; have zac3 := has_cell za 3 rfl; have zac4 := has_cell za 4 rfl
  have zalt := has_lt za
  have zsc0 := has_cell zs 0 rfl; have zsc1 := has_cell zs 1 rfl; have zsc2 := has_cell zs 2 rfl; have zsc3 := has_cell zs 3 rfl; have zsc4 := has_cell zs 4 rfl
  have zslt := has_lt zs
  have zgc0 := has_cell zg 0 rfl; have zgc1 := has_cell zg 1 rfl; have zgc2 := has_cell zg 2 rfl; have zgc3 := has_cell zg 3 rfl; have zgc4 := has_cell zg 4 rfl
  have zglt := has_lt zg
  have ZAH := Lib.hid za; clear za
  have ZSH := Lib.hid zs; clear zs
  have ZGH := Lib.hid zg; clear zg
  have ZB := Lib.hid zb; clear zb
  go_wp2_with fail
  clear zac0 zac1 zac2 zac3 zac4 zalt zsc0 zsc1 zsc2 zsc3 zsc4 zslt zgc0 zgc1 zgc2 zgc3 zgc4 zglt
  have za := ZAH.out; clear ZAH
  have zs := ZSH.out; clear ZSH
  have zg := ZGH.out; clear ZGH
  have zb := ZB.out; clear ZB
  refine (doaI_any _ w20.heap.size k s l o f xzA xzn L lf (Nat.le_refl _) RI_xz.out.il).mono ?_
  rintro e w21 hans
  obtain ⟨xhA, xhn, rfl, hP, hb⟩ := doa_open HX.out hans; clear hans
  have kk := OI.call RI_xs.out hb; clear RI_xs; have RI_xs := Lib.hid kk; clear kk
  have kk := OI.call RI_xr.out hb; clear RI_xr; have RI_xr := Lib.hid kk; clear kk
  have kk := OI.call RI_xx.out hb; clear RI_xx; have RI_xx := Lib.hid kk; clear kk
  have kk := OI.call RI_xg.out hb; clear RI_xg; have RI_xg := Lib.hid kk; clear kk
  have kk := OI.call RI_xy.out hb; clear RI_xy; have RI_xy := Lib.hid kk; clear kk
  have kk := OI.call RI_xz.out hb; clear RI_xz; have RI_xz := Lib.hid kk; clear kk
  have hsw21 := hb.size
  replace za := has_call za hb
  replace zs := has_call zs hb
  replace zg := has_call zg hb
  replace zb := bthen zb hb; clear hb
  have RI_xh := Lib.hid (OI.of_or hP); clear hP
  have zac0 := has_cell za 0 rfl; have zac1 := has_cell za 1 rfl; have zac2 := has_cell za 2 rfl; have zac3 := has_cell za 3 rfl; have zac4 := has_cell za 4 rfl
  have zalt := has_lt za
  have zsc0 := has_cell zs 0 rfl; have zsc1 := has_cell zs 1 rfl; have zsc2 := has_cell zs 2 rfl; have zsc3 := has_cell zs 3 rfl; have zsc4 := has_cell zs 4 rfl
  have zslt := has_lt zs
  have zgc0 := has_cell zg 0 rfl; have zgc1 := has_cell zg 1 rfl; have zgc2 := has_cell zg 2 rfl; have zgc3 := has_cell zg 3 rfl; have zgc4 := has_cell zg 4 rfl
  have zglt := has_lt zg
  have ZAH := Lib.hid za; clear za
  have ZSH := Lib.hid zs; clear zs
  have ZGH := Lib.hid zg; clear zg
  have ZB := Lib.hid zb; clear zb
  go_wp2_with fail
  clear zac0 zac1 zac2 zac3 zac4 zalt zsc0 zsc1 zsc2 zsc3 zsc4 zslt zgc0 zgc1 zgc2 zgc3 zgc4 zglt
  have za := ZAH.out; clear ZAH
  have zs := ZSH.out; clear ZSH
  have zg := ZGH.out; clear ZGH
  have zb := ZB.out; clear ZB
  generalize hX : (w21.alloc (.cells #[.int .i64 k', .int .i64 s', .bool l', .bool o', .bool f'] 30)) = w22
  have hb : Below w21.heap.size w21 w22 := by rw [← hX]; exact balloc _ _
  have hk : Has w22 w21.heap.size 30 #[.int .i64 k', .int .i64 s', .bool l', .bool o', .bool f'] := by rw [← hX]; exact has_new _ _ _
  clear hX
  have kk := OI.call RI_xs.out hb; clear RI_xs; have RI_xs := Lib.hid kk; clear kk
  have kk := OI.call RI_xr.out hb; clear RI_xr; have RI_xr := Lib.hid kk; clear kk
  have kk := OI.call RI_xx.out hb; clear RI_xx; have RI_xx := Lib.hid kk; clear kk
  have kk := OI.call RI_xg.out hb; clear RI_xg; have RI_xg := Lib.hid kk; clear kk
  have kk := OI.call RI_xy.out hb; clear RI_xy; have RI_xy := Lib.hid kk; clear kk
  have kk := OI.call RI_xz.out hb; clear RI_xz; have RI_xz := Lib.hid kk; clear kk
  have kk := OI.call RI_xh.out hb; clear RI_xh; have RI_xh := Lib.hid kk; clear kk
  have hsw22 := hb.size
  replace za := has_call za hb
  replace zs := has_call zs hb
  replace zg := has_call zg hb
  replace zb := bthen zb hb; clear hb
  have zh := hk; clear hk; have hlzh := has_lt zh
  refine (eqDoor_any _ k' s' l' o' f').mono ?_
  rintro e w23 ⟨rfl, hb⟩
  have kk := OI.call RI_xs.out hb; clear RI_xs; have RI_xs := Lib.hid kk; clear kk
  have kk := OI.call RI_xr.out hb; clear RI_xr; have RI_xr := Lib.hid kk; clear kk
  have kk := OI.call RI_xx.out hb; clear RI_xx; have RI_xx := Lib.hid kk; clear kk
  have kk := OI.call RI_xg.out hb; clear RI_xg; have RI_xg := Lib.hid kk; clear kk
  have kk := OI.call RI_xy.out hb; clear RI_xy; have RI_xy := Lib.hid kk; clear kk
  have kk := OI.call RI_xz.out hb; clear RI_xz; have RI_xz := Lib.hid kk; clear kk
  have kk := OI.call RI_xh.out hb; clear RI_xh; have RI_xh := Lib.hid kk; clear kk
  have hsw23 := hb.size
  replace za := has_call za hb
  replace zs := has_call zs hb
  replace zg := has_call zg hb
  replace zh := has_call zh hb
  replace zb := bthen zb hb; clear hb
  have zac0 := has_cell za 0 rfl; have zac1 := has_cell za 1 rfl; have zac2 := has_cell za 2 rfl; have zac3 := has_cell za 3 rfl; have zac4 := has_cell za 4 rfl
  have zalt := has_lt za
  have zsc0 := has_cell zs 0 rfl; have zsc1 := has_cell zs 1 rfl; have zsc2 := has_cell zs 2 rfl; have zsc3 := has_cell zs 3 rfl; have zsc4 := has_cell zs 4 rfl
  have zslt := has_lt zs
  have zgc0 := has_cell zg 0 rfl; have zgc1 := has_cell zg 1 rfl; have zgc2 := has_cell zg 2 rfl; have zgc3 := has_cell zg 3 rfl; have zgc4 := has_cell zg 4 rfl
  have zglt := has_lt zg
  have zhc0 := has_cell zh 0 rfl; have zhc1 := has_cell zh 1 rfl; have zhc2 := has_cell zh 2 rfl; have zhc3 := has_cell zh 3 rfl; have zhc4 := has_cell zh 4 rfl
  have zhlt := has_lt zh
  have ZAH := Lib.hid za; clear za
  have ZSH := Lib.hid zs; clear zs
  have ZGH := Lib.hid zg; clear zg
  have ZHH := Lib.hid zh; clear zh
  have ZB := Lib.hid zb; clear zb
  go_wp2_with fail
  clear zac0 zac1 zac2 zac3 zac4 zalt zsc0 zsc1 zsc2 zsc3 zsc4 zslt zgc0 zgc1 zgc2 zgc3 zgc4 zglt zhc0 zhc1 zhc2 zhc3 zhc4 zhlt
  have za := ZAH.out; clear ZAH
  have zs := ZSH.out; clear ZSH
  have zg := ZGH.out; clear ZGH
  have zh := ZHH.out; clear ZHH
  have zb := ZB.out; clear ZB
  refine (eqIntS_any _ w23.heap.size w23.heap.size xhA xrA xhn xrn R hRm (Nat.le_refl _) (Nat.le_refl _) RI_xh.out.il RI_xr.out.il).mono ?_
  rintro e w24 ⟨rfl, hb⟩
  have kk := OI.call RI_xs.out hb; clear RI_xs; have RI_xs := Lib.hid kk; clear kk
  have kk := OI.call RI_xr.out hb; clear RI_xr; have RI_xr := Lib.hid kk; clear kk
  have kk := OI.call RI_xx.out hb; clear RI_xx; have RI_xx := Lib.hid kk; clear kk
  have kk := OI.call RI_xg.out hb; clear RI_xg; have RI_xg := Lib.hid kk; clear kk
  have kk := OI.call RI_xy.out hb; clear RI_xy; have RI_xy := Lib.hid kk; clear kk
  have kk := OI.call RI_xz.out hb; clear RI_xz; have RI_xz := Lib.hid kk; clear kk
  have kk := OI.call RI_xh.out hb; clear RI_xh; have RI_xh := Lib.hid kk; clear kk
  have hsw24 := hb.size
  replace za := has_call za hb
  replace zs := has_call zs hb
  replace zg := has_call zg hb
  replace zh := has_call zh hb
  replace zb := bthen zb hb; clear hb
  have zac0 := has_cell za 0 rfl; have zac1 := has_cell za 1 rfl; have zac2 := has_cell za 2 rfl; have zac3 := has_cell za 3 rfl; have zac4 := has_cell za 4 rfl
  have zalt := has_lt za
  have zsc0 := has_cell zs 0 rfl; have zsc1 := has_cell zs 1 rfl; have zsc2 := has_cell zs 2 rfl; have zsc3 := has_cell zs 3 rfl; have zsc4 := has_cell zs 4 rfl
  have zslt := has_lt zs
  have zgc0 := has_cell zg 0 rfl; have zgc1 := has_cell zg 1 rfl; have zgc2 := has_cell zg 2 rfl; have zgc3 := has_cell zg 3 rfl; have zgc4 := has_cell zg 4 rfl
  have zglt := has_lt zg
  have zhc0 := has_cell zh 0 rfl; have zhc1 := has_cell zh 1 rfl; have zhc2 := has_cell zh 2 rfl; have zhc3 := has_cell zh 3 rfl; have zhc4 := has_cell zh 4 rfl
  have zhlt := has_lt zh
  have ZAH := Lib.hid za; clear za
  have ZSH := Lib.hid zs; clear zs
  have ZGH := Lib.hid zg; clear zg
  have ZHH := Lib.hid zh; clear zh
  have ZB := Lib.hid zb; clear zb
  go_wp2_with fail
  clear zac0 zac1 zac2 zac3 zac4 zalt zsc0 zsc1 zsc2 zsc3 zsc4 zslt zgc0 zgc1 zgc2 zgc3 zgc4 zglt zhc0 zhc1 zhc2 zhc3 zhc4 zhlt
  have za := ZAH.out; clear ZAH
  have zs := ZSH.out; clear ZSH
  have zg := ZGH.out; clear ZGH
  have zh := ZHH.out; clear ZHH
  have zb := ZB.out; clear ZB
  refine (heldInt_any _ w24.heap.size xgA xgn R.length 1 hR1 (by omega) (by omega) (Nat.le_refl _) RI_xg.out.il).mono ?_
  rintro e w25 ⟨rfl, hb⟩
  have kk := OI.call RI_xs.out hb; clear RI_xs; have RI_xs := Lib.hid kk; clear kk
  have kk := OI.call RI_xr.out hb; clear RI_xr; have RI_xr := Lib.hid kk; clear kk
  have kk := OI.call RI_xx.out hb; clear RI_xx; have RI_xx := Lib.hid kk; clear kk
  have kk := OI.call RI_xg.out hb; clear RI_xg; have RI_xg := Lib.hid kk; clear kk
  have kk := OI.call RI_xy.out hb; clear RI_xy; have RI_xy := Lib.hid kk; clear kk
  have kk := OI.call RI_xz.out hb; clear RI_xz; have RI_xz := Lib.hid kk; clear kk
  have kk := OI.call RI_xh.out hb; clear RI_xh; have RI_xh := Lib.hid kk; clear kk
  have hsw25 := hb.size
  replace za := has_call za hb
  replace zs := has_call zs hb
  replace zg := has_call zg hb
  replace zh := has_call zh hb
  replace zb := bthen zb hb; clear hb
  have nq : ((1 + (R.length : Int)) != (1 + (R.length : Int))) = false := by simp
  have zac0 := has_cell za 0 rfl; have zac1 := has_cell za 1 rfl; have zac2 := has_cell za 2 rfl; have zac3 := has_cell za 3 rfl; have zac4 := has_cell za 4 rfl
  have zalt := has_lt za
  have zsc0 := has_cell zs 0 rfl; have zsc1 := has_cell zs 1 rfl; have zsc2 := has_cell zs 2 rfl; have zsc3 := has_cell zs 3 rfl; have zsc4 := has_cell zs 4 rfl
  have zslt := has_lt zs
  have zgc0 := has_cell zg 0 rfl; have zgc1 := has_cell zg 1 rfl; have zgc2 := has_cell zg 2 rfl; have zgc3 := has_cell zg 3 rfl; have zgc4 := has_cell zg 4 rfl
  have zglt := has_lt zg
  have zhc0 := has_cell zh 0 rfl; have zhc1 := has_cell zh 1 rfl; have zhc2 := has_cell zh 2 rfl; have zhc3 := has_cell zh 3 rfl; have zhc4 := has_cell zh 4 rfl
  have zhlt := has_lt zh
  have ZAH := Lib.hid za; clear za
  have ZSH := Lib.hid zs; clear zs
  have ZGH := Lib.hid zg; clear zg
  have ZHH := Lib.hid zh; clear zh
  have ZB := Lib.hid zb; clear zb
  go_wp2_with fail
  clear zac0 zac1 zac2 zac3 zac4 zalt zsc0 zsc1 zsc2 zsc3 zsc4 zslt zgc0 zgc1 zgc2 zgc3 zgc4 zglt zhc0 zhc1 zhc2 zhc3 zhc4 zhlt
  have za := ZAH.out; clear ZAH
  have zs := ZSH.out; clear ZSH
  have zg := ZGH.out; clear ZGH
  have zh := ZHH.out; clear ZHH
  have zb := ZB.out; clear ZB
  go_ret
  exact ⟨rfl, zb⟩
end Go.Proofs.Ytdnlmbnllndflaa
