/- Chapter 4: the walk of the law FnSigns. -/
import Derived.Test.YtlbpmjlkoimalaaDrS
import Derived.Test.YtlbpmjlkoimalaaDorL
import Derived.Deep.DeepCutAuto
namespace Go.Proofs.Ytlbpmjlkoimalaa
open Go.RowKit
set_option linter.unusedVariables false
theorem keep12 {w0 W W' : World} {gf gs gt : Nat} {x0 x1 x2 x3 x4 x5 x6 x7 : Value} (k : W.cell? ⟨gf, 0, none⟩ = some (x0) ∧ W.cell? ⟨gf, 1, none⟩ = some (x1) ∧ W.cell? ⟨gf, 2, none⟩ = some (x2) ∧ W.cell? ⟨gf, 3, none⟩ = some (x3) ∧ W.cell? ⟨gs, 0, none⟩ = some (x4) ∧ W.cell? ⟨gs, 1, none⟩ = some (x5) ∧ W.cell? ⟨gs, 2, none⟩ = some (x6) ∧ W.cell? ⟨gs, 3, none⟩ = some (x7) ∧ W.cell? ⟨gt, 0, none⟩ = some (x4) ∧ W.cell? ⟨gt, 1, none⟩ = some (x5) ∧ W.cell? ⟨gt, 2, none⟩ = some (x6) ∧ W.cell? ⟨gt, 3, none⟩ = some (x7) ∧ Below w0.heap.size w0 W) (hb : Below W.heap.size W W') : W'.cell? ⟨gf, 0, none⟩ = some (x0) ∧ W'.cell? ⟨gf, 1, none⟩ = some (x1) ∧ W'.cell? ⟨gf, 2, none⟩ = some (x2) ∧ W'.cell? ⟨gf, 3, none⟩ = some (x3) ∧ W'.cell? ⟨gs, 0, none⟩ = some (x4) ∧ W'.cell? ⟨gs, 1, none⟩ = some (x5) ∧ W'.cell? ⟨gs, 2, none⟩ = some (x6) ∧ W'.cell? ⟨gs, 3, none⟩ = some (x7) ∧ W'.cell? ⟨gt, 0, none⟩ = some (x4) ∧ W'.cell? ⟨gt, 1, none⟩ = some (x5) ∧ W'.cell? ⟨gt, 2, none⟩ = some (x6) ∧ W'.cell? ⟨gt, 3, none⟩ = some (x7) ∧ Below w0.heap.size w0 W' :=
  ⟨ccall k.1 hb, ccall k.2.1 hb, ccall k.2.2.1 hb, ccall k.2.2.2.1 hb, ccall k.2.2.2.2.1 hb, ccall k.2.2.2.2.2.1 hb, ccall k.2.2.2.2.2.2.1 hb, ccall k.2.2.2.2.2.2.2.1 hb, ccall k.2.2.2.2.2.2.2.2.1 hb, ccall k.2.2.2.2.2.2.2.2.2.1 hb, ccall k.2.2.2.2.2.2.2.2.2.2.1 hb, ccall k.2.2.2.2.2.2.2.2.2.2.2.1 hb, bthen k.2.2.2.2.2.2.2.2.2.2.2.2 hb⟩
theorem signs_open {k s : Int} {l o f : Bool} {a b c d : Int} {g1 g2 g3 g4 : Bool} (h : signsD ⟨k, s, l, o, f⟩ a b c d = ((g1, g2, g3, g4), true)) :
    doorB k s l o f = true ∧ faultsB a b c d = true ∧ g1 = signB (!o) a ∧ g2 = signB (!o) b ∧ g3 = signB f c ∧ g4 = signB f d := by
  cases hok : doorB k s l o f
  · rw [signsD_no1 (show (⟨k, s, l, o, f⟩ : Dr).ok = false from hok)] at h; cases h
  · cases hfa : faultsB a b c d
    · rw [signsD_no2 hfa] at h; cases h
    · rw [signsD_yes (show (⟨k, s, l, o, f⟩ : Dr).ok = true from hok) hfa] at h
      injection h with h1 h2
      injection h1 with h3 h4; injection h4 with h4 h5; injection h5 with h5 h6
      exact ⟨rfl, rfl, h3.symm, h4.symm, h5.symm, h6.symm⟩
theorem signs_shut {k s : Int} {l o f : Bool} {a b c d : Int} {x : Bool × Bool × Bool × Bool} (h : signsD ⟨k, s, l, o, f⟩ a b c d = (x, false)) : (recD ⟨k, s, l, o, f⟩ a b c d).2.2 = false := by
  unfold recD
  cases hok : ((⟨k, s, l, o, f⟩ : Dr).ok && faultsB a b c d)
  · rfl
  · unfold signsD at h; rw [hok] at h; cases h
theorem rec_fine {k s : Int} {l o f : Bool} {a b c d : Int} (hok : doorB k s l o f = true) (hfa : faultsB a b c d = true) : (recD ⟨k, s, l, o, f⟩ a b c d).2.2 = ((k != 0) && (s == 0) && decide (cntF a b c d ≤ 1)) := by
  have h1 : (⟨k, s, l, o, f⟩ : Dr).ok = true := hok
  unfold recD isCutD
  rw [h1, hfa]
  simp only [Bool.true_and]
  by_cases hX : ((k != 0) && (s == 0) && decide (cntF a b c d ≤ 1)) = true
  · rw [if_pos hX, hX]; split <;> rfl
  · rw [if_neg hX]; exact (Bool.eq_false_iff.2 hX).symm
set_option maxRecDepth 100000 in
set_option maxHeartbeats 80000000 in
theorem sgn_walk (w : World) (A : Option Addr) (na ca : Nat) (hn : na ≤ maxLen) (hS : BS w w.heap.size A na) : Calls Try.prog 3 #[.slice A na ca] w fun e w' => e = .returned (.bool true) ∧ Below w.heap.size w w' := by
  have HS := Lib.hid hS; clear hS
  have HBG := Lib.hid (fun W => big_any W A na ca hn)
  have HPL := Lib.hid (fun W (h : BS W W.heap.size A na) => drawSigns_any W A na ca hn h)
  clear hn
  by_cases hbig : (1048576 : Int) < na
  · have hd : decide ((1048576 : Int) < na) = true := by simpa using hbig
    have HD := Lib.hid hd; clear hd
    go_enter Try.func3, Try.ntmps3
    go_wp2_with (refine (HBG.out _).mono ?_; rintro e w' ⟨rfl, hw⟩; rw [hw, HD.out]; clear hw)
    go_ret
    exact ⟨rfl, Below.refl _ _⟩
  have hd : decide ((1048576 : Int) < na) = false := by simpa using hbig
  have HD := Lib.hid hd; clear hd hbig
  go_enter Try.func3, Try.ntmps3
  go_wp2_with (go_at_call 4; refine (HBG.out _).mono ?_; rintro e w' ⟨rfl, hw⟩; rw [hw, HD.out]; clear hw)
  refine (HPL.out w HS.out).mono ?_
  rintro e w1 ⟨⟨k, s, l, o, f, a, b, c, d, rfl⟩, hb1⟩
  have hsw1 := hb1.size
  obtain ⟨g1, g2, g3, g4, q, hsg⟩ : ∃ g1 g2 g3 g4 q, signsD ⟨k, s, l, o, f⟩ a b c d = ((g1, g2, g3, g4), q) := ⟨_, _, _, _, _, rfl⟩
  have HSG := Lib.hid (show sgT (signsD ⟨k, s, l, o, f⟩ a b c d) = .tuple #[.agg #[.bool g1, .bool g2, .bool g3, .bool g4], .bool q] by rw [hsg]; rfl)
  obtain ⟨k3, s3, l3, o3, f3, v, r, hre⟩ : ∃ k3 s3 l3 o3 f3 v r, recD ⟨k, s, l, o, f⟩ a b c d = (⟨k3, s3, l3, o3, f3⟩, v, r) := ⟨_, _, _, _, _, _, _, rfl⟩
  have HRE := Lib.hid (show drI (recD ⟨k, s, l, o, f⟩ a b c d) = .tuple #[.agg #[.int .i64 k3, .int .i64 s3, .bool l3, .bool o3, .bool f3], .int .i64 v, .bool r] by rw [hre]; rfl)
  have HE := Lib.hid hsg; have HR := Lib.hid hre; clear hsg hre
  obtain ⟨fb, hfb⟩ : ∃ fb, faultsB a b c d = fb := ⟨_, rfl⟩
  have HFB := Lib.hid hfb; clear hfb
  go_wp2_with fail
  have zb := hb1; clear hb1
  have hz9 := size_new w1 25 #[.int .i64 k, .int .i64 s, .bool l, .bool o, .bool f]
  generalize hX : (w1.alloc (.cells #[.int .i64 k, .int .i64 s, .bool l, .bool o, .bool f] 25)) = w2 at hz9 ⊢
  have hb : Below w1.heap.size w1 w2 := by rw [← hX]; exact balloc _ _
  have hk : Has w2 w1.heap.size 25 #[.int .i64 k, .int .i64 s, .bool l, .bool o, .bool f] := by rw [← hX]; exact has_new _ _ _
  clear hX
  have hsw2 := hb.size
  replace zb := bthen zb hb; clear hb
  have zd := hk; clear hk; have hlzd := has_lt zd
  generalize hX : (w2.alloc (.cells #[.int .i64 a, .int .i64 b, .int .i64 c, .int .i64 d] 27)) = w3
  have hb : Below w2.heap.size w2 w3 := by rw [← hX]; exact balloc _ _
  have hk : Has w3 w2.heap.size 27 #[.int .i64 a, .int .i64 b, .int .i64 c, .int .i64 d] := by rw [← hX]; exact has_new _ _ _
  clear hX
  have hsw3 := hb.size
  replace zd := has_call zd hb
  replace zb := bthen zb hb; clear hb
  have zf := hk; clear hk; have hlzf := has_lt zf
  rw [hz9] at zf hlzf; clear hz9
  refine (signsI_any _ k s l o f a b c d).mono ?_
  rintro e w4 ⟨rfl, hb⟩
  rw [HSG.out]
  have hsw4 := hb.size
  replace zd := has_call zd hb
  replace zf := has_call zf hb
  replace zb := bthen zb hb; clear hb
  have zdc0 := has_cell zd 0 rfl; have zdc1 := has_cell zd 1 rfl; have zdc2 := has_cell zd 2 rfl; have zdc3 := has_cell zd 3 rfl; have zdc4 := has_cell zd 4 rfl
  have zdlt := has_lt zd
  have zfc0 := has_cell zf 0 rfl; have zfc1 := has_cell zf 1 rfl; have zfc2 := has_cell zf 2 rfl; have zfc3 := has_cell zf 3 rfl
  have zflt := has_lt zf
  have ZDH := Lib.hid zd; clear zd
  have ZFH := Lib.hid zf; clear zf
  have ZB := Lib.hid zb; clear zb
  go_wp2_with fail
  clear zdc0 zdc1 zdc2 zdc3 zdc4 zdlt zfc0 zfc1 zfc2 zfc3 zflt
  have zd := ZDH.out; clear ZDH
  have zf := ZFH.out; clear ZFH
  have zb := ZB.out; clear ZB
  generalize hX : (w4.alloc (.cells #[.bool g1, .bool g2, .bool g3, .bool g4] 31)) = w5
  have hb : Below w4.heap.size w4 w5 := by rw [← hX]; exact balloc _ _
  have hk : Has w5 w4.heap.size 31 #[.bool g1, .bool g2, .bool g3, .bool g4] := by rw [← hX]; exact has_new _ _ _
  clear hX
  have hsw5 := hb.size
  replace zd := has_call zd hb
  replace zf := has_call zf hb
  replace zb := bthen zb hb; clear hb
  have zs := hk; clear hk; have hlzs := has_lt zs
  refine (signsS_any _ k s l o f a b c d).mono ?_
  rintro e w6 ⟨rfl, hb⟩
  rw [HSG.out]
  have hsw6 := hb.size
  replace zd := has_call zd hb
  replace zf := has_call zf hb
  replace zs := has_call zs hb
  replace zb := bthen zb hb; clear hb
  have zdc0 := has_cell zd 0 rfl; have zdc1 := has_cell zd 1 rfl; have zdc2 := has_cell zd 2 rfl; have zdc3 := has_cell zd 3 rfl; have zdc4 := has_cell zd 4 rfl
  have zdlt := has_lt zd
  have zfc0 := has_cell zf 0 rfl; have zfc1 := has_cell zf 1 rfl; have zfc2 := has_cell zf 2 rfl; have zfc3 := has_cell zf 3 rfl
  have zflt := has_lt zf
  have zsc0 := has_cell zs 0 rfl; have zsc1 := has_cell zs 1 rfl; have zsc2 := has_cell zs 2 rfl; have zsc3 := has_cell zs 3 rfl
  have zslt := has_lt zs
  have ZDH := Lib.hid zd; clear zd
  have ZFH := Lib.hid zf; clear zf
  have ZSH := Lib.hid zs; clear zs
  have ZB := Lib.hid zb; clear zb
  go_upto_region 6 with fail
  clear zdc0 zdc1 zdc2 zdc3 zdc4 zdlt zfc0 zfc1 zfc2 zfc3 zflt zsc0 zsc1 zsc2 zsc3 zslt
  have zd := ZDH.out; clear ZDH
  have zf := ZFH.out; clear ZFH
  have zs := ZSH.out; clear ZSH
  have zb := ZB.out; clear ZB
  generalize hX : (w6.alloc (.cells #[.bool g1, .bool g2, .bool g3, .bool g4] 31)) = w7
  have hb : Below w6.heap.size w6 w7 := by rw [← hX]; exact balloc _ _
  have hk : Has w7 w6.heap.size 31 #[.bool g1, .bool g2, .bool g3, .bool g4] := by rw [← hX]; exact has_new _ _ _
  clear hX
  have hsw7 := hb.size
  replace zd := has_call zd hb
  replace zf := has_call zf hb
  replace zs := has_call zs hb
  replace zb := bthen zb hb; clear hb
  have zt := hk; clear hk; have hlzt := has_lt zt
  have hlf := has_lt zf; have hls := has_lt zs; have hlt9 := has_lt zt
  have S00 : (fun W : World => W.cell? ⟨w1.heap.size + 1, 0, none⟩ = some (.int .i64 a) ∧ W.cell? ⟨w1.heap.size + 1, 1, none⟩ = some (.int .i64 b) ∧ W.cell? ⟨w1.heap.size + 1, 2, none⟩ = some (.int .i64 c) ∧ W.cell? ⟨w1.heap.size + 1, 3, none⟩ = some (.int .i64 d) ∧ W.cell? ⟨w4.heap.size, 0, none⟩ = some (.bool g1) ∧ W.cell? ⟨w4.heap.size, 1, none⟩ = some (.bool g2) ∧ W.cell? ⟨w4.heap.size, 2, none⟩ = some (.bool g3) ∧ W.cell? ⟨w4.heap.size, 3, none⟩ = some (.bool g4) ∧ W.cell? ⟨w6.heap.size, 0, none⟩ = some (.bool g1) ∧ W.cell? ⟨w6.heap.size, 1, none⟩ = some (.bool g2) ∧ W.cell? ⟨w6.heap.size, 2, none⟩ = some (.bool g3) ∧ W.cell? ⟨w6.heap.size, 3, none⟩ = some (.bool g4) ∧ Below w7.heap.size w7 W) w7 := ⟨has_cell zf 0 rfl, has_cell zf 1 rfl, has_cell zf 2 rfl, has_cell zf 3 rfl, has_cell zs 0 rfl, has_cell zs 1 rfl, has_cell zs 2 rfl, has_cell zs 3 rfl, has_cell zt 0 rfl, has_cell zt 1 rfl, has_cell zt 2 rfl, has_cell zt 3 rfl, Below.refl _ _⟩
  have S0 : (fun W : World => W.cell? ⟨w1.heap.size + 1, 0, none⟩ = some (.int .i64 a) ∧ W.cell? ⟨w1.heap.size + 1, 1, none⟩ = some (.int .i64 b) ∧ W.cell? ⟨w1.heap.size + 1, 2, none⟩ = some (.int .i64 c) ∧ W.cell? ⟨w1.heap.size + 1, 3, none⟩ = some (.int .i64 d) ∧ W.cell? ⟨w4.heap.size, 0, none⟩ = some (.bool g1) ∧ W.cell? ⟨w4.heap.size, 1, none⟩ = some (.bool g2) ∧ W.cell? ⟨w4.heap.size, 2, none⟩ = some (.bool g3) ∧ W.cell? ⟨w4.heap.size, 3, none⟩ = some (.bool g4) ∧ W.cell? ⟨w6.heap.size, 0, none⟩ = some (.bool g1) ∧ W.cell? ⟨w6.heap.size, 1, none⟩ = some (.bool g2) ∧ W.cell? ⟨w6.heap.size, 2, none⟩ = some (.bool g3) ∧ W.cell? ⟨w6.heap.size, 3, none⟩ = some (.bool g4) ∧ Below w7.heap.size w7 W) w7.drew := ⟨has_cell zf 0 rfl, has_cell zf 1 rfl, has_cell zf 2 rfl, has_cell zf 3 rfl, has_cell zs 0 rfl, has_cell zs 1 rfl, has_cell zs 2 rfl, has_cell zs 3 rfl, has_cell zt 0 rfl, has_cell zt 1 rfl, has_cell zt 2 rfl, has_cell zt 3 rfl, (Below.refl _ _).drew⟩
  have ZDH := Lib.hid zd; clear zd
  have ZFH := Lib.hid zf; clear zf
  have ZSH := Lib.hid zs; clear zs
  have ZTH := Lib.hid zt; clear zt
  have ZB := Lib.hid zb; clear zb
  go_cut [45] (fun p W => p = .bool false ∧ Below w7.heap.size w7 W)
  case first =>
    go_region_held3 (fun W : World => W.cell? ⟨w1.heap.size + 1, 0, none⟩ = some (.int .i64 a) ∧ W.cell? ⟨w1.heap.size + 1, 1, none⟩ = some (.int .i64 b) ∧ W.cell? ⟨w1.heap.size + 1, 2, none⟩ = some (.int .i64 c) ∧ W.cell? ⟨w1.heap.size + 1, 3, none⟩ = some (.int .i64 d) ∧ W.cell? ⟨w4.heap.size, 0, none⟩ = some (.bool g1) ∧ W.cell? ⟨w4.heap.size, 1, none⟩ = some (.bool g2) ∧ W.cell? ⟨w4.heap.size, 2, none⟩ = some (.bool g3) ∧ W.cell? ⟨w4.heap.size, 3, none⟩ = some (.bool g4) ∧ W.cell? ⟨w6.heap.size, 0, none⟩ = some (.bool g1) ∧ W.cell? ⟨w6.heap.size, 1, none⟩ = some (.bool g2) ∧ W.cell? ⟨w6.heap.size, 2, none⟩ = some (.bool g3) ∧ W.cell? ⟨w6.heap.size, 3, none⟩ = some (.bool g4) ∧ Below w7.heap.size w7 W) (with_reducible assumption) (first
      | (go_at_call 8; refine (faultsI_any _ a b c d).mono ?_; rintro e u1 ⟨rfl, hb1⟩; rw [HFB.out]; have S1 := keep12 (by with_reducible assumption) hb1)
      | (go_at_call 9; refine (faultsS_any _ a b c d).mono ?_; rintro e u2 ⟨rfl, hb2⟩; rw [HFB.out]; have S2 := keep12 (by with_reducible assumption) hb2))
    all_goals (go_wp2_with fail)
    all_goals (go_meet; with_reducible exact ⟨rfl, S2.2.2.2.2.2.2.2.2.2.2.2.2⟩)
  case rest =>
    rename World => wz
    obtain ⟨rfl, hb⟩ := hcut; clear S00 S0 hlf hls hlt9
    have zd := ZDH.out; clear ZDH
    have zf := ZFH.out; clear ZFH
    have zs := ZSH.out; clear ZSH
    have zt := ZTH.out; clear ZTH
    have zb := ZB.out; clear ZB
    have hswz := hb.size
    replace zd := has_call zd hb
    replace zf := has_call zf hb
    replace zs := has_call zs hb
    replace zt := has_call zt hb
    replace zb := bthen zb hb; clear hb
    clear zt
    have zdc0 := has_cell zd 0 rfl; have zdc1 := has_cell zd 1 rfl; have zdc2 := has_cell zd 2 rfl; have zdc3 := has_cell zd 3 rfl; have zdc4 := has_cell zd 4 rfl
    have zdlt := has_lt zd
    have zfc0 := has_cell zf 0 rfl; have zfc1 := has_cell zf 1 rfl; have zfc2 := has_cell zf 2 rfl; have zfc3 := has_cell zf 3 rfl
    have zflt := has_lt zf
    have zsc0 := has_cell zs 0 rfl; have zsc1 := has_cell zs 1 rfl; have zsc2 := has_cell zs 2 rfl; have zsc3 := has_cell zs 3 rfl
    have zslt := has_lt zs
    have ZDH := Lib.hid zd; clear zd
    have ZFH := Lib.hid zf; clear zf
    have ZSH := Lib.hid zs; clear zs
    have ZB := Lib.hid zb; clear zb
    (try go_step)
    go_wp2_with fail
    clear zdc0 zdc1 zdc2 zdc3 zdc4 zdlt zfc0 zfc1 zfc2 zfc3 zflt zsc0 zsc1 zsc2 zsc3 zslt
    have zd := ZDH.out; clear ZDH
    have zf := ZFH.out; clear ZFH
    have zs := ZSH.out; clear ZSH
    have zb := ZB.out; clear ZB
    refine (recI_any _ k s l o f a b c d).mono ?_
    rintro e w41 ⟨rfl, hb⟩
    rw [HRE.out]
    have hsw41 := hb.size
    replace zd := has_call zd hb
    replace zf := has_call zf hb
    replace zs := has_call zs hb
    replace zb := bthen zb hb; clear hb
    cases q
    · have hr9 : r = false := by have := signs_shut HE.out; rw [HR.out] at this; exact this
      subst hr9
      have zdc0 := has_cell zd 0 rfl; have zdc1 := has_cell zd 1 rfl; have zdc2 := has_cell zd 2 rfl; have zdc3 := has_cell zd 3 rfl; have zdc4 := has_cell zd 4 rfl
      have zdlt := has_lt zd
      have zfc0 := has_cell zf 0 rfl; have zfc1 := has_cell zf 1 rfl; have zfc2 := has_cell zf 2 rfl; have zfc3 := has_cell zf 3 rfl
      have zflt := has_lt zf
      have zsc0 := has_cell zs 0 rfl; have zsc1 := has_cell zs 1 rfl; have zsc2 := has_cell zs 2 rfl; have zsc3 := has_cell zs 3 rfl
      have zslt := has_lt zs
      have ZDH := Lib.hid zd; clear zd
      have ZFH := Lib.hid zf; clear zf
      have ZSH := Lib.hid zs; clear zs
      have ZB := Lib.hid zb; clear zb
      go_wp2_with fail
      go_ret
      exact ⟨rfl, Below.alloc ZB.out (by omega) _⟩
    obtain ⟨hok, hfa, hg1, hg2, hg3, hg4⟩ := signs_open HE.out
    have hr9 : r = ((k != 0) && (s == 0) && decide (cntF a b c d ≤ 1)) := by have := rec_fine hok hfa; rw [HR.out] at this; exact this
    obtain ⟨N, hN⟩ : ∃ N, cntF a b c d = N := ⟨_, rfl⟩
    rw [hN] at hr9; have HN := Lib.hid hN
    clear hok hfa hN HE HR HSG HRE HFB
    by_cases ha : a = 0
    · subst ha
      have ha9 : (!o) = g1 := hg1.symm; clear hg1; subst ha9
      by_cases hb : b = 1
      · subst hb
        have hb9 : false = g2 := hg2.symm; clear hg2; subst hb9
        as_aux_lemma =>
          by_cases hc : c = 2
          · subst hc
            have hc9 : true = g3 := hg3.symm; clear hg3; subst hc9
            by_cases hd : d = 0
            · subst hd
              have hd9 : f = g4 := hg4.symm; clear hg4; subst hd9
              by_cases hk : k = 0
              · subst hk
                have hr8 : r = false := hr9; clear hr9; subst hr8
                have zdc0 := has_cell zd 0 rfl; have zdc1 := has_cell zd 1 rfl; have zdc2 := has_cell zd 2 rfl; have zdc3 := has_cell zd 3 rfl; have zdc4 := has_cell zd 4 rfl
                have zdlt := has_lt zd
                have zfc0 := has_cell zf 0 rfl; have zfc1 := has_cell zf 1 rfl; have zfc2 := has_cell zf 2 rfl; have zfc3 := has_cell zf 3 rfl
                have zflt := has_lt zf
                have zsc0 := has_cell zs 0 rfl; have zsc1 := has_cell zs 1 rfl; have zsc2 := has_cell zs 2 rfl; have zsc3 := has_cell zs 3 rfl
                have zslt := has_lt zs
                have ZDH := Lib.hid zd; clear zd
                have ZFH := Lib.hid zf; clear zf
                have ZSH := Lib.hid zs; clear zs
                have ZB := Lib.hid zb; clear zb
                go_wp2_with fail
                go_ret
                exact ⟨rfl, Below.alloc ZB.out (by omega) _⟩
              have hk1 : (k != 0) = true := by rw [bne_iff_ne]; exact hk
              rw [hk1] at hr9
              by_cases hs : ¬ s = 0
              · have hs1 : (s == 0) = false := beq_eq_false_iff_ne.2 hs
                rw [hs1] at hr9
                have hr8 : r = false := hr9; clear hr9; subst hr8
                have zdc0 := has_cell zd 0 rfl; have zdc1 := has_cell zd 1 rfl; have zdc2 := has_cell zd 2 rfl; have zdc3 := has_cell zd 3 rfl; have zdc4 := has_cell zd 4 rfl
                have zdlt := has_lt zd
                have zfc0 := has_cell zf 0 rfl; have zfc1 := has_cell zf 1 rfl; have zfc2 := has_cell zf 2 rfl; have zfc3 := has_cell zf 3 rfl
                have zflt := has_lt zf
                have zsc0 := has_cell zs 0 rfl; have zsc1 := has_cell zs 1 rfl; have zsc2 := has_cell zs 2 rfl; have zsc3 := has_cell zs 3 rfl
                have zslt := has_lt zs
                have ZDH := Lib.hid zd; clear zd
                have ZFH := Lib.hid zf; clear zf
                have ZSH := Lib.hid zs; clear zs
                have ZB := Lib.hid zb; clear zb
                go_wp2_with fail
                go_ret
                exact ⟨rfl, Below.alloc ZB.out (by omega) _⟩
              have hs2 : s = 0 := Decidable.of_not_not hs
              clear hs; subst hs2
              have hr8 : r = decide (N ≤ 1) := hr9.trans (Bool.true_and _); clear hr9; subst hr8
              have zdc0 := has_cell zd 0 rfl; have zdc1 := has_cell zd 1 rfl; have zdc2 := has_cell zd 2 rfl; have zdc3 := has_cell zd 3 rfl; have zdc4 := has_cell zd 4 rfl
              have zdlt := has_lt zd
              have zfc0 := has_cell zf 0 rfl; have zfc1 := has_cell zf 1 rfl; have zfc2 := has_cell zf 2 rfl; have zfc3 := has_cell zf 3 rfl
              have zflt := has_lt zf
              have zsc0 := has_cell zs 0 rfl; have zsc1 := has_cell zs 1 rfl; have zsc2 := has_cell zs 2 rfl; have zsc3 := has_cell zs 3 rfl
              have zslt := has_lt zs
              have ZDH := Lib.hid zd; clear zd
              have ZFH := Lib.hid zf; clear zf
              have ZSH := Lib.hid zs; clear zs
              have ZB := Lib.hid zb; clear zb
              go_wp2_with fail
              clear zdc0 zdc1 zdc2 zdc3 zdc4 zdlt zfc0 zfc1 zfc2 zfc3 zflt zsc0 zsc1 zsc2 zsc3 zslt
              have zd := ZDH.out; clear ZDH
              have zf := ZFH.out; clear ZFH
              have zs := ZSH.out; clear ZSH
              have zb := ZB.out; clear ZB
              generalize hX : (w41.alloc (.cells #[.int .i64 k3, .int .i64 s3, .bool l3, .bool o3, .bool f3] 25)) = w42
              have hb : Below w41.heap.size w41 w42 := by rw [← hX]; exact balloc _ _
              have hk : Has w42 w41.heap.size 25 #[.int .i64 k3, .int .i64 s3, .bool l3, .bool o3, .bool f3] := by rw [← hX]; exact has_new _ _ _
              clear hX
              have hsw42 := hb.size
              replace zd := has_call zd hb
              replace zf := has_call zf hb
              replace zs := has_call zs hb
              replace zb := bthen zb hb; clear hb
              have zy := hk; clear hk; have hlzy := has_lt zy
              refine (cntI_any _ 0 1 2 0).mono ?_
              rintro e w43 ⟨rfl, hb⟩
              rw [HN.out]
              have hsw43 := hb.size
              replace zd := has_call zd hb
              replace zf := has_call zf hb
              replace zs := has_call zs hb
              replace zy := has_call zy hb
              replace zb := bthen zb hb; clear hb
              have zdc0 := has_cell zd 0 rfl; have zdc1 := has_cell zd 1 rfl; have zdc2 := has_cell zd 2 rfl; have zdc3 := has_cell zd 3 rfl; have zdc4 := has_cell zd 4 rfl
              have zdlt := has_lt zd
              have zfc0 := has_cell zf 0 rfl; have zfc1 := has_cell zf 1 rfl; have zfc2 := has_cell zf 2 rfl; have zfc3 := has_cell zf 3 rfl
              have zflt := has_lt zf
              have zsc0 := has_cell zs 0 rfl; have zsc1 := has_cell zs 1 rfl; have zsc2 := has_cell zs 2 rfl; have zsc3 := has_cell zs 3 rfl
              have zslt := has_lt zs
              have zyc0 := has_cell zy 0 rfl; have zyc1 := has_cell zy 1 rfl; have zyc2 := has_cell zy 2 rfl; have zyc3 := has_cell zy 3 rfl; have zyc4 := has_cell zy 4 rfl
              have zylt := has_lt zy
              have ZDH := Lib.hid zd; clear zd
              have ZFH := Lib.hid zf; clear zf
              have ZSH := Lib.hid zs; clear zs
              have ZYH := Lib.hid zy; clear zy
              have ZB := Lib.hid zb; clear zb
              go_wp2_with fail
              go_ret
              exact ⟨rfl, ZB.out⟩
            have hd1 : (d != 0) = true := by rw [bne_iff_ne]; exact hd
            clear hg4
            by_cases hk : k = 0
            · subst hk
              have hr8 : r = false := hr9; clear hr9; subst hr8
              have zdc0 := has_cell zd 0 rfl; have zdc1 := has_cell zd 1 rfl; have zdc2 := has_cell zd 2 rfl; have zdc3 := has_cell zd 3 rfl; have zdc4 := has_cell zd 4 rfl
              have zdlt := has_lt zd
              have zfc0 := has_cell zf 0 rfl; have zfc1 := has_cell zf 1 rfl; have zfc2 := has_cell zf 2 rfl; have zfc3 := has_cell zf 3 rfl
              have zflt := has_lt zf
              have zsc0 := has_cell zs 0 rfl; have zsc1 := has_cell zs 1 rfl; have zsc2 := has_cell zs 2 rfl; have zsc3 := has_cell zs 3 rfl
              have zslt := has_lt zs
              have ZDH := Lib.hid zd; clear zd
              have ZFH := Lib.hid zf; clear zf
              have ZSH := Lib.hid zs; clear zs
              have ZB := Lib.hid zb; clear zb
              go_wp2_with fail
              go_ret
              exact ⟨rfl, Below.alloc ZB.out (by omega) _⟩
            have hk1 : (k != 0) = true := by rw [bne_iff_ne]; exact hk
            rw [hk1] at hr9
            by_cases hs : ¬ s = 0
            · have hs1 : (s == 0) = false := beq_eq_false_iff_ne.2 hs
              rw [hs1] at hr9
              have hr8 : r = false := hr9; clear hr9; subst hr8
              have zdc0 := has_cell zd 0 rfl; have zdc1 := has_cell zd 1 rfl; have zdc2 := has_cell zd 2 rfl; have zdc3 := has_cell zd 3 rfl; have zdc4 := has_cell zd 4 rfl
              have zdlt := has_lt zd
              have zfc0 := has_cell zf 0 rfl; have zfc1 := has_cell zf 1 rfl; have zfc2 := has_cell zf 2 rfl; have zfc3 := has_cell zf 3 rfl
              have zflt := has_lt zf
              have zsc0 := has_cell zs 0 rfl; have zsc1 := has_cell zs 1 rfl; have zsc2 := has_cell zs 2 rfl; have zsc3 := has_cell zs 3 rfl
              have zslt := has_lt zs
              have ZDH := Lib.hid zd; clear zd
              have ZFH := Lib.hid zf; clear zf
              have ZSH := Lib.hid zs; clear zs
              have ZB := Lib.hid zb; clear zb
              go_wp2_with fail
              go_ret
              exact ⟨rfl, Below.alloc ZB.out (by omega) _⟩
            have hs2 : s = 0 := Decidable.of_not_not hs
            clear hs; subst hs2
            have hr8 : r = decide (N ≤ 1) := hr9.trans (Bool.true_and _); clear hr9; subst hr8
            have zdc0 := has_cell zd 0 rfl; have zdc1 := has_cell zd 1 rfl; have zdc2 := has_cell zd 2 rfl; have zdc3 := has_cell zd 3 rfl; have zdc4 := has_cell zd 4 rfl
            have zdlt := has_lt zd
            have zfc0 := has_cell zf 0 rfl; have zfc1 := has_cell zf 1 rfl; have zfc2 := has_cell zf 2 rfl; have zfc3 := has_cell zf 3 rfl
            have zflt := has_lt zf
            have zsc0 := has_cell zs 0 rfl; have zsc1 := has_cell zs 1 rfl; have zsc2 := has_cell zs 2 rfl; have zsc3 := has_cell zs 3 rfl
            have zslt := has_lt zs
            have ZDH := Lib.hid zd; clear zd
            have ZFH := Lib.hid zf; clear zf
            have ZSH := Lib.hid zs; clear zs
            have ZB := Lib.hid zb; clear zb
            go_wp2_with fail
            clear zdc0 zdc1 zdc2 zdc3 zdc4 zdlt zfc0 zfc1 zfc2 zfc3 zflt zsc0 zsc1 zsc2 zsc3 zslt
            have zd := ZDH.out; clear ZDH
            have zf := ZFH.out; clear ZFH
            have zs := ZSH.out; clear ZSH
            have zb := ZB.out; clear ZB
            generalize hX : (w41.alloc (.cells #[.int .i64 k3, .int .i64 s3, .bool l3, .bool o3, .bool f3] 25)) = w42
            have hb : Below w41.heap.size w41 w42 := by rw [← hX]; exact balloc _ _
            have hk : Has w42 w41.heap.size 25 #[.int .i64 k3, .int .i64 s3, .bool l3, .bool o3, .bool f3] := by rw [← hX]; exact has_new _ _ _
            clear hX
            have hsw42 := hb.size
            replace zd := has_call zd hb
            replace zf := has_call zf hb
            replace zs := has_call zs hb
            replace zb := bthen zb hb; clear hb
            have zy := hk; clear hk; have hlzy := has_lt zy
            refine (cntI_any _ 0 1 2 d).mono ?_
            rintro e w43 ⟨rfl, hb⟩
            rw [HN.out]
            have hsw43 := hb.size
            replace zd := has_call zd hb
            replace zf := has_call zf hb
            replace zs := has_call zs hb
            replace zy := has_call zy hb
            replace zb := bthen zb hb; clear hb
            have zdc0 := has_cell zd 0 rfl; have zdc1 := has_cell zd 1 rfl; have zdc2 := has_cell zd 2 rfl; have zdc3 := has_cell zd 3 rfl; have zdc4 := has_cell zd 4 rfl
            have zdlt := has_lt zd
            have zfc0 := has_cell zf 0 rfl; have zfc1 := has_cell zf 1 rfl; have zfc2 := has_cell zf 2 rfl; have zfc3 := has_cell zf 3 rfl
            have zflt := has_lt zf
            have zsc0 := has_cell zs 0 rfl; have zsc1 := has_cell zs 1 rfl; have zsc2 := has_cell zs 2 rfl; have zsc3 := has_cell zs 3 rfl
            have zslt := has_lt zs
            have zyc0 := has_cell zy 0 rfl; have zyc1 := has_cell zy 1 rfl; have zyc2 := has_cell zy 2 rfl; have zyc3 := has_cell zy 3 rfl; have zyc4 := has_cell zy 4 rfl
            have zylt := has_lt zy
            have ZDH := Lib.hid zd; clear zd
            have ZFH := Lib.hid zf; clear zf
            have ZSH := Lib.hid zs; clear zs
            have ZYH := Lib.hid zy; clear zy
            have ZB := Lib.hid zb; clear zb
            go_wp2_with fail
            go_ret
            exact ⟨rfl, ZB.out⟩
          have hc1 : (c != 2) = true := by rw [bne_iff_ne]; exact hc
          clear hg3
          by_cases hd : d = 0
          · subst hd
            have hd9 : f = g4 := hg4.symm; clear hg4; subst hd9
            by_cases hk : k = 0
            · subst hk
              have hr8 : r = false := hr9; clear hr9; subst hr8
              have zdc0 := has_cell zd 0 rfl; have zdc1 := has_cell zd 1 rfl; have zdc2 := has_cell zd 2 rfl; have zdc3 := has_cell zd 3 rfl; have zdc4 := has_cell zd 4 rfl
              have zdlt := has_lt zd
              have zfc0 := has_cell zf 0 rfl; have zfc1 := has_cell zf 1 rfl; have zfc2 := has_cell zf 2 rfl; have zfc3 := has_cell zf 3 rfl
              have zflt := has_lt zf
              have zsc0 := has_cell zs 0 rfl; have zsc1 := has_cell zs 1 rfl; have zsc2 := has_cell zs 2 rfl; have zsc3 := has_cell zs 3 rfl
              have zslt := has_lt zs
              have ZDH := Lib.hid zd; clear zd
              have ZFH := Lib.hid zf; clear zf
              have ZSH := Lib.hid zs; clear zs
              have ZB := Lib.hid zb; clear zb
              go_wp2_with fail
              go_ret
              exact ⟨rfl, Below.alloc ZB.out (by omega) _⟩
            have hk1 : (k != 0) = true := by rw [bne_iff_ne]; exact hk
            rw [hk1] at hr9
            by_cases hs : ¬ s = 0
            · have hs1 : (s == 0) = false := beq_eq_false_iff_ne.2 hs
              rw [hs1] at hr9
              have hr8 : r = false := hr9; clear hr9; subst hr8
              have zdc0 := has_cell zd 0 rfl; have zdc1 := has_cell zd 1 rfl; have zdc2 := has_cell zd 2 rfl; have zdc3 := has_cell zd 3 rfl; have zdc4 := has_cell zd 4 rfl
              have zdlt := has_lt zd
              have zfc0 := has_cell zf 0 rfl; have zfc1 := has_cell zf 1 rfl; have zfc2 := has_cell zf 2 rfl; have zfc3 := has_cell zf 3 rfl
              have zflt := has_lt zf
              have zsc0 := has_cell zs 0 rfl; have zsc1 := has_cell zs 1 rfl; have zsc2 := has_cell zs 2 rfl; have zsc3 := has_cell zs 3 rfl
              have zslt := has_lt zs
              have ZDH := Lib.hid zd; clear zd
              have ZFH := Lib.hid zf; clear zf
              have ZSH := Lib.hid zs; clear zs
              have ZB := Lib.hid zb; clear zb
              go_wp2_with fail
              go_ret
              exact ⟨rfl, Below.alloc ZB.out (by omega) _⟩
            have hs2 : s = 0 := Decidable.of_not_not hs
            clear hs; subst hs2
            have hr8 : r = decide (N ≤ 1) := hr9.trans (Bool.true_and _); clear hr9; subst hr8
            have zdc0 := has_cell zd 0 rfl; have zdc1 := has_cell zd 1 rfl; have zdc2 := has_cell zd 2 rfl; have zdc3 := has_cell zd 3 rfl; have zdc4 := has_cell zd 4 rfl
            have zdlt := has_lt zd
            have zfc0 := has_cell zf 0 rfl; have zfc1 := has_cell zf 1 rfl; have zfc2 := has_cell zf 2 rfl; have zfc3 := has_cell zf 3 rfl
            have zflt := has_lt zf
            have zsc0 := has_cell zs 0 rfl; have zsc1 := has_cell zs 1 rfl; have zsc2 := has_cell zs 2 rfl; have zsc3 := has_cell zs 3 rfl
            have zslt := has_lt zs
            have ZDH := Lib.hid zd; clear zd
            have ZFH := Lib.hid zf; clear zf
            have ZSH := Lib.hid zs; clear zs
            have ZB := Lib.hid zb; clear zb
            go_wp2_with fail
            clear zdc0 zdc1 zdc2 zdc3 zdc4 zdlt zfc0 zfc1 zfc2 zfc3 zflt zsc0 zsc1 zsc2 zsc3 zslt
            have zd := ZDH.out; clear ZDH
            have zf := ZFH.out; clear ZFH
            have zs := ZSH.out; clear ZSH
            have zb := ZB.out; clear ZB
            generalize hX : (w41.alloc (.cells #[.int .i64 k3, .int .i64 s3, .bool l3, .bool o3, .bool f3] 25)) = w42
            have hb : Below w41.heap.size w41 w42 := by rw [← hX]; exact balloc _ _
            have hk : Has w42 w41.heap.size 25 #[.int .i64 k3, .int .i64 s3, .bool l3, .bool o3, .bool f3] := by rw [← hX]; exact has_new _ _ _
            clear hX
            have hsw42 := hb.size
            replace zd := has_call zd hb
            replace zf := has_call zf hb
            replace zs := has_call zs hb
            replace zb := bthen zb hb; clear hb
            have zy := hk; clear hk; have hlzy := has_lt zy
            refine (cntI_any _ 0 1 c 0).mono ?_
            rintro e w43 ⟨rfl, hb⟩
            rw [HN.out]
            have hsw43 := hb.size
            replace zd := has_call zd hb
            replace zf := has_call zf hb
            replace zs := has_call zs hb
            replace zy := has_call zy hb
            replace zb := bthen zb hb; clear hb
            have zdc0 := has_cell zd 0 rfl; have zdc1 := has_cell zd 1 rfl; have zdc2 := has_cell zd 2 rfl; have zdc3 := has_cell zd 3 rfl; have zdc4 := has_cell zd 4 rfl
            have zdlt := has_lt zd
            have zfc0 := has_cell zf 0 rfl; have zfc1 := has_cell zf 1 rfl; have zfc2 := has_cell zf 2 rfl; have zfc3 := has_cell zf 3 rfl
            have zflt := has_lt zf
            have zsc0 := has_cell zs 0 rfl; have zsc1 := has_cell zs 1 rfl; have zsc2 := has_cell zs 2 rfl; have zsc3 := has_cell zs 3 rfl
            have zslt := has_lt zs
            have zyc0 := has_cell zy 0 rfl; have zyc1 := has_cell zy 1 rfl; have zyc2 := has_cell zy 2 rfl; have zyc3 := has_cell zy 3 rfl; have zyc4 := has_cell zy 4 rfl
            have zylt := has_lt zy
            have ZDH := Lib.hid zd; clear zd
            have ZFH := Lib.hid zf; clear zf
            have ZSH := Lib.hid zs; clear zs
            have ZYH := Lib.hid zy; clear zy
            have ZB := Lib.hid zb; clear zb
            go_wp2_with fail
            go_ret
            exact ⟨rfl, ZB.out⟩
          have hd1 : (d != 0) = true := by rw [bne_iff_ne]; exact hd
          clear hg4
          by_cases hk : k = 0
          · subst hk
            have hr8 : r = false := hr9; clear hr9; subst hr8
            have zdc0 := has_cell zd 0 rfl; have zdc1 := has_cell zd 1 rfl; have zdc2 := has_cell zd 2 rfl; have zdc3 := has_cell zd 3 rfl; have zdc4 := has_cell zd 4 rfl
            have zdlt := has_lt zd
            have zfc0 := has_cell zf 0 rfl; have zfc1 := has_cell zf 1 rfl; have zfc2 := has_cell zf 2 rfl; have zfc3 := has_cell zf 3 rfl
            have zflt := has_lt zf
            have zsc0 := has_cell zs 0 rfl; have zsc1 := has_cell zs 1 rfl; have zsc2 := has_cell zs 2 rfl; have zsc3 := has_cell zs 3 rfl
            have zslt := has_lt zs
            have ZDH := Lib.hid zd; clear zd
            have ZFH := Lib.hid zf; clear zf
            have ZSH := Lib.hid zs; clear zs
            have ZB := Lib.hid zb; clear zb
            go_wp2_with fail
            go_ret
            exact ⟨rfl, Below.alloc ZB.out (by omega) _⟩
          have hk1 : (k != 0) = true := by rw [bne_iff_ne]; exact hk
          rw [hk1] at hr9
          by_cases hs : ¬ s = 0
          · have hs1 : (s == 0) = false := beq_eq_false_iff_ne.2 hs
            rw [hs1] at hr9
            have hr8 : r = false := hr9; clear hr9; subst hr8
            have zdc0 := has_cell zd 0 rfl; have zdc1 := has_cell zd 1 rfl; have zdc2 := has_cell zd 2 rfl; have zdc3 := has_cell zd 3 rfl; have zdc4 := has_cell zd 4 rfl
            have zdlt := has_lt zd
            have zfc0 := has_cell zf 0 rfl; have zfc1 := has_cell zf 1 rfl; have zfc2 := has_cell zf 2 rfl; have zfc3 := has_cell zf 3 rfl
            have zflt := has_lt zf
            have zsc0 := has_cell zs 0 rfl; have zsc1 := has_cell zs 1 rfl; have zsc2 := has_cell zs 2 rfl; have zsc3 := has_cell zs 3 rfl
            have zslt := has_lt zs
            have ZDH := Lib.hid zd; clear zd
            have ZFH := Lib.hid zf; clear zf
            have ZSH := Lib.hid zs; clear zs
            have ZB := Lib.hid zb; clear zb
            go_wp2_with fail
            go_ret
            exact ⟨rfl, Below.alloc ZB.out (by omega) _⟩
          have hs2 : s = 0 := Decidable.of_not_not hs
          clear hs; subst hs2
          have hr8 : r = decide (N ≤ 1) := hr9.trans (Bool.true_and _); clear hr9; subst hr8
          have zdc0 := has_cell zd 0 rfl; have zdc1 := has_cell zd 1 rfl; have zdc2 := has_cell zd 2 rfl; have zdc3 := has_cell zd 3 rfl; have zdc4 := has_cell zd 4 rfl
          have zdlt := has_lt zd
          have zfc0 := has_cell zf 0 rfl; have zfc1 := has_cell zf 1 rfl; have zfc2 := has_cell zf 2 rfl; have zfc3 := has_cell zf 3 rfl
          have zflt := has_lt zf
          have zsc0 := has_cell zs 0 rfl; have zsc1 := has_cell zs 1 rfl; have zsc2 := has_cell zs 2 rfl; have zsc3 := has_cell zs 3 rfl
          have zslt := has_lt zs
          have ZDH := Lib.hid zd; clear zd
          have ZFH := Lib.hid zf; clear zf
          have ZSH := Lib.hid zs; clear zs
          have ZB := Lib.hid zb; clear zb
          go_wp2_with fail
          clear zdc0 zdc1 zdc2 zdc3 zdc4 zdlt zfc0 zfc1 zfc2 zfc3 zflt zsc0 zsc1 zsc2 zsc3 zslt
          have zd := ZDH.out; clear ZDH
          have zf := ZFH.out; clear ZFH
          have zs := ZSH.out; clear ZSH
          have zb := ZB.out; clear ZB
          generalize hX : (w41.alloc (.cells #[.int .i64 k3, .int .i64 s3, .bool l3, .bool o3, .bool f3] 25)) = w42
          have hb : Below w41.heap.size w41 w42 := by rw [← hX]; exact balloc _ _
          have hk : Has w42 w41.heap.size 25 #[.int .i64 k3, .int .i64 s3, .bool l3, .bool o3, .bool f3] := by rw [← hX]; exact has_new _ _ _
          clear hX
          have hsw42 := hb.size
          replace zd := has_call zd hb
          replace zf := has_call zf hb
          replace zs := has_call zs hb
          replace zb := bthen zb hb; clear hb
          have zy := hk; clear hk; have hlzy := has_lt zy
          refine (cntI_any _ 0 1 c d).mono ?_
          rintro e w43 ⟨rfl, hb⟩
          rw [HN.out]
          have hsw43 := hb.size
          replace zd := has_call zd hb
          replace zf := has_call zf hb
          replace zs := has_call zs hb
          replace zy := has_call zy hb
          replace zb := bthen zb hb; clear hb
          have zdc0 := has_cell zd 0 rfl; have zdc1 := has_cell zd 1 rfl; have zdc2 := has_cell zd 2 rfl; have zdc3 := has_cell zd 3 rfl; have zdc4 := has_cell zd 4 rfl
          have zdlt := has_lt zd
          have zfc0 := has_cell zf 0 rfl; have zfc1 := has_cell zf 1 rfl; have zfc2 := has_cell zf 2 rfl; have zfc3 := has_cell zf 3 rfl
          have zflt := has_lt zf
          have zsc0 := has_cell zs 0 rfl; have zsc1 := has_cell zs 1 rfl; have zsc2 := has_cell zs 2 rfl; have zsc3 := has_cell zs 3 rfl
          have zslt := has_lt zs
          have zyc0 := has_cell zy 0 rfl; have zyc1 := has_cell zy 1 rfl; have zyc2 := has_cell zy 2 rfl; have zyc3 := has_cell zy 3 rfl; have zyc4 := has_cell zy 4 rfl
          have zylt := has_lt zy
          have ZDH := Lib.hid zd; clear zd
          have ZFH := Lib.hid zf; clear zf
          have ZSH := Lib.hid zs; clear zs
          have ZYH := Lib.hid zy; clear zy
          have ZB := Lib.hid zb; clear zb
          go_wp2_with fail
          go_ret
          exact ⟨rfl, ZB.out⟩
      have hb1 : (b != 1) = true := by rw [bne_iff_ne]; exact hb
      clear hg2
      as_aux_lemma =>
        by_cases hc : c = 2
        · subst hc
          have hc9 : true = g3 := hg3.symm; clear hg3; subst hc9
          by_cases hd : d = 0
          · subst hd
            have hd9 : f = g4 := hg4.symm; clear hg4; subst hd9
            by_cases hk : k = 0
            · subst hk
              have hr8 : r = false := hr9; clear hr9; subst hr8
              have zdc0 := has_cell zd 0 rfl; have zdc1 := has_cell zd 1 rfl; have zdc2 := has_cell zd 2 rfl; have zdc3 := has_cell zd 3 rfl; have zdc4 := has_cell zd 4 rfl
              have zdlt := has_lt zd
              have zfc0 := has_cell zf 0 rfl; have zfc1 := has_cell zf 1 rfl; have zfc2 := has_cell zf 2 rfl; have zfc3 := has_cell zf 3 rfl
              have zflt := has_lt zf
              have zsc0 := has_cell zs 0 rfl; have zsc1 := has_cell zs 1 rfl; have zsc2 := has_cell zs 2 rfl; have zsc3 := has_cell zs 3 rfl
              have zslt := has_lt zs
              have ZDH := Lib.hid zd; clear zd
              have ZFH := Lib.hid zf; clear zf
              have ZSH := Lib.hid zs; clear zs
              have ZB := Lib.hid zb; clear zb
              go_wp2_with fail
              go_ret
              exact ⟨rfl, Below.alloc ZB.out (by omega) _⟩
            have hk1 : (k != 0) = true := by rw [bne_iff_ne]; exact hk
            rw [hk1] at hr9
            by_cases hs : ¬ s = 0
            · have hs1 : (s == 0) = false := beq_eq_false_iff_ne.2 hs
              rw [hs1] at hr9
              have hr8 : r = false := hr9; clear hr9; subst hr8
              have zdc0 := has_cell zd 0 rfl; have zdc1 := has_cell zd 1 rfl; have zdc2 := has_cell zd 2 rfl; have zdc3 := has_cell zd 3 rfl; have zdc4 := has_cell zd 4 rfl
              have zdlt := has_lt zd
              have zfc0 := has_cell zf 0 rfl; have zfc1 := has_cell zf 1 rfl; have zfc2 := has_cell zf 2 rfl; have zfc3 := has_cell zf 3 rfl
              have zflt := has_lt zf
              have zsc0 := has_cell zs 0 rfl; have zsc1 := has_cell zs 1 rfl; have zsc2 := has_cell zs 2 rfl; have zsc3 := has_cell zs 3 rfl
              have zslt := has_lt zs
              have ZDH := Lib.hid zd; clear zd
              have ZFH := Lib.hid zf; clear zf
              have ZSH := Lib.hid zs; clear zs
              have ZB := Lib.hid zb; clear zb
              go_wp2_with fail
              go_ret
              exact ⟨rfl, Below.alloc ZB.out (by omega) _⟩
            have hs2 : s = 0 := Decidable.of_not_not hs
            clear hs; subst hs2
            have hr8 : r = decide (N ≤ 1) := hr9.trans (Bool.true_and _); clear hr9; subst hr8
            have zdc0 := has_cell zd 0 rfl; have zdc1 := has_cell zd 1 rfl; have zdc2 := has_cell zd 2 rfl; have zdc3 := has_cell zd 3 rfl; have zdc4 := has_cell zd 4 rfl
            have zdlt := has_lt zd
            have zfc0 := has_cell zf 0 rfl; have zfc1 := has_cell zf 1 rfl; have zfc2 := has_cell zf 2 rfl; have zfc3 := has_cell zf 3 rfl
            have zflt := has_lt zf
            have zsc0 := has_cell zs 0 rfl; have zsc1 := has_cell zs 1 rfl; have zsc2 := has_cell zs 2 rfl; have zsc3 := has_cell zs 3 rfl
            have zslt := has_lt zs
            have ZDH := Lib.hid zd; clear zd
            have ZFH := Lib.hid zf; clear zf
            have ZSH := Lib.hid zs; clear zs
            have ZB := Lib.hid zb; clear zb
            go_wp2_with fail
            clear zdc0 zdc1 zdc2 zdc3 zdc4 zdlt zfc0 zfc1 zfc2 zfc3 zflt zsc0 zsc1 zsc2 zsc3 zslt
            have zd := ZDH.out; clear ZDH
            have zf := ZFH.out; clear ZFH
            have zs := ZSH.out; clear ZSH
            have zb := ZB.out; clear ZB
            generalize hX : (w41.alloc (.cells #[.int .i64 k3, .int .i64 s3, .bool l3, .bool o3, .bool f3] 25)) = w42
            have hb : Below w41.heap.size w41 w42 := by rw [← hX]; exact balloc _ _
            have hk : Has w42 w41.heap.size 25 #[.int .i64 k3, .int .i64 s3, .bool l3, .bool o3, .bool f3] := by rw [← hX]; exact has_new _ _ _
            clear hX
            have hsw42 := hb.size
            replace zd := has_call zd hb
            replace zf := has_call zf hb
            replace zs := has_call zs hb
            replace zb := bthen zb hb; clear hb
            have zy := hk; clear hk; have hlzy := has_lt zy
            refine (cntI_any _ 0 b 2 0).mono ?_
            rintro e w43 ⟨rfl, hb⟩
            rw [HN.out]
            have hsw43 := hb.size
            replace zd := has_call zd hb
            replace zf := has_call zf hb
            replace zs := has_call zs hb
            replace zy := has_call zy hb
            replace zb := bthen zb hb; clear hb
            have zdc0 := has_cell zd 0 rfl; have zdc1 := has_cell zd 1 rfl; have zdc2 := has_cell zd 2 rfl; have zdc3 := has_cell zd 3 rfl; have zdc4 := has_cell zd 4 rfl
            have zdlt := has_lt zd
            have zfc0 := has_cell zf 0 rfl; have zfc1 := has_cell zf 1 rfl; have zfc2 := has_cell zf 2 rfl; have zfc3 := has_cell zf 3 rfl
            have zflt := has_lt zf
            have zsc0 := has_cell zs 0 rfl; have zsc1 := has_cell zs 1 rfl; have zsc2 := has_cell zs 2 rfl; have zsc3 := has_cell zs 3 rfl
            have zslt := has_lt zs
            have zyc0 := has_cell zy 0 rfl; have zyc1 := has_cell zy 1 rfl; have zyc2 := has_cell zy 2 rfl; have zyc3 := has_cell zy 3 rfl; have zyc4 := has_cell zy 4 rfl
            have zylt := has_lt zy
            have ZDH := Lib.hid zd; clear zd
            have ZFH := Lib.hid zf; clear zf
            have ZSH := Lib.hid zs; clear zs
            have ZYH := Lib.hid zy; clear zy
            have ZB := Lib.hid zb; clear zb
            go_wp2_with fail
            go_ret
            exact ⟨rfl, ZB.out⟩
          have hd1 : (d != 0) = true := by rw [bne_iff_ne]; exact hd
          clear hg4
          by_cases hk : k = 0
          · subst hk
            have hr8 : r = false := hr9; clear hr9; subst hr8
            have zdc0 := has_cell zd 0 rfl; have zdc1 := has_cell zd 1 rfl; have zdc2 := has_cell zd 2 rfl; have zdc3 := has_cell zd 3 rfl; have zdc4 := has_cell zd 4 rfl
            have zdlt := has_lt zd
            have zfc0 := has_cell zf 0 rfl; have zfc1 := has_cell zf 1 rfl; have zfc2 := has_cell zf 2 rfl; have zfc3 := has_cell zf 3 rfl
            have zflt := has_lt zf
            have zsc0 := has_cell zs 0 rfl; have zsc1 := has_cell zs 1 rfl; have zsc2 := has_cell zs 2 rfl; have zsc3 := has_cell zs 3 rfl
            have zslt := has_lt zs
            have ZDH := Lib.hid zd; clear zd
            have ZFH := Lib.hid zf; clear zf
            have ZSH := Lib.hid zs; clear zs
            have ZB := Lib.hid zb; clear zb
            go_wp2_with fail
            go_ret
            exact ⟨rfl, Below.alloc ZB.out (by omega) _⟩
          have hk1 : (k != 0) = true := by rw [bne_iff_ne]; exact hk
          rw [hk1] at hr9
          by_cases hs : ¬ s = 0
          · have hs1 : (s == 0) = false := beq_eq_false_iff_ne.2 hs
            rw [hs1] at hr9
            have hr8 : r = false := hr9; clear hr9; subst hr8
            have zdc0 := has_cell zd 0 rfl; have zdc1 := has_cell zd 1 rfl; have zdc2 := has_cell zd 2 rfl; have zdc3 := has_cell zd 3 rfl; have zdc4 := has_cell zd 4 rfl
            have zdlt := has_lt zd
            have zfc0 := has_cell zf 0 rfl; have zfc1 := has_cell zf 1 rfl; have zfc2 := has_cell zf 2 rfl; have zfc3 := has_cell zf 3 rfl
            have zflt := has_lt zf
            have zsc0 := has_cell zs 0 rfl; have zsc1 := has_cell zs 1 rfl; have zsc2 := has_cell zs 2 rfl; have zsc3 := has_cell zs 3 rfl
            have zslt := has_lt zs
            have ZDH := Lib.hid zd; clear zd
            have ZFH := Lib.hid zf; clear zf
            have ZSH := Lib.hid zs; clear zs
            have ZB := Lib.hid zb; clear zb
            go_wp2_with fail
            go_ret
            exact ⟨rfl, Below.alloc ZB.out (by omega) _⟩
          have hs2 : s = 0 := Decidable.of_not_not hs
          clear hs; subst hs2
          have hr8 : r = decide (N ≤ 1) := hr9.trans (Bool.true_and _); clear hr9; subst hr8
          have zdc0 := has_cell zd 0 rfl; have zdc1 := has_cell zd 1 rfl; have zdc2 := has_cell zd 2 rfl; have zdc3 := has_cell zd 3 rfl; have zdc4 := has_cell zd 4 rfl
          have zdlt := has_lt zd
          have zfc0 := has_cell zf 0 rfl; have zfc1 := has_cell zf 1 rfl; have zfc2 := has_cell zf 2 rfl; have zfc3 := has_cell zf 3 rfl
          have zflt := has_lt zf
          have zsc0 := has_cell zs 0 rfl; have zsc1 := has_cell zs 1 rfl; have zsc2 := has_cell zs 2 rfl; have zsc3 := has_cell zs 3 rfl
          have zslt := has_lt zs
          have ZDH := Lib.hid zd; clear zd
          have ZFH := Lib.hid zf; clear zf
          have ZSH := Lib.hid zs; clear zs
          have ZB := Lib.hid zb; clear zb
          go_wp2_with fail
          clear zdc0 zdc1 zdc2 zdc3 zdc4 zdlt zfc0 zfc1 zfc2 zfc3 zflt zsc0 zsc1 zsc2 zsc3 zslt
          have zd := ZDH.out; clear ZDH
          have zf := ZFH.out; clear ZFH
          have zs := ZSH.out; clear ZSH
          have zb := ZB.out; clear ZB
          generalize hX : (w41.alloc (.cells #[.int .i64 k3, .int .i64 s3, .bool l3, .bool o3, .bool f3] 25)) = w42
          have hb : Below w41.heap.size w41 w42 := by rw [← hX]; exact balloc _ _
          have hk : Has w42 w41.heap.size 25 #[.int .i64 k3, .int .i64 s3, .bool l3, .bool o3, .bool f3] := by rw [← hX]; exact has_new _ _ _
          clear hX
          have hsw42 := hb.size
          replace zd := has_call zd hb
          replace zf := has_call zf hb
          replace zs := has_call zs hb
          replace zb := bthen zb hb; clear hb
          have zy := hk; clear hk; have hlzy := has_lt zy
          refine (cntI_any _ 0 b 2 d).mono ?_
          rintro e w43 ⟨rfl, hb⟩
          rw [HN.out]
          have hsw43 := hb.size
          replace zd := has_call zd hb
          replace zf := has_call zf hb
          replace zs := has_call zs hb
          replace zy := has_call zy hb
          replace zb := bthen zb hb; clear hb
          have zdc0 := has_cell zd 0 rfl; have zdc1 := has_cell zd 1 rfl; have zdc2 := has_cell zd 2 rfl; have zdc3 := has_cell zd 3 rfl; have zdc4 := has_cell zd 4 rfl
          have zdlt := has_lt zd
          have zfc0 := has_cell zf 0 rfl; have zfc1 := has_cell zf 1 rfl; have zfc2 := has_cell zf 2 rfl; have zfc3 := has_cell zf 3 rfl
          have zflt := has_lt zf
          have zsc0 := has_cell zs 0 rfl; have zsc1 := has_cell zs 1 rfl; have zsc2 := has_cell zs 2 rfl; have zsc3 := has_cell zs 3 rfl
          have zslt := has_lt zs
          have zyc0 := has_cell zy 0 rfl; have zyc1 := has_cell zy 1 rfl; have zyc2 := has_cell zy 2 rfl; have zyc3 := has_cell zy 3 rfl; have zyc4 := has_cell zy 4 rfl
          have zylt := has_lt zy
          have ZDH := Lib.hid zd; clear zd
          have ZFH := Lib.hid zf; clear zf
          have ZSH := Lib.hid zs; clear zs
          have ZYH := Lib.hid zy; clear zy
          have ZB := Lib.hid zb; clear zb
          go_wp2_with fail
          go_ret
          exact ⟨rfl, ZB.out⟩
        have hc1 : (c != 2) = true := by rw [bne_iff_ne]; exact hc
        clear hg3
        by_cases hd : d = 0
        · subst hd
          have hd9 : f = g4 := hg4.symm; clear hg4; subst hd9
          by_cases hk : k = 0
          · subst hk
            have hr8 : r = false := hr9; clear hr9; subst hr8
            have zdc0 := has_cell zd 0 rfl; have zdc1 := has_cell zd 1 rfl; have zdc2 := has_cell zd 2 rfl; have zdc3 := has_cell zd 3 rfl; have zdc4 := has_cell zd 4 rfl
            have zdlt := has_lt zd
            have zfc0 := has_cell zf 0 rfl; have zfc1 := has_cell zf 1 rfl; have zfc2 := has_cell zf 2 rfl; have zfc3 := has_cell zf 3 rfl
            have zflt := has_lt zf
            have zsc0 := has_cell zs 0 rfl; have zsc1 := has_cell zs 1 rfl; have zsc2 := has_cell zs 2 rfl; have zsc3 := has_cell zs 3 rfl
            have zslt := has_lt zs
            have ZDH := Lib.hid zd; clear zd
            have ZFH := Lib.hid zf; clear zf
            have ZSH := Lib.hid zs; clear zs
            have ZB := Lib.hid zb; clear zb
            go_wp2_with fail
            go_ret
            exact ⟨rfl, Below.alloc ZB.out (by omega) _⟩
          have hk1 : (k != 0) = true := by rw [bne_iff_ne]; exact hk
          rw [hk1] at hr9
          by_cases hs : ¬ s = 0
          · have hs1 : (s == 0) = false := beq_eq_false_iff_ne.2 hs
            rw [hs1] at hr9
            have hr8 : r = false := hr9; clear hr9; subst hr8
            have zdc0 := has_cell zd 0 rfl; have zdc1 := has_cell zd 1 rfl; have zdc2 := has_cell zd 2 rfl; have zdc3 := has_cell zd 3 rfl; have zdc4 := has_cell zd 4 rfl
            have zdlt := has_lt zd
            have zfc0 := has_cell zf 0 rfl; have zfc1 := has_cell zf 1 rfl; have zfc2 := has_cell zf 2 rfl; have zfc3 := has_cell zf 3 rfl
            have zflt := has_lt zf
            have zsc0 := has_cell zs 0 rfl; have zsc1 := has_cell zs 1 rfl; have zsc2 := has_cell zs 2 rfl; have zsc3 := has_cell zs 3 rfl
            have zslt := has_lt zs
            have ZDH := Lib.hid zd; clear zd
            have ZFH := Lib.hid zf; clear zf
            have ZSH := Lib.hid zs; clear zs
            have ZB := Lib.hid zb; clear zb
            go_wp2_with fail
            go_ret
            exact ⟨rfl, Below.alloc ZB.out (by omega) _⟩
          have hs2 : s = 0 := Decidable.of_not_not hs
          clear hs; subst hs2
          have hr8 : r = decide (N ≤ 1) := hr9.trans (Bool.true_and _); clear hr9; subst hr8
          have zdc0 := has_cell zd 0 rfl; have zdc1 := has_cell zd 1 rfl; have zdc2 := has_cell zd 2 rfl; have zdc3 := has_cell zd 3 rfl; have zdc4 := has_cell zd 4 rfl
          have zdlt := has_lt zd
          have zfc0 := has_cell zf 0 rfl; have zfc1 := has_cell zf 1 rfl; have zfc2 := has_cell zf 2 rfl; have zfc3 := has_cell zf 3 rfl
          have zflt := has_lt zf
          have zsc0 := has_cell zs 0 rfl; have zsc1 := has_cell zs 1 rfl; have zsc2 := has_cell zs 2 rfl; have zsc3 := has_cell zs 3 rfl
          have zslt := has_lt zs
          have ZDH := Lib.hid zd; clear zd
          have ZFH := Lib.hid zf; clear zf
          have ZSH := Lib.hid zs; clear zs
          have ZB := Lib.hid zb; clear zb
          go_wp2_with fail
          clear zdc0 zdc1 zdc2 zdc3 zdc4 zdlt zfc0 zfc1 zfc2 zfc3 zflt zsc0 zsc1 zsc2 zsc3 zslt
          have zd := ZDH.out; clear ZDH
          have zf := ZFH.out; clear ZFH
          have zs := ZSH.out; clear ZSH
          have zb := ZB.out; clear ZB
          generalize hX : (w41.alloc (.cells #[.int .i64 k3, .int .i64 s3, .bool l3, .bool o3, .bool f3] 25)) = w42
          have hb : Below w41.heap.size w41 w42 := by rw [← hX]; exact balloc _ _
          have hk : Has w42 w41.heap.size 25 #[.int .i64 k3, .int .i64 s3, .bool l3, .bool o3, .bool f3] := by rw [← hX]; exact has_new _ _ _
          clear hX
          have hsw42 := hb.size
          replace zd := has_call zd hb
          replace zf := has_call zf hb
          replace zs := has_call zs hb
          replace zb := bthen zb hb; clear hb
          have zy := hk; clear hk; have hlzy := has_lt zy
          refine (cntI_any _ 0 b c 0).mono ?_
          rintro e w43 ⟨rfl, hb⟩
          rw [HN.out]
          have hsw43 := hb.size
          replace zd := has_call zd hb
          replace zf := has_call zf hb
          replace zs := has_call zs hb
          replace zy := has_call zy hb
          replace zb := bthen zb hb; clear hb
          have zdc0 := has_cell zd 0 rfl; have zdc1 := has_cell zd 1 rfl; have zdc2 := has_cell zd 2 rfl; have zdc3 := has_cell zd 3 rfl; have zdc4 := has_cell zd 4 rfl
          have zdlt := has_lt zd
          have zfc0 := has_cell zf 0 rfl; have zfc1 := has_cell zf 1 rfl; have zfc2 := has_cell zf 2 rfl; have zfc3 := has_cell zf 3 rfl
          have zflt := has_lt zf
          have zsc0 := has_cell zs 0 rfl; have zsc1 := has_cell zs 1 rfl; have zsc2 := has_cell zs 2 rfl; have zsc3 := has_cell zs 3 rfl
          have zslt := has_lt zs
          have zyc0 := has_cell zy 0 rfl; have zyc1 := has_cell zy 1 rfl; have zyc2 := has_cell zy 2 rfl; have zyc3 := has_cell zy 3 rfl; have zyc4 := has_cell zy 4 rfl
          have zylt := has_lt zy
          have ZDH := Lib.hid zd; clear zd
          have ZFH := Lib.hid zf; clear zf
          have ZSH := Lib.hid zs; clear zs
          have ZYH := Lib.hid zy; clear zy
          have ZB := Lib.hid zb; clear zb
          go_wp2_with fail
          go_ret
          exact ⟨rfl, ZB.out⟩
        have hd1 : (d != 0) = true := by rw [bne_iff_ne]; exact hd
        clear hg4
        by_cases hk : k = 0
        · subst hk
          have hr8 : r = false := hr9; clear hr9; subst hr8
          have zdc0 := has_cell zd 0 rfl; have zdc1 := has_cell zd 1 rfl; have zdc2 := has_cell zd 2 rfl; have zdc3 := has_cell zd 3 rfl; have zdc4 := has_cell zd 4 rfl
          have zdlt := has_lt zd
          have zfc0 := has_cell zf 0 rfl; have zfc1 := has_cell zf 1 rfl; have zfc2 := has_cell zf 2 rfl; have zfc3 := has_cell zf 3 rfl
          have zflt := has_lt zf
          have zsc0 := has_cell zs 0 rfl; have zsc1 := has_cell zs 1 rfl; have zsc2 := has_cell zs 2 rfl; have zsc3 := has_cell zs 3 rfl
          have zslt := has_lt zs
          have ZDH := Lib.hid zd; clear zd
          have ZFH := Lib.hid zf; clear zf
          have ZSH := Lib.hid zs; clear zs
          have ZB := Lib.hid zb; clear zb
          go_wp2_with fail
          go_ret
          exact ⟨rfl, Below.alloc ZB.out (by omega) _⟩
        have hk1 : (k != 0) = true := by rw [bne_iff_ne]; exact hk
        rw [hk1] at hr9
        by_cases hs : ¬ s = 0
        · have hs1 : (s == 0) = false := beq_eq_false_iff_ne.2 hs
          rw [hs1] at hr9
          have hr8 : r = false := hr9; clear hr9; subst hr8
          have zdc0 := has_cell zd 0 rfl; have zdc1 := has_cell zd 1 rfl; have zdc2 := has_cell zd 2 rfl; have zdc3 := has_cell zd 3 rfl; have zdc4 := has_cell zd 4 rfl
          have zdlt := has_lt zd
          have zfc0 := has_cell zf 0 rfl; have zfc1 := has_cell zf 1 rfl; have zfc2 := has_cell zf 2 rfl; have zfc3 := has_cell zf 3 rfl
          have zflt := has_lt zf
          have zsc0 := has_cell zs 0 rfl; have zsc1 := has_cell zs 1 rfl; have zsc2 := has_cell zs 2 rfl; have zsc3 := has_cell zs 3 rfl
          have zslt := has_lt zs
          have ZDH := Lib.hid zd; clear zd
          have ZFH := Lib.hid zf; clear zf
          have ZSH := Lib.hid zs; clear zs
          have ZB := Lib.hid zb; clear zb
          go_wp2_with fail
          go_ret
          exact ⟨rfl, Below.alloc ZB.out (by omega) _⟩
        have hs2 : s = 0 := Decidable.of_not_not hs
        clear hs; subst hs2
        have hr8 : r = decide (N ≤ 1) := hr9.trans (Bool.true_and _); clear hr9; subst hr8
        have zdc0 := has_cell zd 0 rfl; have zdc1 := has_cell zd 1 rfl; have zdc2 := has_cell zd 2 rfl; have zdc3 := has_cell zd 3 rfl; have zdc4 := has_cell zd 4 rfl
        have zdlt := has_lt zd
        have zfc0 := has_cell zf 0 rfl; have zfc1 := has_cell zf 1 rfl; have zfc2 := has_cell zf 2 rfl; have zfc3 := has_cell zf 3 rfl
        have zflt := has_lt zf
        have zsc0 := has_cell zs 0 rfl; have zsc1 := has_cell zs 1 rfl; have zsc2 := has_cell zs 2 rfl; have zsc3 := has_cell zs 3 rfl
        have zslt := has_lt zs
        have ZDH := Lib.hid zd; clear zd
        have ZFH := Lib.hid zf; clear zf
        have ZSH := Lib.hid zs; clear zs
        have ZB := Lib.hid zb; clear zb
        go_wp2_with fail
        clear zdc0 zdc1 zdc2 zdc3 zdc4 zdlt zfc0 zfc1 zfc2 zfc3 zflt zsc0 zsc1 zsc2 zsc3 zslt
        have zd := ZDH.out; clear ZDH
        have zf := ZFH.out; clear ZFH
        have zs := ZSH.out; clear ZSH
        have zb := ZB.out; clear ZB
        generalize hX : (w41.alloc (.cells #[.int .i64 k3, .int .i64 s3, .bool l3, .bool o3, .bool f3] 25)) = w42
        have hb : Below w41.heap.size w41 w42 := by rw [← hX]; exact balloc _ _
        have hk : Has w42 w41.heap.size 25 #[.int .i64 k3, .int .i64 s3, .bool l3, .bool o3, .bool f3] := by rw [← hX]; exact has_new _ _ _
        clear hX
        have hsw42 := hb.size
        replace zd := has_call zd hb
        replace zf := has_call zf hb
        replace zs := has_call zs hb
        replace zb := bthen zb hb; clear hb
        have zy := hk; clear hk; have hlzy := has_lt zy
        refine (cntI_any _ 0 b c d).mono ?_
        rintro e w43 ⟨rfl, hb⟩
        rw [HN.out]
        have hsw43 := hb.size
        replace zd := has_call zd hb
        replace zf := has_call zf hb
        replace zs := has_call zs hb
        replace zy := has_call zy hb
        replace zb := bthen zb hb; clear hb
        have zdc0 := has_cell zd 0 rfl; have zdc1 := has_cell zd 1 rfl; have zdc2 := has_cell zd 2 rfl; have zdc3 := has_cell zd 3 rfl; have zdc4 := has_cell zd 4 rfl
        have zdlt := has_lt zd
        have zfc0 := has_cell zf 0 rfl; have zfc1 := has_cell zf 1 rfl; have zfc2 := has_cell zf 2 rfl; have zfc3 := has_cell zf 3 rfl
        have zflt := has_lt zf
        have zsc0 := has_cell zs 0 rfl; have zsc1 := has_cell zs 1 rfl; have zsc2 := has_cell zs 2 rfl; have zsc3 := has_cell zs 3 rfl
        have zslt := has_lt zs
        have zyc0 := has_cell zy 0 rfl; have zyc1 := has_cell zy 1 rfl; have zyc2 := has_cell zy 2 rfl; have zyc3 := has_cell zy 3 rfl; have zyc4 := has_cell zy 4 rfl
        have zylt := has_lt zy
        have ZDH := Lib.hid zd; clear zd
        have ZFH := Lib.hid zf; clear zf
        have ZSH := Lib.hid zs; clear zs
        have ZYH := Lib.hid zy; clear zy
        have ZB := Lib.hid zb; clear zb
        go_wp2_with fail
        go_ret
        exact ⟨rfl, ZB.out⟩
    have ha1 : (a != 0) = true := by rw [bne_iff_ne]; exact ha
    clear hg1
    by_cases hb : b = 1
    · subst hb
      have hb9 : false = g2 := hg2.symm; clear hg2; subst hb9
      as_aux_lemma =>
        by_cases hc : c = 2
        · subst hc
          have hc9 : true = g3 := hg3.symm; clear hg3; subst hc9
          by_cases hd : d = 0
          · subst hd
            have hd9 : f = g4 := hg4.symm; clear hg4; subst hd9
            by_cases hk : k = 0
            · subst hk
              have hr8 : r = false := hr9; clear hr9; subst hr8
              have zdc0 := has_cell zd 0 rfl; have zdc1 := has_cell zd 1 rfl; have zdc2 := has_cell zd 2 rfl; have zdc3 := has_cell zd 3 rfl; have zdc4 := has_cell zd 4 rfl
              have zdlt := has_lt zd
              have zfc0 := has_cell zf 0 rfl; have zfc1 := has_cell zf 1 rfl; have zfc2 := has_cell zf 2 rfl; have zfc3 := has_cell zf 3 rfl
              have zflt := has_lt zf
              have zsc0 := has_cell zs 0 rfl; have zsc1 := has_cell zs 1 rfl; have zsc2 := has_cell zs 2 rfl; have zsc3 := has_cell zs 3 rfl
              have zslt := has_lt zs
              have ZDH := Lib.hid zd; clear zd
              have ZFH := Lib.hid zf; clear zf
              have ZSH := Lib.hid zs; clear zs
              have ZB := Lib.hid zb; clear zb
              go_wp2_with fail
              go_ret
              exact ⟨rfl, Below.alloc ZB.out (by omega) _⟩
            have hk1 : (k != 0) = true := by rw [bne_iff_ne]; exact hk
            rw [hk1] at hr9
            by_cases hs : ¬ s = 0
            · have hs1 : (s == 0) = false := beq_eq_false_iff_ne.2 hs
              rw [hs1] at hr9
              have hr8 : r = false := hr9; clear hr9; subst hr8
              have zdc0 := has_cell zd 0 rfl; have zdc1 := has_cell zd 1 rfl; have zdc2 := has_cell zd 2 rfl; have zdc3 := has_cell zd 3 rfl; have zdc4 := has_cell zd 4 rfl
              have zdlt := has_lt zd
              have zfc0 := has_cell zf 0 rfl; have zfc1 := has_cell zf 1 rfl; have zfc2 := has_cell zf 2 rfl; have zfc3 := has_cell zf 3 rfl
              have zflt := has_lt zf
              have zsc0 := has_cell zs 0 rfl; have zsc1 := has_cell zs 1 rfl; have zsc2 := has_cell zs 2 rfl; have zsc3 := has_cell zs 3 rfl
              have zslt := has_lt zs
              have ZDH := Lib.hid zd; clear zd
              have ZFH := Lib.hid zf; clear zf
              have ZSH := Lib.hid zs; clear zs
              have ZB := Lib.hid zb; clear zb
              go_wp2_with fail
              go_ret
              exact ⟨rfl, Below.alloc ZB.out (by omega) _⟩
            have hs2 : s = 0 := Decidable.of_not_not hs
            clear hs; subst hs2
            have hr8 : r = decide (N ≤ 1) := hr9.trans (Bool.true_and _); clear hr9; subst hr8
            have zdc0 := has_cell zd 0 rfl; have zdc1 := has_cell zd 1 rfl; have zdc2 := has_cell zd 2 rfl; have zdc3 := has_cell zd 3 rfl; have zdc4 := has_cell zd 4 rfl
            have zdlt := has_lt zd
            have zfc0 := has_cell zf 0 rfl; have zfc1 := has_cell zf 1 rfl; have zfc2 := has_cell zf 2 rfl; have zfc3 := has_cell zf 3 rfl
            have zflt := has_lt zf
            have zsc0 := has_cell zs 0 rfl; have zsc1 := has_cell zs 1 rfl; have zsc2 := has_cell zs 2 rfl; have zsc3 := has_cell zs 3 rfl
            have zslt := has_lt zs
            have ZDH := Lib.hid zd; clear zd
            have ZFH := Lib.hid zf; clear zf
            have ZSH := Lib.hid zs; clear zs
            have ZB := Lib.hid zb; clear zb
            go_wp2_with fail
            clear zdc0 zdc1 zdc2 zdc3 zdc4 zdlt zfc0 zfc1 zfc2 zfc3 zflt zsc0 zsc1 zsc2 zsc3 zslt
            have zd := ZDH.out; clear ZDH
            have zf := ZFH.out; clear ZFH
            have zs := ZSH.out; clear ZSH
            have zb := ZB.out; clear ZB
            generalize hX : (w41.alloc (.cells #[.int .i64 k3, .int .i64 s3, .bool l3, .bool o3, .bool f3] 25)) = w42
            have hb : Below w41.heap.size w41 w42 := by rw [← hX]; exact balloc _ _
            have hk : Has w42 w41.heap.size 25 #[.int .i64 k3, .int .i64 s3, .bool l3, .bool o3, .bool f3] := by rw [← hX]; exact has_new _ _ _
            clear hX
            have hsw42 := hb.size
            replace zd := has_call zd hb
            replace zf := has_call zf hb
            replace zs := has_call zs hb
            replace zb := bthen zb hb; clear hb
            have zy := hk; clear hk; have hlzy := has_lt zy
            refine (cntI_any _ a 1 2 0).mono ?_
            rintro e w43 ⟨rfl, hb⟩
            rw [HN.out]
            have hsw43 := hb.size
            replace zd := has_call zd hb
            replace zf := has_call zf hb
            replace zs := has_call zs hb
            replace zy := has_call zy hb
            replace zb := bthen zb hb; clear hb
            have zdc0 := has_cell zd 0 rfl; have zdc1 := has_cell zd 1 rfl; have zdc2 := has_cell zd 2 rfl; have zdc3 := has_cell zd 3 rfl; have zdc4 := has_cell zd 4 rfl
            have zdlt := has_lt zd
            have zfc0 := has_cell zf 0 rfl; have zfc1 := has_cell zf 1 rfl; have zfc2 := has_cell zf 2 rfl; have zfc3 := has_cell zf 3 rfl
            have zflt := has_lt zf
            have zsc0 := has_cell zs 0 rfl; have zsc1 := has_cell zs 1 rfl; have zsc2 := has_cell zs 2 rfl; have zsc3 := has_cell zs 3 rfl
            have zslt := has_lt zs
            have zyc0 := has_cell zy 0 rfl; have zyc1 := has_cell zy 1 rfl; have zyc2 := has_cell zy 2 rfl; have zyc3 := has_cell zy 3 rfl; have zyc4 := has_cell zy 4 rfl
            have zylt := has_lt zy
            have ZDH := Lib.hid zd; clear zd
            have ZFH := Lib.hid zf; clear zf
            have ZSH := Lib.hid zs; clear zs
            have ZYH := Lib.hid zy; clear zy
            have ZB := Lib.hid zb; clear zb
            go_wp2_with fail
            go_ret
            exact ⟨rfl, ZB.out⟩
          have hd1 : (d != 0) = true := by rw [bne_iff_ne]; exact hd
          clear hg4
          by_cases hk : k = 0
          · subst hk
            have hr8 : r = false := hr9; clear hr9; subst hr8
            have zdc0 := has_cell zd 0 rfl; have zdc1 := has_cell zd 1 rfl; have zdc2 := has_cell zd 2 rfl; have zdc3 := has_cell zd 3 rfl; have zdc4 := has_cell zd 4 rfl
            have zdlt := has_lt zd
            have zfc0 := has_cell zf 0 rfl; have zfc1 := has_cell zf 1 rfl; have zfc2 := has_cell zf 2 rfl; have zfc3 := has_cell zf 3 rfl
            have zflt := has_lt zf
            have zsc0 := has_cell zs 0 rfl; have zsc1 := has_cell zs 1 rfl; have zsc2 := has_cell zs 2 rfl; have zsc3 := has_cell zs 3 rfl
            have zslt := has_lt zs
            have ZDH := Lib.hid zd; clear zd
            have ZFH := Lib.hid zf; clear zf
            have ZSH := Lib.hid zs; clear zs
            have ZB := Lib.hid zb; clear zb
            go_wp2_with fail
            go_ret
            exact ⟨rfl, Below.alloc ZB.out (by omega) _⟩
          have hk1 : (k != 0) = true := by rw [bne_iff_ne]; exact hk
          rw [hk1] at hr9
          by_cases hs : ¬ s = 0
          · have hs1 : (s == 0) = false := beq_eq_false_iff_ne.2 hs
            rw [hs1] at hr9
            have hr8 : r = false := hr9; clear hr9; subst hr8
            have zdc0 := has_cell zd 0 rfl; have zdc1 := has_cell zd 1 rfl; have zdc2 := has_cell zd 2 rfl; have zdc3 := has_cell zd 3 rfl; have zdc4 := has_cell zd 4 rfl
            have zdlt := has_lt zd
            have zfc0 := has_cell zf 0 rfl; have zfc1 := has_cell zf 1 rfl; have zfc2 := has_cell zf 2 rfl; have zfc3 := has_cell zf 3 rfl
            have zflt := has_lt zf
            have zsc0 := has_cell zs 0 rfl; have zsc1 := has_cell zs 1 rfl; have zsc2 := has_cell zs 2 rfl; have zsc3 := has_cell zs 3 rfl
            have zslt := has_lt zs
            have ZDH := Lib.hid zd; clear zd
            have ZFH := Lib.hid zf; clear zf
            have ZSH := Lib.hid zs; clear zs
            have ZB := Lib.hid zb; clear zb
            go_wp2_with fail
            go_ret
            exact ⟨rfl, Below.alloc ZB.out (by omega) _⟩
          have hs2 : s = 0 := Decidable.of_not_not hs
          clear hs; subst hs2
          have hr8 : r = decide (N ≤ 1) := hr9.trans (Bool.true_and _); clear hr9; subst hr8
          have zdc0 := has_cell zd 0 rfl; have zdc1 := has_cell zd 1 rfl; have zdc2 := has_cell zd 2 rfl; have zdc3 := has_cell zd 3 rfl; have zdc4 := has_cell zd 4 rfl
          have zdlt := has_lt zd
          have zfc0 := has_cell zf 0 rfl; have zfc1 := has_cell zf 1 rfl; have zfc2 := has_cell zf 2 rfl; have zfc3 := has_cell zf 3 rfl
          have zflt := has_lt zf
          have zsc0 := has_cell zs 0 rfl; have zsc1 := has_cell zs 1 rfl; have zsc2 := has_cell zs 2 rfl; have zsc3 := has_cell zs 3 rfl
          have zslt := has_lt zs
          have ZDH := Lib.hid zd; clear zd
          have ZFH := Lib.hid zf; clear zf
          have ZSH := Lib.hid zs; clear zs
          have ZB := Lib.hid zb; clear zb
          go_wp2_with fail
          clear zdc0 zdc1 zdc2 zdc3 zdc4 zdlt zfc0 zfc1 zfc2 zfc3 zflt zsc0 zsc1 zsc2 zsc3 zslt
          have zd := ZDH.out; clear ZDH
          have zf := ZFH.out; clear ZFH
          have zs := ZSH.out; clear ZSH
          have zb := ZB.out; clear ZB
          generalize hX : (w41.alloc (.cells #[.int .i64 k3, .int .i64 s3, .bool l3, .bool o3, .bool f3] 25)) = w42
          have hb : Below w41.heap.size w41 w42 := by rw [← hX]; exact balloc _ _
          have hk : Has w42 w41.heap.size 25 #[.int .i64 k3, .int .i64 s3, .bool l3, .bool o3, .bool f3] := by rw [← hX]; exact has_new _ _ _
          clear hX
          have hsw42 := hb.size
          replace zd := has_call zd hb
          replace zf := has_call zf hb
          replace zs := has_call zs hb
          replace zb := bthen zb hb; clear hb
          have zy := hk; clear hk; have hlzy := has_lt zy
          refine (cntI_any _ a 1 2 d).mono ?_
          rintro e w43 ⟨rfl, hb⟩
          rw [HN.out]
          have hsw43 := hb.size
          replace zd := has_call zd hb
          replace zf := has_call zf hb
          replace zs := has_call zs hb
          replace zy := has_call zy hb
          replace zb := bthen zb hb; clear hb
          have zdc0 := has_cell zd 0 rfl; have zdc1 := has_cell zd 1 rfl; have zdc2 := has_cell zd 2 rfl; have zdc3 := has_cell zd 3 rfl; have zdc4 := has_cell zd 4 rfl
          have zdlt := has_lt zd
          have zfc0 := has_cell zf 0 rfl; have zfc1 := has_cell zf 1 rfl; have zfc2 := has_cell zf 2 rfl; have zfc3 := has_cell zf 3 rfl
          have zflt := has_lt zf
          have zsc0 := has_cell zs 0 rfl; have zsc1 := has_cell zs 1 rfl; have zsc2 := has_cell zs 2 rfl; have zsc3 := has_cell zs 3 rfl
          have zslt := has_lt zs
          have zyc0 := has_cell zy 0 rfl; have zyc1 := has_cell zy 1 rfl; have zyc2 := has_cell zy 2 rfl; have zyc3 := has_cell zy 3 rfl; have zyc4 := has_cell zy 4 rfl
          have zylt := has_lt zy
          have ZDH := Lib.hid zd; clear zd
          have ZFH := Lib.hid zf; clear zf
          have ZSH := Lib.hid zs; clear zs
          have ZYH := Lib.hid zy; clear zy
          have ZB := Lib.hid zb; clear zb
          go_wp2_with fail
          go_ret
          exact ⟨rfl, ZB.out⟩
        have hc1 : (c != 2) = true := by rw [bne_iff_ne]; exact hc
        clear hg3
        by_cases hd : d = 0
        · subst hd
          have hd9 : f = g4 := hg4.symm; clear hg4; subst hd9
          by_cases hk : k = 0
          · subst hk
            have hr8 : r = false := hr9; clear hr9; subst hr8
            have zdc0 := has_cell zd 0 rfl; have zdc1 := has_cell zd 1 rfl; have zdc2 := has_cell zd 2 rfl; have zdc3 := has_cell zd 3 rfl; have zdc4 := has_cell zd 4 rfl
            have zdlt := has_lt zd
            have zfc0 := has_cell zf 0 rfl; have zfc1 := has_cell zf 1 rfl; have zfc2 := has_cell zf 2 rfl; have zfc3 := has_cell zf 3 rfl
            have zflt := has_lt zf
            have zsc0 := has_cell zs 0 rfl; have zsc1 := has_cell zs 1 rfl; have zsc2 := has_cell zs 2 rfl; have zsc3 := has_cell zs 3 rfl
            have zslt := has_lt zs
            have ZDH := Lib.hid zd; clear zd
            have ZFH := Lib.hid zf; clear zf
            have ZSH := Lib.hid zs; clear zs
            have ZB := Lib.hid zb; clear zb
            go_wp2_with fail
            go_ret
            exact ⟨rfl, Below.alloc ZB.out (by omega) _⟩
          have hk1 : (k != 0) = true := by rw [bne_iff_ne]; exact hk
          rw [hk1] at hr9
          by_cases hs : ¬ s = 0
          · have hs1 : (s == 0) = false := beq_eq_false_iff_ne.2 hs
            rw [hs1] at hr9
            have hr8 : r = false := hr9; clear hr9; subst hr8
            have zdc0 := has_cell zd 0 rfl; have zdc1 := has_cell zd 1 rfl; have zdc2 := has_cell zd 2 rfl; have zdc3 := has_cell zd 3 rfl; have zdc4 := has_cell zd 4 rfl
            have zdlt := has_lt zd
            have zfc0 := has_cell zf 0 rfl; have zfc1 := has_cell zf 1 rfl; have zfc2 := has_cell zf 2 rfl; have zfc3 := has_cell zf 3 rfl
            have zflt := has_lt zf
            have zsc0 := has_cell zs 0 rfl; have zsc1 := has_cell zs 1 rfl; have zsc2 := has_cell zs 2 rfl; have zsc3 := has_cell zs 3 rfl
            have zslt := has_lt zs
            have ZDH := Lib.hid zd; clear zd
            have ZFH := Lib.hid zf; clear zf
            have ZSH := Lib.hid zs; clear zs
            have ZB := Lib.hid zb; clear zb
            go_wp2_with fail
            go_ret
            exact ⟨rfl, Below.alloc ZB.out (by omega) _⟩
          have hs2 : s = 0 := Decidable.of_not_not hs
          clear hs; subst hs2
          have hr8 : r = decide (N ≤ 1) := hr9.trans (Bool.true_and _); clear hr9; subst hr8
          have zdc0 := has_cell zd 0 rfl; have zdc1 := has_cell zd 1 rfl; have zdc2 := has_cell zd 2 rfl; have zdc3 := has_cell zd 3 rfl; have zdc4 := has_cell zd 4 rfl
          have zdlt := has_lt zd
          have zfc0 := has_cell zf 0 rfl; have zfc1 := has_cell zf 1 rfl; have zfc2 := has_cell zf 2 rfl; have zfc3 := has_cell zf 3 rfl
          have zflt := has_lt zf
          have zsc0 := has_cell zs 0 rfl; have zsc1 := has_cell zs 1 rfl; have zsc2 := has_cell zs 2 rfl; have zsc3 := has_cell zs 3 rfl
          have zslt := has_lt zs
          have ZDH := Lib.hid zd; clear zd
          have ZFH := Lib.hid zf; clear zf
          have ZSH := Lib.hid zs; clear zs
          have ZB := Lib.hid zb; clear zb
          go_wp2_with fail
          clear zdc0 zdc1 zdc2 zdc3 zdc4 zdlt zfc0 zfc1 zfc2 zfc3 zflt zsc0 zsc1 zsc2 zsc3 zslt
          have zd := ZDH.out; clear ZDH
          have zf := ZFH.out; clear ZFH
          have zs := ZSH.out; clear ZSH
          have zb := ZB.out; clear ZB
          generalize hX : (w41.alloc (.cells #[.int .i64 k3, .int .i64 s3, .bool l3, .bool o3, .bool f3] 25)) = w42
          have hb : Below w41.heap.size w41 w42 := by rw [← hX]; exact balloc _ _
          have hk : Has w42 w41.heap.size 25 #[.int .i64 k3, .int .i64 s3, .bool l3, .bool o3, .bool f3] := by rw [← hX]; exact has_new _ _ _
          clear hX
          have hsw42 := hb.size
          replace zd := has_call zd hb
          replace zf := has_call zf hb
          replace zs := has_call zs hb
          replace zb := bthen zb hb; clear hb
          have zy := hk; clear hk; have hlzy := has_lt zy
          refine (cntI_any _ a 1 c 0).mono ?_
          rintro e w43 ⟨rfl, hb⟩
          rw [HN.out]
          have hsw43 := hb.size
          replace zd := has_call zd hb
          replace zf := has_call zf hb
          replace zs := has_call zs hb
          replace zy := has_call zy hb
          replace zb := bthen zb hb; clear hb
          have zdc0 := has_cell zd 0 rfl; have zdc1 := has_cell zd 1 rfl; have zdc2 := has_cell zd 2 rfl; have zdc3 := has_cell zd 3 rfl; have zdc4 := has_cell zd 4 rfl
          have zdlt := has_lt zd
          have zfc0 := has_cell zf 0 rfl; have zfc1 := has_cell zf 1 rfl; have zfc2 := has_cell zf 2 rfl; have zfc3 := has_cell zf 3 rfl
          have zflt := has_lt zf
          have zsc0 := has_cell zs 0 rfl; have zsc1 := has_cell zs 1 rfl; have zsc2 := has_cell zs 2 rfl; have zsc3 := has_cell zs 3 rfl
          have zslt := has_lt zs
          have zyc0 := has_cell zy 0 rfl; have zyc1 := has_cell zy 1 rfl; have zyc2 := has_cell zy 2 rfl; have zyc3 := has_cell zy 3 rfl; have zyc4 := has_cell zy 4 rfl
          have zylt := has_lt zy
          have ZDH := Lib.hid zd; clear zd
          have ZFH := Lib.hid zf; clear zf
          have ZSH := Lib.hid zs; clear zs
          have ZYH := Lib.hid zy; clear zy
          have ZB := Lib.hid zb; clear zb
          go_wp2_with fail
          go_ret
          exact ⟨rfl, ZB.out⟩
        have hd1 : (d != 0) = true := by rw [bne_iff_ne]; exact hd
        clear hg4
        by_cases hk : k = 0
        · subst hk
          have hr8 : r = false := hr9; clear hr9; subst hr8
          have zdc0 := has_cell zd 0 rfl; have zdc1 := has_cell zd 1 rfl; have zdc2 := has_cell zd 2 rfl; have zdc3 := has_cell zd 3 rfl; have zdc4 := has_cell zd 4 rfl
          have zdlt := has_lt zd
          have zfc0 := has_cell zf 0 rfl; have zfc1 := has_cell zf 1 rfl; have zfc2 := has_cell zf 2 rfl; have zfc3 := has_cell zf 3 rfl
          have zflt := has_lt zf
          have zsc0 := has_cell zs 0 rfl; have zsc1 := has_cell zs 1 rfl; have zsc2 := has_cell zs 2 rfl; have zsc3 := has_cell zs 3 rfl
          have zslt := has_lt zs
          have ZDH := Lib.hid zd; clear zd
          have ZFH := Lib.hid zf; clear zf
          have ZSH := Lib.hid zs; clear zs
          have ZB := Lib.hid zb; clear zb
          go_wp2_with fail
          go_ret
          exact ⟨rfl, Below.alloc ZB.out (by omega) _⟩
        have hk1 : (k != 0) = true := by rw [bne_iff_ne]; exact hk
        rw [hk1] at hr9
        by_cases hs : ¬ s = 0
        · have hs1 : (s == 0) = false := beq_eq_false_iff_ne.2 hs
          rw [hs1] at hr9
          have hr8 : r = false := hr9; clear hr9; subst hr8
          have zdc0 := has_cell zd 0 rfl; have zdc1 := has_cell zd 1 rfl; have zdc2 := has_cell zd 2 rfl; have zdc3 := has_cell zd 3 rfl; have zdc4 := has_cell zd 4 rfl
          have zdlt := has_lt zd
          have zfc0 := has_cell zf 0 rfl; have zfc1 := has_cell zf 1 rfl; have zfc2 := has_cell zf 2 rfl; have zfc3 := has_cell zf 3 rfl
          have zflt := has_lt zf
          have zsc0 := has_cell zs 0 rfl; have zsc1 := has_cell zs 1 rfl; have zsc2 := has_cell zs 2 rfl; have zsc3 := has_cell zs 3 rfl
          have zslt := has_lt zs
          have ZDH := Lib.hid zd; clear zd
          have ZFH := Lib.hid zf; clear zf
          have ZSH := Lib.hid zs; clear zs
          have ZB := Lib.hid zb; clear zb
          go_wp2_with fail
          go_ret
          exact ⟨rfl, Below.alloc ZB.out (by omega) _⟩
        have hs2 : s = 0 := Decidable.of_not_not hs
        clear hs; subst hs2
        have hr8 : r = decide (N ≤ 1) := hr9.trans (Bool.true_and _); clear hr9; subst hr8
        have zdc0 := has_cell zd 0 rfl; have zdc1 := has_cell zd 1 rfl; have zdc2 := has_cell zd 2 rfl; have zdc3 := has_cell zd 3 rfl; have zdc4 := has_cell zd 4 rfl
        have zdlt := has_lt zd
        have zfc0 := has_cell zf 0 rfl; have zfc1 := has_cell zf 1 rfl; have zfc2 := has_cell zf 2 rfl; have zfc3 := has_cell zf 3 rfl
        have zflt := has_lt zf
        have zsc0 := has_cell zs 0 rfl; have zsc1 := has_cell zs 1 rfl; have zsc2 := has_cell zs 2 rfl; have zsc3 := has_cell zs 3 rfl
        have zslt := has_lt zs
        have ZDH := Lib.hid zd; clear zd
        have ZFH := Lib.hid zf; clear zf
        have ZSH := Lib.hid zs; clear zs
        have ZB := Lib.hid zb; clear zb
        go_wp2_with fail
        clear zdc0 zdc1 zdc2 zdc3 zdc4 zdlt zfc0 zfc1 zfc2 zfc3 zflt zsc0 zsc1 zsc2 zsc3 zslt
        have zd := ZDH.out; clear ZDH
        have zf := ZFH.out; clear ZFH
        have zs := ZSH.out; clear ZSH
        have zb := ZB.out; clear ZB
        generalize hX : (w41.alloc (.cells #[.int .i64 k3, .int .i64 s3, .bool l3, .bool o3, .bool f3] 25)) = w42
        have hb : Below w41.heap.size w41 w42 := by rw [← hX]; exact balloc _ _
        have hk : Has w42 w41.heap.size 25 #[.int .i64 k3, .int .i64 s3, .bool l3, .bool o3, .bool f3] := by rw [← hX]; exact has_new _ _ _
        clear hX
        have hsw42 := hb.size
        replace zd := has_call zd hb
        replace zf := has_call zf hb
        replace zs := has_call zs hb
        replace zb := bthen zb hb; clear hb
        have zy := hk; clear hk; have hlzy := has_lt zy
        refine (cntI_any _ a 1 c d).mono ?_
        rintro e w43 ⟨rfl, hb⟩
        rw [HN.out]
        have hsw43 := hb.size
        replace zd := has_call zd hb
        replace zf := has_call zf hb
        replace zs := has_call zs hb
        replace zy := has_call zy hb
        replace zb := bthen zb hb; clear hb
        have zdc0 := has_cell zd 0 rfl; have zdc1 := has_cell zd 1 rfl; have zdc2 := has_cell zd 2 rfl; have zdc3 := has_cell zd 3 rfl; have zdc4 := has_cell zd 4 rfl
        have zdlt := has_lt zd
        have zfc0 := has_cell zf 0 rfl; have zfc1 := has_cell zf 1 rfl; have zfc2 := has_cell zf 2 rfl; have zfc3 := has_cell zf 3 rfl
        have zflt := has_lt zf
        have zsc0 := has_cell zs 0 rfl; have zsc1 := has_cell zs 1 rfl; have zsc2 := has_cell zs 2 rfl; have zsc3 := has_cell zs 3 rfl
        have zslt := has_lt zs
        have zyc0 := has_cell zy 0 rfl; have zyc1 := has_cell zy 1 rfl; have zyc2 := has_cell zy 2 rfl; have zyc3 := has_cell zy 3 rfl; have zyc4 := has_cell zy 4 rfl
        have zylt := has_lt zy
        have ZDH := Lib.hid zd; clear zd
        have ZFH := Lib.hid zf; clear zf
        have ZSH := Lib.hid zs; clear zs
        have ZYH := Lib.hid zy; clear zy
        have ZB := Lib.hid zb; clear zb
        go_wp2_with fail
        go_ret
        exact ⟨rfl, ZB.out⟩
    have hb1 : (b != 1) = true := by rw [bne_iff_ne]; exact hb
    clear hg2
    as_aux_lemma =>
      by_cases hc : c = 2
      · subst hc
        have hc9 : true = g3 := hg3.symm; clear hg3; subst hc9
        by_cases hd : d = 0
        · subst hd
          have hd9 : f = g4 := hg4.symm; clear hg4; subst hd9
          by_cases hk : k = 0
          · subst hk
            have hr8 : r = false := hr9; clear hr9; subst hr8
            have zdc0 := has_cell zd 0 rfl; have zdc1 := has_cell zd 1 rfl; have zdc2 := has_cell zd 2 rfl; have zdc3 := has_cell zd 3 rfl; have zdc4 := has_cell zd 4 rfl
            have zdlt := has_lt zd
            have zfc0 := has_cell zf 0 rfl; have zfc1 := has_cell zf 1 rfl; have zfc2 := has_cell zf 2 rfl; have zfc3 := has_cell zf 3 rfl
            have zflt := has_lt zf
            have zsc0 := has_cell zs 0 rfl; have zsc1 := has_cell zs 1 rfl; have zsc2 := has_cell zs 2 rfl; have zsc3 := has_cell zs 3 rfl
            have zslt := has_lt zs
            have ZDH := Lib.hid zd; clear zd
            have ZFH := Lib.hid zf; clear zf
            have ZSH := Lib.hid zs; clear zs
            have ZB := Lib.hid zb; clear zb
            go_wp2_with fail
            go_ret
            exact ⟨rfl, Below.alloc ZB.out (by omega) _⟩
          have hk1 : (k != 0) = true := by rw [bne_iff_ne]; exact hk
          rw [hk1] at hr9
          by_cases hs : ¬ s = 0
          · have hs1 : (s == 0) = false := beq_eq_false_iff_ne.2 hs
            rw [hs1] at hr9
            have hr8 : r = false := hr9; clear hr9; subst hr8
            have zdc0 := has_cell zd 0 rfl; have zdc1 := has_cell zd 1 rfl; have zdc2 := has_cell zd 2 rfl; have zdc3 := has_cell zd 3 rfl; have zdc4 := has_cell zd 4 rfl
            have zdlt := has_lt zd
            have zfc0 := has_cell zf 0 rfl; have zfc1 := has_cell zf 1 rfl; have zfc2 := has_cell zf 2 rfl; have zfc3 := has_cell zf 3 rfl
            have zflt := has_lt zf
            have zsc0 := has_cell zs 0 rfl; have zsc1 := has_cell zs 1 rfl; have zsc2 := has_cell zs 2 rfl; have zsc3 := has_cell zs 3 rfl
            have zslt := has_lt zs
            have ZDH := Lib.hid zd; clear zd
            have ZFH := Lib.hid zf; clear zf
            have ZSH := Lib.hid zs; clear zs
            have ZB := Lib.hid zb; clear zb
            go_wp2_with fail
            go_ret
            exact ⟨rfl, Below.alloc ZB.out (by omega) _⟩
          have hs2 : s = 0 := Decidable.of_not_not hs
          clear hs; subst hs2
          have hr8 : r = decide (N ≤ 1) := hr9.trans (Bool.true_and _); clear hr9; subst hr8
          have zdc0 := has_cell zd 0 rfl; have zdc1 := has_cell zd 1 rfl; have zdc2 := has_cell zd 2 rfl; have zdc3 := has_cell zd 3 rfl; have zdc4 := has_cell zd 4 rfl
          have zdlt := has_lt zd
          have zfc0 := has_cell zf 0 rfl; have zfc1 := has_cell zf 1 rfl; have zfc2 := has_cell zf 2 rfl; have zfc3 := has_cell zf 3 rfl
          have zflt := has_lt zf
          have zsc0 := has_cell zs 0 rfl; have zsc1 := has_cell zs 1 rfl; have zsc2 := has_cell zs 2 rfl; have zsc3 := has_cell zs 3 rfl
          have zslt := has_lt zs
          have ZDH := Lib.hid zd; clear zd
          have ZFH := Lib.hid zf; clear zf
          have ZSH := Lib.hid zs; clear zs
          have ZB := Lib.hid zb; clear zb
          go_wp2_with fail
          clear zdc0 zdc1 zdc2 zdc3 zdc4 zdlt zfc0 zfc1 zfc2 zfc3 zflt zsc0 zsc1 zsc2 zsc3 zslt
          have zd := ZDH.out; clear ZDH
          have zf := ZFH.out; clear ZFH
          have zs := ZSH.out; clear ZSH
          have zb := ZB.out; clear ZB
          generalize hX : (w41.alloc (.cells #[.int .i64 k3, .int .i64 s3, .bool l3, .bool o3, .bool f3] 25)) = w42
          have hb : Below w41.heap.size w41 w42 := by rw [← hX]; exact balloc _ _
          have hk : Has w42 w41.heap.size 25 #[.int .i64 k3, .int .i64 s3, .bool l3, .bool o3, .bool f3] := by rw [← hX]; exact has_new _ _ _
          clear hX
          have hsw42 := hb.size
          replace zd := has_call zd hb
          replace zf := has_call zf hb
          replace zs := has_call zs hb
          replace zb := bthen zb hb; clear hb
          have zy := hk; clear hk; have hlzy := has_lt zy
          refine (cntI_any _ a b 2 0).mono ?_
          rintro e w43 ⟨rfl, hb⟩
          rw [HN.out]
          have hsw43 := hb.size
          replace zd := has_call zd hb
          replace zf := has_call zf hb
          replace zs := has_call zs hb
          replace zy := has_call zy hb
          replace zb := bthen zb hb; clear hb
          have zdc0 := has_cell zd 0 rfl; have zdc1 := has_cell zd 1 rfl; have zdc2 := has_cell zd 2 rfl; have zdc3 := has_cell zd 3 rfl; have zdc4 := has_cell zd 4 rfl
          have zdlt := has_lt zd
          have zfc0 := has_cell zf 0 rfl; have zfc1 := has_cell zf 1 rfl; have zfc2 := has_cell zf 2 rfl; have zfc3 := has_cell zf 3 rfl
          have zflt := has_lt zf
          have zsc0 := has_cell zs 0 rfl; have zsc1 := has_cell zs 1 rfl; have zsc2 := has_cell zs 2 rfl; have zsc3 := has_cell zs 3 rfl
          have zslt := has_lt zs
          have zyc0 := has_cell zy 0 rfl; have zyc1 := has_cell zy 1 rfl; have zyc2 := has_cell zy 2 rfl; have zyc3 := has_cell zy 3 rfl; have zyc4 := has_cell zy 4 rfl
          have zylt := has_lt zy
          have ZDH := Lib.hid zd; clear zd
          have ZFH := Lib.hid zf; clear zf
          have ZSH := Lib.hid zs; clear zs
          have ZYH := Lib.hid zy; clear zy
          have ZB := Lib.hid zb; clear zb
          go_wp2_with fail
          go_ret
          exact ⟨rfl, ZB.out⟩
        have hd1 : (d != 0) = true := by rw [bne_iff_ne]; exact hd
        clear hg4
        by_cases hk : k = 0
        · subst hk
          have hr8 : r = false := hr9; clear hr9; subst hr8
          have zdc0 := has_cell zd 0 rfl; have zdc1 := has_cell zd 1 rfl; have zdc2 := has_cell zd 2 rfl; have zdc3 := has_cell zd 3 rfl; have zdc4 := has_cell zd 4 rfl
          have zdlt := has_lt zd
          have zfc0 := has_cell zf 0 rfl; have zfc1 := has_cell zf 1 rfl; have zfc2 := has_cell zf 2 rfl; have zfc3 := has_cell zf 3 rfl
          have zflt := has_lt zf
          have zsc0 := has_cell zs 0 rfl; have zsc1 := has_cell zs 1 rfl; have zsc2 := has_cell zs 2 rfl; have zsc3 := has_cell zs 3 rfl
          have zslt := has_lt zs
          have ZDH := Lib.hid zd; clear zd
          have ZFH := Lib.hid zf; clear zf
          have ZSH := Lib.hid zs; clear zs
          have ZB := Lib.hid zb; clear zb
          go_wp2_with fail
          go_ret
          exact ⟨rfl, Below.alloc ZB.out (by omega) _⟩
        have hk1 : (k != 0) = true := by rw [bne_iff_ne]; exact hk
        rw [hk1] at hr9
        by_cases hs : ¬ s = 0
        · have hs1 : (s == 0) = false := beq_eq_false_iff_ne.2 hs
          rw [hs1] at hr9
          have hr8 : r = false := hr9; clear hr9; subst hr8
          have zdc0 := has_cell zd 0 rfl; have zdc1 := has_cell zd 1 rfl; have zdc2 := has_cell zd 2 rfl; have zdc3 := has_cell zd 3 rfl; have zdc4 := has_cell zd 4 rfl
          have zdlt := has_lt zd
          have zfc0 := has_cell zf 0 rfl; have zfc1 := has_cell zf 1 rfl; have zfc2 := has_cell zf 2 rfl; have zfc3 := has_cell zf 3 rfl
          have zflt := has_lt zf
          have zsc0 := has_cell zs 0 rfl; have zsc1 := has_cell zs 1 rfl; have zsc2 := has_cell zs 2 rfl; have zsc3 := has_cell zs 3 rfl
          have zslt := has_lt zs
          have ZDH := Lib.hid zd; clear zd
          have ZFH := Lib.hid zf; clear zf
          have ZSH := Lib.hid zs; clear zs
          have ZB := Lib.hid zb; clear zb
          go_wp2_with fail
          go_ret
          exact ⟨rfl, Below.alloc ZB.out (by omega) _⟩
        have hs2 : s = 0 := Decidable.of_not_not hs
        clear hs; subst hs2
        have hr8 : r = decide (N ≤ 1) := hr9.trans (Bool.true_and _); clear hr9; subst hr8
        have zdc0 := has_cell zd 0 rfl; have zdc1 := has_cell zd 1 rfl; have zdc2 := has_cell zd 2 rfl; have zdc3 := has_cell zd 3 rfl; have zdc4 := has_cell zd 4 rfl
        have zdlt := has_lt zd
        have zfc0 := has_cell zf 0 rfl; have zfc1 := has_cell zf 1 rfl; have zfc2 := has_cell zf 2 rfl; have zfc3 := has_cell zf 3 rfl
        have zflt := has_lt zf
        have zsc0 := has_cell zs 0 rfl; have zsc1 := has_cell zs 1 rfl; have zsc2 := has_cell zs 2 rfl; have zsc3 := has_cell zs 3 rfl
        have zslt := has_lt zs
        have ZDH := Lib.hid zd; clear zd
        have ZFH := Lib.hid zf; clear zf
        have ZSH := Lib.hid zs; clear zs
        have ZB := Lib.hid zb; clear zb
        go_wp2_with fail
        clear zdc0 zdc1 zdc2 zdc3 zdc4 zdlt zfc0 zfc1 zfc2 zfc3 zflt zsc0 zsc1 zsc2 zsc3 zslt
        have zd := ZDH.out; clear ZDH
        have zf := ZFH.out; clear ZFH
        have zs := ZSH.out; clear ZSH
        have zb := ZB.out; clear ZB
        generalize hX : (w41.alloc (.cells #[.int .i64 k3, .int .i64 s3, .bool l3, .bool o3, .bool f3] 25)) = w42
        have hb : Below w41.heap.size w41 w42 := by rw [← hX]; exact balloc _ _
        have hk : Has w42 w41.heap.size 25 #[.int .i64 k3, .int .i64 s3, .bool l3, .bool o3, .bool f3] := by rw [← hX]; exact has_new _ _ _
        clear hX
        have hsw42 := hb.size
        replace zd := has_call zd hb
        replace zf := has_call zf hb
        replace zs := has_call zs hb
        replace zb := bthen zb hb; clear hb
        have zy := hk; clear hk; have hlzy := has_lt zy
        refine (cntI_any _ a b 2 d).mono ?_
        rintro e w43 ⟨rfl, hb⟩
        rw [HN.out]
        have hsw43 := hb.size
        replace zd := has_call zd hb
        replace zf := has_call zf hb
        replace zs := has_call zs hb
        replace zy := has_call zy hb
        replace zb := bthen zb hb; clear hb
        have zdc0 := has_cell zd 0 rfl; have zdc1 := has_cell zd 1 rfl; have zdc2 := has_cell zd 2 rfl; have zdc3 := has_cell zd 3 rfl; have zdc4 := has_cell zd 4 rfl
        have zdlt := has_lt zd
        have zfc0 := has_cell zf 0 rfl; have zfc1 := has_cell zf 1 rfl; have zfc2 := has_cell zf 2 rfl; have zfc3 := has_cell zf 3 rfl
        have zflt := has_lt zf
        have zsc0 := has_cell zs 0 rfl; have zsc1 := has_cell zs 1 rfl; have zsc2 := has_cell zs 2 rfl; have zsc3 := has_cell zs 3 rfl
        have zslt := has_lt zs
        have zyc0 := has_cell zy 0 rfl; have zyc1 := has_cell zy 1 rfl; have zyc2 := has_cell zy 2 rfl; have zyc3 := has_cell zy 3 rfl; have zyc4 := has_cell zy 4 rfl
        have zylt := has_lt zy
        have ZDH := Lib.hid zd; clear zd
        have ZFH := Lib.hid zf; clear zf
        have ZSH := Lib.hid zs; clear zs
        have ZYH := Lib.hid zy; clear zy
        have ZB := Lib.hid zb; clear zb
        go_wp2_with fail
        go_ret
        exact ⟨rfl, ZB.out⟩
      have hc1 : (c != 2) = true := by rw [bne_iff_ne]; exact hc
      clear hg3
      by_cases hd : d = 0
      · subst hd
        have hd9 : f = g4 := hg4.symm; clear hg4; subst hd9
        by_cases hk : k = 0
        · subst hk
          have hr8 : r = false := hr9; clear hr9; subst hr8
          have zdc0 := has_cell zd 0 rfl; have zdc1 := has_cell zd 1 rfl; have zdc2 := has_cell zd 2 rfl; have zdc3 := has_cell zd 3 rfl; have zdc4 := has_cell zd 4 rfl
          have zdlt := has_lt zd
          have zfc0 := has_cell zf 0 rfl; have zfc1 := has_cell zf 1 rfl; have zfc2 := has_cell zf 2 rfl; have zfc3 := has_cell zf 3 rfl
          have zflt := has_lt zf
          have zsc0 := has_cell zs 0 rfl; have zsc1 := has_cell zs 1 rfl; have zsc2 := has_cell zs 2 rfl; have zsc3 := has_cell zs 3 rfl
          have zslt := has_lt zs
          have ZDH := Lib.hid zd; clear zd
          have ZFH := Lib.hid zf; clear zf
          have ZSH := Lib.hid zs; clear zs
          have ZB := Lib.hid zb; clear zb
          go_wp2_with fail
          go_ret
          exact ⟨rfl, Below.alloc ZB.out (by omega) _⟩
        have hk1 : (k != 0) = true := by rw [bne_iff_ne]; exact hk
        rw [hk1] at hr9
        by_cases hs : ¬ s = 0
        · have hs1 : (s == 0) = false := beq_eq_false_iff_ne.2 hs
          rw [hs1] at hr9
          have hr8 : r = false := hr9; clear hr9; subst hr8
          have zdc0 := has_cell zd 0 rfl; have zdc1 := has_cell zd 1 rfl; have zdc2 := has_cell zd 2 rfl; have zdc3 := has_cell zd 3 rfl; have zdc4 := has_cell zd 4 rfl
          have zdlt := has_lt zd
          have zfc0 := has_cell zf 0 rfl; have zfc1 := has_cell zf 1 rfl; have zfc2 := has_cell zf 2 rfl; have zfc3 := has_cell zf 3 rfl
          have zflt := has_lt zf
          have zsc0 := has_cell zs 0 rfl; have zsc1 := has_cell zs 1 rfl; have zsc2 := has_cell zs 2 rfl; have zsc3 := has_cell zs 3 rfl
          have zslt := has_lt zs
          have ZDH := Lib.hid zd; clear zd
          have ZFH := Lib.hid zf; clear zf
          have ZSH := Lib.hid zs; clear zs
          have ZB := Lib.hid zb; clear zb
          go_wp2_with fail
          go_ret
          exact ⟨rfl, Below.alloc ZB.out (by omega) _⟩
        have hs2 : s = 0 := Decidable.of_not_not hs
        clear hs; subst hs2
        have hr8 : r = decide (N ≤ 1) := hr9.trans (Bool.true_and _); clear hr9; subst hr8
        have zdc0 := has_cell zd 0 rfl; have zdc1 := has_cell zd 1 rfl; have zdc2 := has_cell zd 2 rfl; have zdc3 := has_cell zd 3 rfl; have zdc4 := has_cell zd 4 rfl
        have zdlt := has_lt zd
        have zfc0 := has_cell zf 0 rfl; have zfc1 := has_cell zf 1 rfl; have zfc2 := has_cell zf 2 rfl; have zfc3 := has_cell zf 3 rfl
        have zflt := has_lt zf
        have zsc0 := has_cell zs 0 rfl; have zsc1 := has_cell zs 1 rfl; have zsc2 := has_cell zs 2 rfl; have zsc3 := has_cell zs 3 rfl
        have zslt := has_lt zs
        have ZDH := Lib.hid zd; clear zd
        have ZFH := Lib.hid zf; clear zf
        have ZSH := Lib.hid zs; clear zs
        have ZB := Lib.hid zb; clear zb
        go_wp2_with fail
        clear zdc0 zdc1 zdc2 zdc3 zdc4 zdlt zfc0 zfc1 zfc2 zfc3 zflt zsc0 zsc1 zsc2 zsc3 zslt
        have zd := ZDH.out; clear ZDH
        have zf := ZFH.out; clear ZFH
        have zs := ZSH.out; clear ZSH
        have zb := ZB.out; clear ZB
        generalize hX : (w41.alloc (.cells #[.int .i64 k3, .int .i64 s3, .bool l3, .bool o3, .bool f3] 25)) = w42
        have hb : Below w41.heap.size w41 w42 := by rw [← hX]; exact balloc _ _
        have hk : Has w42 w41.heap.size 25 #[.int .i64 k3, .int .i64 s3, .bool l3, .bool o3, .bool f3] := by rw [← hX]; exact has_new _ _ _
        clear hX
        have hsw42 := hb.size
        replace zd := has_call zd hb
        replace zf := has_call zf hb
        replace zs := has_call zs hb
        replace zb := bthen zb hb; clear hb
        have zy := hk; clear hk; have hlzy := has_lt zy
        refine (cntI_any _ a b c 0).mono ?_
        rintro e w43 ⟨rfl, hb⟩
        rw [HN.out]
        have hsw43 := hb.size
        replace zd := has_call zd hb
        replace zf := has_call zf hb
        replace zs := has_call zs hb
        replace zy := has_call zy hb
        replace zb := bthen zb hb; clear hb
        have zdc0 := has_cell zd 0 rfl; have zdc1 := has_cell zd 1 rfl; have zdc2 := has_cell zd 2 rfl; have zdc3 := has_cell zd 3 rfl; have zdc4 := has_cell zd 4 rfl
        have zdlt := has_lt zd
        have zfc0 := has_cell zf 0 rfl; have zfc1 := has_cell zf 1 rfl; have zfc2 := has_cell zf 2 rfl; have zfc3 := has_cell zf 3 rfl
        have zflt := has_lt zf
        have zsc0 := has_cell zs 0 rfl; have zsc1 := has_cell zs 1 rfl; have zsc2 := has_cell zs 2 rfl; have zsc3 := has_cell zs 3 rfl
        have zslt := has_lt zs
        have zyc0 := has_cell zy 0 rfl; have zyc1 := has_cell zy 1 rfl; have zyc2 := has_cell zy 2 rfl; have zyc3 := has_cell zy 3 rfl; have zyc4 := has_cell zy 4 rfl
        have zylt := has_lt zy
        have ZDH := Lib.hid zd; clear zd
        have ZFH := Lib.hid zf; clear zf
        have ZSH := Lib.hid zs; clear zs
        have ZYH := Lib.hid zy; clear zy
        have ZB := Lib.hid zb; clear zb
        go_wp2_with fail
        go_ret
        exact ⟨rfl, ZB.out⟩
      have hd1 : (d != 0) = true := by rw [bne_iff_ne]; exact hd
      clear hg4
      by_cases hk : k = 0
      · subst hk
        have hr8 : r = false := hr9; clear hr9; subst hr8
        have zdc0 := has_cell zd 0 rfl; have zdc1 := has_cell zd 1 rfl; have zdc2 := has_cell zd 2 rfl; have zdc3 := has_cell zd 3 rfl; have zdc4 := has_cell zd 4 rfl
        have zdlt := has_lt zd
        have zfc0 := has_cell zf 0 rfl; have zfc1 := has_cell zf 1 rfl; have zfc2 := has_cell zf 2 rfl; have zfc3 := has_cell zf 3 rfl
        have zflt := has_lt zf
        have zsc0 := has_cell zs 0 rfl; have zsc1 := has_cell zs 1 rfl; have zsc2 := has_cell zs 2 rfl; have zsc3 := has_cell zs 3 rfl
        have zslt := has_lt zs
        have ZDH := Lib.hid zd; clear zd
        have ZFH := Lib.hid zf; clear zf
        have ZSH := Lib.hid zs; clear zs
        have ZB := Lib.hid zb; clear zb
        go_wp2_with fail
        go_ret
        exact ⟨rfl, Below.alloc ZB.out (by omega) _⟩
      have hk1 : (k != 0) = true := by rw [bne_iff_ne]; exact hk
      rw [hk1] at hr9
      by_cases hs : ¬ s = 0
      · have hs1 : (s == 0) = false := beq_eq_false_iff_ne.2 hs
        rw [hs1] at hr9
        have hr8 : r = false := hr9; clear hr9; subst hr8
        have zdc0 := has_cell zd 0 rfl; have zdc1 := has_cell zd 1 rfl; have zdc2 := has_cell zd 2 rfl; have zdc3 := has_cell zd 3 rfl; have zdc4 := has_cell zd 4 rfl
        have zdlt := has_lt zd
        have zfc0 := has_cell zf 0 rfl; have zfc1 := has_cell zf 1 rfl; have zfc2 := has_cell zf 2 rfl; have zfc3 := has_cell zf 3 rfl
        have zflt := has_lt zf
        have zsc0 := has_cell zs 0 rfl; have zsc1 := has_cell zs 1 rfl; have zsc2 := has_cell zs 2 rfl; have zsc3 := has_cell zs 3 rfl
        have zslt := has_lt zs
        have ZDH := Lib.hid zd; clear zd
        have ZFH := Lib.hid zf; clear zf
        have ZSH := Lib.hid zs; clear zs
        have ZB := Lib.hid zb; clear zb
        go_wp2_with fail
        go_ret
        exact ⟨rfl, Below.alloc ZB.out (by omega) _⟩
      have hs2 : s = 0 := Decidable.of_not_not hs
      clear hs; subst hs2
      have hr8 : r = decide (N ≤ 1) := hr9.trans (Bool.true_and _); clear hr9; subst hr8
      have zdc0 := has_cell zd 0 rfl; have zdc1 := has_cell zd 1 rfl; have zdc2 := has_cell zd 2 rfl; have zdc3 := has_cell zd 3 rfl; have zdc4 := has_cell zd 4 rfl
      have zdlt := has_lt zd
      have zfc0 := has_cell zf 0 rfl; have zfc1 := has_cell zf 1 rfl; have zfc2 := has_cell zf 2 rfl; have zfc3 := has_cell zf 3 rfl
      have zflt := has_lt zf
      have zsc0 := has_cell zs 0 rfl; have zsc1 := has_cell zs 1 rfl; have zsc2 := has_cell zs 2 rfl; have zsc3 := has_cell zs 3 rfl
      have zslt := has_lt zs
      have ZDH := Lib.hid zd; clear zd
      have ZFH := Lib.hid zf; clear zf
      have ZSH := Lib.hid zs; clear zs
      have ZB := Lib.hid zb; clear zb
      go_wp2_with fail
      clear zdc0 zdc1 zdc2 zdc3 zdc4 zdlt zfc0 zfc1 zfc2 zfc3 zflt zsc0 zsc1 zsc2 zsc3 zslt
      have zd := ZDH.out; clear ZDH
      have zf := ZFH.out; clear ZFH
      have zs := ZSH.out; clear ZSH
      have zb := ZB.out; clear ZB
      generalize hX : (w41.alloc (.cells #[.int .i64 k3, .int .i64 s3, .bool l3, .bool o3, .bool f3] 25)) = w42
      have hb : Below w41.heap.size w41 w42 := by rw [← hX]; exact balloc _ _
      have hk : Has w42 w41.heap.size 25 #[.int .i64 k3, .int .i64 s3, .bool l3, .bool o3, .bool f3] := by rw [← hX]; exact has_new _ _ _
      clear hX
      have hsw42 := hb.size
      replace zd := has_call zd hb
      replace zf := has_call zf hb
      replace zs := has_call zs hb
      replace zb := bthen zb hb; clear hb
      have zy := hk; clear hk; have hlzy := has_lt zy
      refine (cntI_any _ a b c d).mono ?_
      rintro e w43 ⟨rfl, hb⟩
      rw [HN.out]
      have hsw43 := hb.size
      replace zd := has_call zd hb
      replace zf := has_call zf hb
      replace zs := has_call zs hb
      replace zy := has_call zy hb
      replace zb := bthen zb hb; clear hb
      have zdc0 := has_cell zd 0 rfl; have zdc1 := has_cell zd 1 rfl; have zdc2 := has_cell zd 2 rfl; have zdc3 := has_cell zd 3 rfl; have zdc4 := has_cell zd 4 rfl
      have zdlt := has_lt zd
      have zfc0 := has_cell zf 0 rfl; have zfc1 := has_cell zf 1 rfl; have zfc2 := has_cell zf 2 rfl; have zfc3 := has_cell zf 3 rfl
      have zflt := has_lt zf
      have zsc0 := has_cell zs 0 rfl; have zsc1 := has_cell zs 1 rfl; have zsc2 := has_cell zs 2 rfl; have zsc3 := has_cell zs 3 rfl
      have zslt := has_lt zs
      have zyc0 := has_cell zy 0 rfl; have zyc1 := has_cell zy 1 rfl; have zyc2 := has_cell zy 2 rfl; have zyc3 := has_cell zy 3 rfl; have zyc4 := has_cell zy 4 rfl
      have zylt := has_lt zy
      have ZDH := Lib.hid zd; clear zd
      have ZFH := Lib.hid zf; clear zf
      have ZSH := Lib.hid zs; clear zs
      have ZYH := Lib.hid zy; clear zy
      have ZB := Lib.hid zb; clear zb
      go_wp2_with fail
      go_ret
      exact ⟨rfl, ZB.out⟩
end Go.Proofs.Ytlbpmjlkoimalaa
