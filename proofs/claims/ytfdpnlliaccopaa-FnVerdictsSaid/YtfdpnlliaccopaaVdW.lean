/- Chapter 4: the walk of the law FnVerdicts. -/
import Derived.Test.YtfdpnlliaccopaaDrD
import Derived.Deep.DeepCutAuto
import Derived.Deep.CutBlock
namespace Go.Proofs.Ytfdpnlliaccopaa
open Go.RowKit
set_option linter.unusedVariables false
theorem ok_hol {k s : Int} {l o f : Bool} (h : doorB k s l o f = true) : (o && !l) = false := by
  unfold doorB at h
  cases hh : (o && !l)
  · rfl
  · rw [if_pos hh] at h; cases h
theorem ok_idle {s : Int} {l o f : Bool} (h : doorB 0 s l o f = true) : l = false ∧ o = false := by
  have h1 := ok_hol h
  unfold doorB at h
  rw [if_neg (by rw [h1]; decide), if_pos rfl] at h
  cases l
  · cases o
    · exact ⟨rfl, rfl⟩
    · cases h1
  · simp at h
theorem cut_ok {k s : Int} {l o f : Bool} (h : doorB k s l o f = true) : cutD ⟨k, s, l, o, f⟩ = ⟨k, 0, l, o, f⟩ := by
  have h2 : (⟨k, s, l, o, f⟩ : Dr).ok = true := h
  unfold cutD; rw [if_pos h2]
theorem vd_1 : ∀ l o f, (o && !l) = false → ((recD ⟨1, 0, l, o, f⟩ 0 0 0 0).2 = (truthD ⟨1, 0, l, o, f⟩, true) ∧ (truthD ⟨1, 0, l, o, f⟩ = 2 ∨ truthD ⟨1, 0, l, o, f⟩ = 3 ∨ truthD ⟨1, 0, l, o, f⟩ = 4)) ∧ ((recD ⟨2, 0, l, o, f⟩ 0 0 0 0).2 = (truthD ⟨2, 0, l, o, f⟩, true) ∧ (truthD ⟨2, 0, l, o, f⟩ = 2 ∨ truthD ⟨2, 0, l, o, f⟩ = 3 ∨ truthD ⟨2, 0, l, o, f⟩ = 4)) := by decide +kernel
theorem vd_of {k : Int} (hk : k = 1 ∨ k = 2) {l o f : Bool} (hol : (o && !l) = false) : (recD ⟨k, 0, l, o, f⟩ 0 0 0 0).2 = (truthD ⟨k, 0, l, o, f⟩, true) ∧ (truthD ⟨k, 0, l, o, f⟩ = 2 ∨ truthD ⟨k, 0, l, o, f⟩ = 3 ∨ truthD ⟨k, 0, l, o, f⟩ = 4) := by
  rcases hk with rfl | rfl
  · exact (vd_1 l o f hol).1
  · exact (vd_1 l o f hol).2
theorem vd_some {T : Int} (h : T = 2 ∨ T = 3 ∨ T = 4) : (verdV T).toList.isEmpty = false := by
  rw [ByteArray.toList_eq]
  rcases h with rfl | rfl | rfl <;> decide
theorem vd_round {k : Int} (hk : k = 1 ∨ k = 2) {l o f : Bool} (hol : (o && !l) = false) {n : Nat} (hn : n < 8) :
    ∃ (g1 g2 g3 g4 : Bool) (y : Dr) (v : Int), signsD ⟨k, 0, l, o, f⟩ (fA n) (fB n) (fC n) (fE n) = ((g1, g2, g3, g4), true) ∧ recD ⟨k, 0, l, o, f⟩ (fA n) (fB n) (fC n) (fE n) = (y, v, true) ∧ verdB k g1 g2 g3 g4 = v ∧ cntF (fA n) (fB n) (fC n) (fE n) = 1 ∧ y.ok = true ∧
      ((v = 1 ∧ y = ⟨k, 0, l, o, f⟩) ∨ (v = 2 ∧ truthD ⟨k, 0, l, o, f⟩ = 2 ∧ y = ⟨k, 0, l, o, f⟩) ∨ (v = 3 ∧ truthD ⟨k, 0, l, o, f⟩ = 3 ∧ y = ⟨0, 0, false, false, f⟩) ∨ (v = 4 ∧ truthD ⟨k, 0, l, o, f⟩ = 4 ∧ y = ⟨0, 0, false, false, f⟩)) := by
  have h : vdB ⟨k, 0, l, o, f⟩ (fA n) (fB n) (fC n) (fE n) = true := by
    rcases hk with rfl | rfl
    · exact (vd_all n hn l o f hol).1
    · exact (vd_all n hn l o f hol).2
  have hT := (vd_of (f := f) hk hol).2
  unfold vdB at h
  simp only [Bool.and_eq_true, Bool.or_eq_true, beq_iff_eq] at h
  obtain ⟨⟨⟨⟨⟨⟨h1, h2⟩, h3⟩, h4⟩, h5⟩, h6⟩, h7⟩ := h
  refine ⟨_, _, _, _, (recD ⟨k, 0, l, o, f⟩ (fA n) (fB n) (fC n) (fE n)).1, (recD ⟨k, 0, l, o, f⟩ (fA n) (fB n) (fC n) (fE n)).2.1, Prod.ext rfl h1, Prod.ext rfl (Prod.ext rfl h2), h3.symm, h4, h5, ?_⟩
  rw [h6]
  rcases h7 with h7 | h7
  · rw [h7]; exact .inl ⟨rfl, rfl⟩
  · rw [h7]
    rcases hT with e | e | e
    · rw [e]; exact .inr (.inl ⟨rfl, rfl, rfl⟩)
    · rw [e]; exact .inr (.inr (.inl ⟨rfl, rfl, rfl⟩))
    · rw [e]; exact .inr (.inr (.inr ⟨rfl, rfl, rfl⟩))
def VdBox (n : Nat) (wr : World) (p : Value) (W : World) : Prop := ∃ g : Nat, p = .pointer (some ⟨g, 0, none⟩) ∧ wr.heap.size ≤ g ∧ Has W g 38 #[.int .i64 (fA n), .int .i64 (fB n), .int .i64 (fC n), .int .i64 (fE n)] ∧ Below wr.heap.size wr W
theorem vdbox_mk {n g : Nat} {wr W : World} {p : Value} {a b c d : Int} (hp : p = .pointer (some ⟨g, 0, none⟩)) (hg : wr.heap.size ≤ g) (h : Has W g 38 #[.int .i64 a, .int .i64 b, .int .i64 c, .int .i64 d]) (hb : Below wr.heap.size wr W) (ha : fA n = a) (hb' : fB n = b) (hc : fC n = c) (hd : fE n = d) : VdBox n wr p W := by
  subst ha hb' hc hd; exact ⟨g, hp, hg, h, hb⟩
set_option maxRecDepth 100000 in
set_option maxHeartbeats 16000000 in
theorem vdt_walk (w : World) (A : Option Addr) (na ca : Nat) (hn : na ≤ maxLen) (hS : BS w w.heap.size A na) : Calls Try.prog 4 #[.slice A na ca] w fun e w' => e = .returned (.bool true) ∧ Below w.heap.size w w' := by
  have HS := Lib.hid hS; clear hS
  have HBG := Lib.hid (fun W => big_any W A na ca hn)
  have HPL := Lib.hid (fun W (h : BS W W.heap.size A na) => drawDoor_any W A na ca hn h)
  clear hn
  by_cases hbig : (1048576 : Int) < na
  · have hd : decide ((1048576 : Int) < na) = true := by simpa using hbig
    have HD := Lib.hid hd; clear hd
    go_enter Try.func4, Try.ntmps4
    go_wp2_with (refine (HBG.out _).mono ?_; rintro e w' ⟨rfl, hw⟩; rw [hw, HD.out]; clear hw)
    go_ret
    exact ⟨rfl, Below.refl _ _⟩
  have hd : decide ((1048576 : Int) < na) = false := by simpa using hbig
  have HD := Lib.hid hd; clear hd hbig
  go_enter Try.func4, Try.ntmps4
  go_wp2_with (go_at_call 5; refine (HBG.out _).mono ?_; rintro e w' ⟨rfl, hw⟩; rw [hw, HD.out]; clear hw)
  refine (HPL.out w HS.out).mono ?_
  rintro e w1 ⟨⟨k, s, l, o, f, rfl, hok⟩, hb1⟩
  have hsw1 := hb1.size
  have HOK := Lib.hid hok
  have hol := ok_hol hok
  have HC := Lib.hid (cut_ok hok)
  rcases ok_kinds hok with rfl | rfl | rfl
  · skip
    obtain ⟨rfl, rfl⟩ := ok_idle hok
    clear hol hok
    have HCV := Lib.hid (show Value.agg (cutD ⟨0, s, false, false, f⟩).A = .agg #[.int .i64 0, .int .i64 0, .bool false, .bool false, .bool f] by rw [HC.out]; rfl)
    go_wp2_with fail
    have zb := hb1; clear hb1
    refine (cutS_any _ 0 s false false f).mono ?_
    rintro e w2 ⟨rfl, hb⟩
    rw [HCV.out]
    have hsw2 := hb.size
    replace zb := bthen zb hb; clear hb
    cases f
    · skip
      go_wp2_with fail
      generalize hX : (w2.alloc (.cells #[.int .i64 0, .int .i64 0, .bool false, .bool false, .bool false] 27)) = w3
      have hb : Below w2.heap.size w2 w3 := by rw [← hX]; exact balloc _ _
      have hk : Has w3 w2.heap.size 27 #[.int .i64 0, .int .i64 0, .bool false, .bool false, .bool false] := by rw [← hX]; exact has_new _ _ _
      clear hX
      have hsw3 := hb.size
      replace zb := bthen zb hb; clear hb
      have zd := hk; clear hk; have hlzd := has_lt zd
      refine (recI_any _ 0 0 false false false 0 0 0 0).mono ?_
      rintro e w4 ⟨rfl, hb⟩
      rw [show drI (recD ⟨0, 0, false, false, false⟩ 0 0 0 0) = .tuple #[.agg #[.int .i64 0, .int .i64 0, .bool false, .bool false, .bool false], .int .i64 0, .bool false] from rfl]
      have hsw4 := hb.size
      replace zd := has_call zd hb
      replace zb := bthen zb hb; clear hb
      have zdc0 := has_cell zd 0 rfl; have zdc1 := has_cell zd 1 rfl; have zdc2 := has_cell zd 2 rfl; have zdc3 := has_cell zd 3 rfl; have zdc4 := has_cell zd 4 rfl
      have zdlt := has_lt zd
      have ZDH := Lib.hid zd; clear zd
      have ZB := Lib.hid zb; clear zb
      go_wp2_with fail
      clear zdc0 zdc1 zdc2 zdc3 zdc4 zdlt
      have zd := ZDH.out; clear ZDH
      have zb := ZB.out; clear ZB
      generalize hX : (w4.alloc (.cells #[.int .i64 0, .int .i64 0, .bool false, .bool false, .bool false] 27)) = w5
      have hb : Below w4.heap.size w4 w5 := by rw [← hX]; exact balloc _ _
      have hk : Has w5 w4.heap.size 27 #[.int .i64 0, .int .i64 0, .bool false, .bool false, .bool false] := by rw [← hX]; exact has_new _ _ _
      clear hX
      have hsw5 := hb.size
      replace zd := has_call zd hb
      replace zb := bthen zb hb; clear hb
      have zx := hk; clear hk; have hlzx := has_lt zx
      refine (truthI_any _ 0 0 false false false).mono ?_
      rintro e w6 ⟨rfl, hb⟩
      rw [show truthD ⟨0, 0, false, false, false⟩ = 0 from by decide]
      have hsw6 := hb.size
      replace zd := has_call zd hb
      replace zx := has_call zx hb
      replace zb := bthen zb hb; clear hb
      have zdc0 := has_cell zd 0 rfl; have zdc1 := has_cell zd 1 rfl; have zdc2 := has_cell zd 2 rfl; have zdc3 := has_cell zd 3 rfl; have zdc4 := has_cell zd 4 rfl
      have zdlt := has_lt zd
      have zxc0 := has_cell zx 0 rfl; have zxc1 := has_cell zx 1 rfl; have zxc2 := has_cell zx 2 rfl; have zxc3 := has_cell zx 3 rfl; have zxc4 := has_cell zx 4 rfl
      have zxlt := has_lt zx
      have ZDH := Lib.hid zd; clear zd
      have ZXH := Lib.hid zx; clear zx
      have ZB := Lib.hid zb; clear zb
      go_wp2_with fail
      clear zdc0 zdc1 zdc2 zdc3 zdc4 zdlt zxc0 zxc1 zxc2 zxc3 zxc4 zxlt
      have zd := ZDH.out; clear ZDH
      have zx := ZXH.out; clear ZXH
      have zb := ZB.out; clear ZB
      refine (truthS_any _ 0 0 false false false).mono ?_
      rintro e w7 ⟨rfl, hb⟩
      rw [show truthD ⟨0, 0, false, false, false⟩ = 0 from by decide]
      have hsw7 := hb.size
      replace zd := has_call zd hb
      replace zx := has_call zx hb
      replace zb := bthen zb hb; clear hb
      have zdc0 := has_cell zd 0 rfl; have zdc1 := has_cell zd 1 rfl; have zdc2 := has_cell zd 2 rfl; have zdc3 := has_cell zd 3 rfl; have zdc4 := has_cell zd 4 rfl
      have zdlt := has_lt zd
      have zxc0 := has_cell zx 0 rfl; have zxc1 := has_cell zx 1 rfl; have zxc2 := has_cell zx 2 rfl; have zxc3 := has_cell zx 3 rfl; have zxc4 := has_cell zx 4 rfl
      have zxlt := has_lt zx
      have ZDH := Lib.hid zd; clear zd
      have ZXH := Lib.hid zx; clear zx
      have ZB := Lib.hid zb; clear zb
      go_wp2_with fail
      go_ret
      exact ⟨rfl, ZB.out⟩
    · skip
      go_wp2_with fail
      generalize hX : (w2.alloc (.cells #[.int .i64 0, .int .i64 0, .bool false, .bool false, .bool true] 27)) = w3
      have hb : Below w2.heap.size w2 w3 := by rw [← hX]; exact balloc _ _
      have hk : Has w3 w2.heap.size 27 #[.int .i64 0, .int .i64 0, .bool false, .bool false, .bool true] := by rw [← hX]; exact has_new _ _ _
      clear hX
      have hsw3 := hb.size
      replace zb := bthen zb hb; clear hb
      have zd := hk; clear hk; have hlzd := has_lt zd
      refine (recI_any _ 0 0 false false true 0 0 0 0).mono ?_
      rintro e w4 ⟨rfl, hb⟩
      rw [show drI (recD ⟨0, 0, false, false, true⟩ 0 0 0 0) = .tuple #[.agg #[.int .i64 0, .int .i64 0, .bool false, .bool false, .bool true], .int .i64 0, .bool false] from rfl]
      have hsw4 := hb.size
      replace zd := has_call zd hb
      replace zb := bthen zb hb; clear hb
      have zdc0 := has_cell zd 0 rfl; have zdc1 := has_cell zd 1 rfl; have zdc2 := has_cell zd 2 rfl; have zdc3 := has_cell zd 3 rfl; have zdc4 := has_cell zd 4 rfl
      have zdlt := has_lt zd
      have ZDH := Lib.hid zd; clear zd
      have ZB := Lib.hid zb; clear zb
      go_wp2_with fail
      clear zdc0 zdc1 zdc2 zdc3 zdc4 zdlt
      have zd := ZDH.out; clear ZDH
      have zb := ZB.out; clear ZB
      generalize hX : (w4.alloc (.cells #[.int .i64 0, .int .i64 0, .bool false, .bool false, .bool true] 27)) = w5
      have hb : Below w4.heap.size w4 w5 := by rw [← hX]; exact balloc _ _
      have hk : Has w5 w4.heap.size 27 #[.int .i64 0, .int .i64 0, .bool false, .bool false, .bool true] := by rw [← hX]; exact has_new _ _ _
      clear hX
      have hsw5 := hb.size
      replace zd := has_call zd hb
      replace zb := bthen zb hb; clear hb
      have zx := hk; clear hk; have hlzx := has_lt zx
      refine (truthI_any _ 0 0 false false true).mono ?_
      rintro e w6 ⟨rfl, hb⟩
      rw [show truthD ⟨0, 0, false, false, true⟩ = 0 from by decide]
      have hsw6 := hb.size
      replace zd := has_call zd hb
      replace zx := has_call zx hb
      replace zb := bthen zb hb; clear hb
      have zdc0 := has_cell zd 0 rfl; have zdc1 := has_cell zd 1 rfl; have zdc2 := has_cell zd 2 rfl; have zdc3 := has_cell zd 3 rfl; have zdc4 := has_cell zd 4 rfl
      have zdlt := has_lt zd
      have zxc0 := has_cell zx 0 rfl; have zxc1 := has_cell zx 1 rfl; have zxc2 := has_cell zx 2 rfl; have zxc3 := has_cell zx 3 rfl; have zxc4 := has_cell zx 4 rfl
      have zxlt := has_lt zx
      have ZDH := Lib.hid zd; clear zd
      have ZXH := Lib.hid zx; clear zx
      have ZB := Lib.hid zb; clear zb
      go_wp2_with fail
      clear zdc0 zdc1 zdc2 zdc3 zdc4 zdlt zxc0 zxc1 zxc2 zxc3 zxc4 zxlt
      have zd := ZDH.out; clear ZDH
      have zx := ZXH.out; clear ZXH
      have zb := ZB.out; clear ZB
      refine (truthS_any _ 0 0 false false true).mono ?_
      rintro e w7 ⟨rfl, hb⟩
      rw [show truthD ⟨0, 0, false, false, true⟩ = 0 from by decide]
      have hsw7 := hb.size
      replace zd := has_call zd hb
      replace zx := has_call zx hb
      replace zb := bthen zb hb; clear hb
      have zdc0 := has_cell zd 0 rfl; have zdc1 := has_cell zd 1 rfl; have zdc2 := has_cell zd 2 rfl; have zdc3 := has_cell zd 3 rfl; have zdc4 := has_cell zd 4 rfl
      have zdlt := has_lt zd
      have zxc0 := has_cell zx 0 rfl; have zxc1 := has_cell zx 1 rfl; have zxc2 := has_cell zx 2 rfl; have zxc3 := has_cell zx 3 rfl; have zxc4 := has_cell zx 4 rfl
      have zxlt := has_lt zx
      have ZDH := Lib.hid zd; clear zd
      have ZXH := Lib.hid zx; clear zx
      have ZB := Lib.hid zb; clear zb
      go_wp2_with fail
      go_ret
      exact ⟨rfl, ZB.out⟩
  · skip
    clear hok
    have HCV := Lib.hid (show Value.agg (cutD ⟨1, s, l, o, f⟩).A = .agg #[.int .i64 1, .int .i64 0, .bool l, .bool o, .bool f] by rw [HC.out]; rfl)
    go_wp2_with fail
    have zb := hb1; clear hb1
    refine (cutS_any _ 1 s l o f).mono ?_
    rintro e w2 ⟨rfl, hb⟩
    rw [HCV.out]
    have hsw2 := hb.size
    replace zb := bthen zb hb; clear hb
    obtain ⟨hr0, hT⟩ := vd_of (k := 1) (by omega) (f := f) hol
    obtain ⟨T, hTe⟩ : ∃ T, truthD ⟨1, 0, l, o, f⟩ = T := ⟨_, rfl⟩
    rw [hTe] at hr0 hT
    obtain ⟨⟨k2, s2, l2, o2, f2⟩, hx⟩ : ∃ y, (recD ⟨1, 0, l, o, f⟩ 0 0 0 0).1 = y := ⟨_, rfl⟩
    have HR0 := Lib.hid (show drI (recD ⟨1, 0, l, o, f⟩ 0 0 0 0) = .tuple #[.agg #[.int .i64 k2, .int .i64 s2, .bool l2, .bool o2, .bool f2], .int .i64 T, .bool true] by rw [show recD ⟨1, 0, l, o, f⟩ 0 0 0 0 = (⟨k2, s2, l2, o2, f2⟩, T, true) from Prod.ext hx hr0]; rfl)
    have HT := Lib.hid hTe
    have hn1 := vd_some hT; have hn2 : ¬ (verdV T).toList = [] := by rw [← List.isEmpty_iff, hn1]; simp
    have HT3 := Lib.hid hT; have HOL := Lib.hid hol; clear hr0 hx hTe hT hol
    go_wp2_with fail
    generalize hX : (w2.alloc (.cells #[.int .i64 1, .int .i64 0, .bool l, .bool o, .bool f] 27)) = w3
    have hb : Below w2.heap.size w2 w3 := by rw [← hX]; exact balloc _ _
    have hk : Has w3 w2.heap.size 27 #[.int .i64 1, .int .i64 0, .bool l, .bool o, .bool f] := by rw [← hX]; exact has_new _ _ _
    clear hX
    have hsw3 := hb.size
    replace zb := bthen zb hb; clear hb
    have zd := hk; clear hk; have hlzd := has_lt zd
    refine (recI_any _ 1 0 l o f 0 0 0 0).mono ?_
    rintro e w4 ⟨rfl, hb⟩
    rw [HR0.out]
    have hsw4 := hb.size
    replace zd := has_call zd hb
    replace zb := bthen zb hb; clear hb
    have zdc0 := has_cell zd 0 rfl; have zdc1 := has_cell zd 1 rfl; have zdc2 := has_cell zd 2 rfl; have zdc3 := has_cell zd 3 rfl; have zdc4 := has_cell zd 4 rfl
    have zdlt := has_lt zd
    have ZDH := Lib.hid zd; clear zd
    have ZB := Lib.hid zb; clear zb
    go_wp2_with fail
    clear zdc0 zdc1 zdc2 zdc3 zdc4 zdlt
    have zd := ZDH.out; clear ZDH
    have zb := ZB.out; clear ZB
    generalize hX : (w4.alloc (.cells #[.int .i64 k2, .int .i64 s2, .bool l2, .bool o2, .bool f2] 27)) = w5
    have hb : Below w4.heap.size w4 w5 := by rw [← hX]; exact balloc _ _
    have hk : Has w5 w4.heap.size 27 #[.int .i64 k2, .int .i64 s2, .bool l2, .bool o2, .bool f2] := by rw [← hX]; exact has_new _ _ _
    clear hX
    have hsw5 := hb.size
    replace zd := has_call zd hb
    replace zb := bthen zb hb; clear hb
    have zx := hk; clear hk; have hlzx := has_lt zx
    refine (truthI_any _ 1 0 l o f).mono ?_
    rintro e w6 ⟨rfl, hb⟩
    rw [HT.out]
    have hsw6 := hb.size
    replace zd := has_call zd hb
    replace zx := has_call zx hb
    replace zb := bthen zb hb; clear hb
    have zdc0 := has_cell zd 0 rfl; have zdc1 := has_cell zd 1 rfl; have zdc2 := has_cell zd 2 rfl; have zdc3 := has_cell zd 3 rfl; have zdc4 := has_cell zd 4 rfl
    have zdlt := has_lt zd
    have zxc0 := has_cell zx 0 rfl; have zxc1 := has_cell zx 1 rfl; have zxc2 := has_cell zx 2 rfl; have zxc3 := has_cell zx 3 rfl; have zxc4 := has_cell zx 4 rfl
    have zxlt := has_lt zx
    have ZDH := Lib.hid zd; clear zd
    have ZXH := Lib.hid zx; clear zx
    have ZB := Lib.hid zb; clear zb
    go_wp2_with fail
    clear zdc0 zdc1 zdc2 zdc3 zdc4 zdlt zxc0 zxc1 zxc2 zxc3 zxc4 zxlt
    have zd := ZDH.out; clear ZDH
    have zx := ZXH.out; clear ZXH
    have zb := ZB.out; clear ZB
    refine (truthS_any _ 1 0 l o f).mono ?_
    rintro e w7 ⟨rfl, hb⟩
    rw [HT.out]
    have hsw7 := hb.size
    replace zd := has_call zd hb
    replace zx := has_call zx hb
    replace zb := bthen zb hb; clear hb
    have zdc0 := has_cell zd 0 rfl; have zdc1 := has_cell zd 1 rfl; have zdc2 := has_cell zd 2 rfl; have zdc3 := has_cell zd 3 rfl; have zdc4 := has_cell zd 4 rfl
    have zdlt := has_lt zd
    have zxc0 := has_cell zx 0 rfl; have zxc1 := has_cell zx 1 rfl; have zxc2 := has_cell zx 2 rfl; have zxc3 := has_cell zx 3 rfl; have zxc4 := has_cell zx 4 rfl
    have zxlt := has_lt zx
    have ZDH := Lib.hid zd; clear zd
    have ZXH := Lib.hid zx; clear zx
    have ZB := Lib.hid zb; clear zb
    go_wp2_with fail
    clear zdc0 zdc1 zdc2 zdc3 zdc4 zdlt zxc0 zxc1 zxc2 zxc3 zxc4 zxlt
    have zd := ZDH.out; clear ZDH
    have zx := ZXH.out; clear ZXH
    have zb := ZB.out; clear ZB
    clear zx
    refine (verdNameI_any _ T).mono ?_
    rintro e w8 ⟨rfl, hb⟩
    have hsw8 := hb.size
    replace zd := has_call zd hb
    replace zb := bthen zb hb; clear hb
    have zdc0 := has_cell zd 0 rfl; have zdc1 := has_cell zd 1 rfl; have zdc2 := has_cell zd 2 rfl; have zdc3 := has_cell zd 3 rfl; have zdc4 := has_cell zd 4 rfl
    have zdlt := has_lt zd
    have ZDH := Lib.hid zd; clear zd
    have ZB := Lib.hid zb; clear zb
    go_wp2_with fail
    clear zdc0 zdc1 zdc2 zdc3 zdc4 zdlt
    have zd := ZDH.out; clear ZDH
    have zb := ZB.out; clear ZB
    clear hn1 hn2
    have ST : Hid (Has w8 (w2.heap.size) 27 #[.int .i64 1, .int .i64 0, .bool l, .bool o, .bool f] ∧ Below w.heap.size w w8) := Lib.hid ⟨zd, zb⟩
    clear zd zb
    go_loopw [8] (fun iv wr => ∃ n : Nat, n ≤ 8 ∧ iv = .int .i64 n ∧ Has wr (w2.heap.size) 27 #[.int .i64 1, .int .i64 0, .bool l, .bool o, .bool f] ∧ Below w.heap.size w wr) (fun iv _ => 8 - (intOf iv).toNat)
    case atStart => exact ⟨0, Nat.zero_le _, rfl, ST.out.1, ST.out.2⟩
    case round =>
      obtain ⟨n, hn, rfl, zd, zb⟩ := hrel; clear ST
      have hszd := has_lt zd; have hszw := zb.size
      by_cases hlt : n < 8
      · skip
        have zdc0 := has_cell zd 0 rfl; have zdc1 := has_cell zd 1 rfl; have zdc2 := has_cell zd 2 rfl; have zdc3 := has_cell zd 3 rfl; have zdc4 := has_cell zd 4 rfl
        have zdlt := has_lt zd
        have ZDH := Lib.hid zd; clear zd
        have ZB := Lib.hid zb; clear zb
        go_upto_block 2 with fail
        clear zdc0 zdc1 zdc2 zdc3 zdc4 zdlt
        have zd := ZDH.out; clear ZDH
        have zb := ZB.out; clear ZB
        have ZDH := Lib.hid zd; have ZB := Lib.hid zb; clear zd zb
        go_cut [9] (fun p W => VdBox n wr p W)
        case first =>
          have h8 : n = 0 ∨ n = 1 ∨ n = 2 ∨ n = 3 ∨ n = 4 ∨ n = 5 ∨ n = 6 ∨ n = 7 := by omega
          rcases h8 with rfl | rfl | rfl | rfl | rfl | rfl | rfl | rfl
          all_goals (go_wp2_with fail; go_meet; exact vdbox_mk rfl (Nat.le_refl _) (has_new _ _ _) (balloc _ _) rfl rfl rfl rfl)
        case rest =>
          rename World => wz
          obtain ⟨g9, rfl, hg9, zf, hb⟩ := hcut
          have zd := ZDH.out; have zb := ZB.out; clear ZDH ZB
          obtain ⟨g1, g2, g3, g4, ⟨k3, s3, l3, o3, f3⟩, v, hsg, hre, hvb, hcn, hok2, hout⟩ := vd_round (k := 1) (by omega) (f := f) HOL.out hlt
          rw [HT.out] at hout
          have hsz9 := hb.size
          have hswz := hb.size
          replace zd := has_call zd hb
          replace zb := bthen zb hb; clear hb
          obtain ⟨a, ha⟩ : ∃ a, fA n = a := ⟨_, rfl⟩; obtain ⟨b, hb⟩ : ∃ b, fB n = b := ⟨_, rfl⟩; obtain ⟨c, hc⟩ : ∃ c, fC n = c := ⟨_, rfl⟩; obtain ⟨d, hd⟩ : ∃ d, fE n = d := ⟨_, rfl⟩
          rw [ha, hb, hc, hd] at zf hsg hre hcn; clear ha hb hc hd
          have HSG := Lib.hid (show sgT (signsD ⟨1, 0, l, o, f⟩ a b c d) = .tuple #[.agg #[.bool g1, .bool g2, .bool g3, .bool g4], .bool true] by rw [hsg]; rfl)
          have HRE := Lib.hid (show drI (recD ⟨1, 0, l, o, f⟩ a b c d) = .tuple #[.agg #[.int .i64 k3, .int .i64 s3, .bool l3, .bool o3, .bool f3], .int .i64 v, .bool true] by rw [hre]; rfl)
          have HVB := Lib.hid hvb; have HCN := Lib.hid hcn; have HOK2 := Lib.hid (show doorB k3 s3 l3 o3 f3 = true from hok2)
          clear hsg hre hvb hcn hok2
          have hT1 : ((1 : Int) != T) = true := by have := HT3.out; rw [bne_iff_ne]; omega
          rcases hout with ⟨rfl, hy⟩ | ⟨rfl, rfl, hy⟩ | ⟨rfl, rfl, hy⟩ | ⟨rfl, rfl, hy⟩
          all_goals (injection hy with e1 e2 e3 e4 e5; replace e1 := e1.symm; replace e2 := e2.symm; replace e3 := e3.symm; replace e4 := e4.symm; replace e5 := e5.symm; subst e1 e2 e3 e4 e5)
          · skip
            have zdc0 := has_cell zd 0 rfl; have zdc1 := has_cell zd 1 rfl; have zdc2 := has_cell zd 2 rfl; have zdc3 := has_cell zd 3 rfl; have zdc4 := has_cell zd 4 rfl
            have zdlt := has_lt zd
            have zfc0 := has_cell zf 0 rfl; have zfc1 := has_cell zf 1 rfl; have zfc2 := has_cell zf 2 rfl; have zfc3 := has_cell zf 3 rfl
            have zflt := has_lt zf
            have ZDH := Lib.hid zd; clear zd
            have ZFH := Lib.hid zf; clear zf
            have ZB := Lib.hid zb; clear zb
            go_step
            go_wp2_with fail
            clear zdc0 zdc1 zdc2 zdc3 zdc4 zdlt zfc0 zfc1 zfc2 zfc3 zflt
            have zd := ZDH.out; clear ZDH
            have zf := ZFH.out; clear ZFH
            have zb := ZB.out; clear ZB
            refine (signsI_any _ 1 0 l o f a b c d).mono ?_
            rintro e w41 ⟨rfl, hb⟩
            rw [HSG.out]
            have hsw41 := hb.size
            replace zd := has_call zd hb
            replace zf := has_call zf hb
            replace zb := bthen zb hb; clear hb
            have zdc0 := has_cell zd 0 rfl; have zdc1 := has_cell zd 1 rfl; have zdc2 := has_cell zd 2 rfl; have zdc3 := has_cell zd 3 rfl; have zdc4 := has_cell zd 4 rfl
            have zdlt := has_lt zd
            have zfc0 := has_cell zf 0 rfl; have zfc1 := has_cell zf 1 rfl; have zfc2 := has_cell zf 2 rfl; have zfc3 := has_cell zf 3 rfl
            have zflt := has_lt zf
            have ZDH := Lib.hid zd; clear zd
            have ZFH := Lib.hid zf; clear zf
            have ZB := Lib.hid zb; clear zb
            go_wp2_with fail
            clear zdc0 zdc1 zdc2 zdc3 zdc4 zdlt zfc0 zfc1 zfc2 zfc3 zflt
            have zd := ZDH.out; clear ZDH
            have zf := ZFH.out; clear ZFH
            have zb := ZB.out; clear ZB
            generalize hX : (w41.alloc (.cells #[.bool g1, .bool g2, .bool g3, .bool g4] 41)) = w42
            have hb : Below w41.heap.size w41 w42 := by rw [← hX]; exact balloc _ _
            have hk : Has w42 w41.heap.size 41 #[.bool g1, .bool g2, .bool g3, .bool g4] := by rw [← hX]; exact has_new _ _ _
            clear hX
            have hsw42 := hb.size
            replace zd := has_call zd hb
            replace zf := has_call zf hb
            replace zb := bthen zb hb; clear hb
            have zs := hk; clear hk; have hlzs := has_lt zs
            refine (recI_any _ 1 0 l o f a b c d).mono ?_
            rintro e w43 ⟨rfl, hb⟩
            rw [HRE.out]
            have hsw43 := hb.size
            replace zd := has_call zd hb
            replace zf := has_call zf hb
            replace zs := has_call zs hb
            replace zb := bthen zb hb; clear hb
            have zdc0 := has_cell zd 0 rfl; have zdc1 := has_cell zd 1 rfl; have zdc2 := has_cell zd 2 rfl; have zdc3 := has_cell zd 3 rfl; have zdc4 := has_cell zd 4 rfl
            have zdlt := has_lt zd
            have zfc0 := has_cell zf 0 rfl; have zfc1 := has_cell zf 1 rfl; have zfc2 := has_cell zf 2 rfl; have zfc3 := has_cell zf 3 rfl
            have zflt := has_lt zf
            have zsc0 := has_cell zs 0 rfl; have zsc1 := has_cell zs 1 rfl; have zsc2 := has_cell zs 2 rfl; have zsc3 := has_cell zs 3 rfl
            have zslt := has_lt zs
            have ZDH := Lib.hid zd; clear zd
            have ZFH := Lib.hid zf; clear zf
            have ZSH := Lib.hid zs; clear zs
            have ZB := Lib.hid zb; clear zb
            go_wp2_with fail
            clear zdc0 zdc1 zdc2 zdc3 zdc4 zdlt zfc0 zfc1 zfc2 zfc3 zflt zsc0 zsc1 zsc2 zsc3 zslt
            have zd := ZDH.out; clear ZDH
            have zf := ZFH.out; clear ZFH
            have zs := ZSH.out; clear ZSH
            have zb := ZB.out; clear ZB
            generalize hX : (w43.alloc (.cells #[.int .i64 1, .int .i64 0, .bool l, .bool o, .bool f] 27)) = w44
            have hb : Below w43.heap.size w43 w44 := by rw [← hX]; exact balloc _ _
            have hk : Has w44 w43.heap.size 27 #[.int .i64 1, .int .i64 0, .bool l, .bool o, .bool f] := by rw [← hX]; exact has_new _ _ _
            clear hX
            have hsw44 := hb.size
            replace zd := has_call zd hb
            replace zf := has_call zf hb
            replace zs := has_call zs hb
            replace zb := bthen zb hb; clear hb
            have zy := hk; clear hk; have hlzy := has_lt zy
            refine (verdI_any _ 1 g1 g2 g3 g4).mono ?_
            rintro e w45 ⟨rfl, hb⟩
            rw [HVB.out]
            have hsw45 := hb.size
            replace zd := has_call zd hb
            replace zf := has_call zf hb
            replace zs := has_call zs hb
            replace zy := has_call zy hb
            replace zb := bthen zb hb; clear hb
            have zdc0 := has_cell zd 0 rfl; have zdc1 := has_cell zd 1 rfl; have zdc2 := has_cell zd 2 rfl; have zdc3 := has_cell zd 3 rfl; have zdc4 := has_cell zd 4 rfl
            have zdlt := has_lt zd
            have zfc0 := has_cell zf 0 rfl; have zfc1 := has_cell zf 1 rfl; have zfc2 := has_cell zf 2 rfl; have zfc3 := has_cell zf 3 rfl
            have zflt := has_lt zf
            have zsc0 := has_cell zs 0 rfl; have zsc1 := has_cell zs 1 rfl; have zsc2 := has_cell zs 2 rfl; have zsc3 := has_cell zs 3 rfl
            have zslt := has_lt zs
            have zyc0 := has_cell zy 0 rfl; have zyc1 := has_cell zy 1 rfl; have zyc2 := has_cell zy 2 rfl; have zyc3 := has_cell zy 3 rfl; have zyc4 := has_cell zy 4 rfl
            have zylt := has_lt zy
            have ZDH := Lib.hid zd; clear zd
            have ZFH := Lib.hid zf; clear zf
            have ZSH := Lib.hid zs; clear zs
            have ZYH := Lib.hid zy; clear zy
            have ZB := Lib.hid zb; clear zb
            go_wp2_with fail
            clear zdc0 zdc1 zdc2 zdc3 zdc4 zdlt zfc0 zfc1 zfc2 zfc3 zflt zsc0 zsc1 zsc2 zsc3 zslt zyc0 zyc1 zyc2 zyc3 zyc4 zylt
            have zd := ZDH.out; clear ZDH
            have zf := ZFH.out; clear ZFH
            have zs := ZSH.out; clear ZSH
            have zy := ZYH.out; clear ZYH
            have zb := ZB.out; clear ZB
            refine (cntI_any _ a b c d).mono ?_
            rintro e w46 ⟨rfl, hb⟩
            rw [HCN.out]
            have hsw46 := hb.size
            replace zd := has_call zd hb
            replace zf := has_call zf hb
            replace zs := has_call zs hb
            replace zy := has_call zy hb
            replace zb := bthen zb hb; clear hb
            have zdc0 := has_cell zd 0 rfl; have zdc1 := has_cell zd 1 rfl; have zdc2 := has_cell zd 2 rfl; have zdc3 := has_cell zd 3 rfl; have zdc4 := has_cell zd 4 rfl
            have zdlt := has_lt zd
            have zfc0 := has_cell zf 0 rfl; have zfc1 := has_cell zf 1 rfl; have zfc2 := has_cell zf 2 rfl; have zfc3 := has_cell zf 3 rfl
            have zflt := has_lt zf
            have zsc0 := has_cell zs 0 rfl; have zsc1 := has_cell zs 1 rfl; have zsc2 := has_cell zs 2 rfl; have zsc3 := has_cell zs 3 rfl
            have zslt := has_lt zs
            have zyc0 := has_cell zy 0 rfl; have zyc1 := has_cell zy 1 rfl; have zyc2 := has_cell zy 2 rfl; have zyc3 := has_cell zy 3 rfl; have zyc4 := has_cell zy 4 rfl
            have zylt := has_lt zy
            have ZDH := Lib.hid zd; clear zd
            have ZFH := Lib.hid zf; clear zf
            have ZSH := Lib.hid zs; clear zs
            have ZYH := Lib.hid zy; clear zy
            have ZB := Lib.hid zb; clear zb
            go_wp2_with fail
            clear zdc0 zdc1 zdc2 zdc3 zdc4 zdlt zfc0 zfc1 zfc2 zfc3 zflt zsc0 zsc1 zsc2 zsc3 zslt zyc0 zyc1 zyc2 zyc3 zyc4 zylt
            have zd := ZDH.out; clear ZDH
            have zf := ZFH.out; clear ZFH
            have zs := ZSH.out; clear ZSH
            have zy := ZYH.out; clear ZYH
            have zb := ZB.out; clear ZB
            refine (doorI_any _ 1 0 l o f).mono ?_
            rintro e w47 ⟨rfl, hb⟩
            rw [HOK2.out]
            have hsw47 := hb.size
            replace zd := has_call zd hb
            replace zf := has_call zf hb
            replace zs := has_call zs hb
            replace zy := has_call zy hb
            replace zb := bthen zb hb; clear hb
            have zdc0 := has_cell zd 0 rfl; have zdc1 := has_cell zd 1 rfl; have zdc2 := has_cell zd 2 rfl; have zdc3 := has_cell zd 3 rfl; have zdc4 := has_cell zd 4 rfl
            have zdlt := has_lt zd
            have zfc0 := has_cell zf 0 rfl; have zfc1 := has_cell zf 1 rfl; have zfc2 := has_cell zf 2 rfl; have zfc3 := has_cell zf 3 rfl
            have zflt := has_lt zf
            have zsc0 := has_cell zs 0 rfl; have zsc1 := has_cell zs 1 rfl; have zsc2 := has_cell zs 2 rfl; have zsc3 := has_cell zs 3 rfl
            have zslt := has_lt zs
            have zyc0 := has_cell zy 0 rfl; have zyc1 := has_cell zy 1 rfl; have zyc2 := has_cell zy 2 rfl; have zyc3 := has_cell zy 3 rfl; have zyc4 := has_cell zy 4 rfl
            have zylt := has_lt zy
            have ZDH := Lib.hid zd; clear zd
            have ZFH := Lib.hid zf; clear zf
            have ZSH := Lib.hid zs; clear zs
            have ZYH := Lib.hid zy; clear zy
            have ZB := Lib.hid zb; clear zb
            go_wp2_with fail
            clear zdc0 zdc1 zdc2 zdc3 zdc4 zdlt zfc0 zfc1 zfc2 zfc3 zflt zsc0 zsc1 zsc2 zsc3 zslt zyc0 zyc1 zyc2 zyc3 zyc4 zylt
            have zd := ZDH.out; clear ZDH
            have zf := ZFH.out; clear ZFH
            have zs := ZSH.out; clear ZSH
            have zy := ZYH.out; clear ZYH
            have zb := ZB.out; clear ZB
            go_roundw
            case rel => with_reducible exact ⟨n + 1, by omega, by go_num, zd, zb⟩
            case measure => simp [intOf] <;> omega
          · skip
            have zdc0 := has_cell zd 0 rfl; have zdc1 := has_cell zd 1 rfl; have zdc2 := has_cell zd 2 rfl; have zdc3 := has_cell zd 3 rfl; have zdc4 := has_cell zd 4 rfl
            have zdlt := has_lt zd
            have zfc0 := has_cell zf 0 rfl; have zfc1 := has_cell zf 1 rfl; have zfc2 := has_cell zf 2 rfl; have zfc3 := has_cell zf 3 rfl
            have zflt := has_lt zf
            have ZDH := Lib.hid zd; clear zd
            have ZFH := Lib.hid zf; clear zf
            have ZB := Lib.hid zb; clear zb
            go_step
            go_wp2_with fail
            clear zdc0 zdc1 zdc2 zdc3 zdc4 zdlt zfc0 zfc1 zfc2 zfc3 zflt
            have zd := ZDH.out; clear ZDH
            have zf := ZFH.out; clear ZFH
            have zb := ZB.out; clear ZB
            refine (signsI_any _ 1 0 l o f a b c d).mono ?_
            rintro e w41 ⟨rfl, hb⟩
            rw [HSG.out]
            have hsw41 := hb.size
            replace zd := has_call zd hb
            replace zf := has_call zf hb
            replace zb := bthen zb hb; clear hb
            have zdc0 := has_cell zd 0 rfl; have zdc1 := has_cell zd 1 rfl; have zdc2 := has_cell zd 2 rfl; have zdc3 := has_cell zd 3 rfl; have zdc4 := has_cell zd 4 rfl
            have zdlt := has_lt zd
            have zfc0 := has_cell zf 0 rfl; have zfc1 := has_cell zf 1 rfl; have zfc2 := has_cell zf 2 rfl; have zfc3 := has_cell zf 3 rfl
            have zflt := has_lt zf
            have ZDH := Lib.hid zd; clear zd
            have ZFH := Lib.hid zf; clear zf
            have ZB := Lib.hid zb; clear zb
            go_wp2_with fail
            clear zdc0 zdc1 zdc2 zdc3 zdc4 zdlt zfc0 zfc1 zfc2 zfc3 zflt
            have zd := ZDH.out; clear ZDH
            have zf := ZFH.out; clear ZFH
            have zb := ZB.out; clear ZB
            generalize hX : (w41.alloc (.cells #[.bool g1, .bool g2, .bool g3, .bool g4] 41)) = w42
            have hb : Below w41.heap.size w41 w42 := by rw [← hX]; exact balloc _ _
            have hk : Has w42 w41.heap.size 41 #[.bool g1, .bool g2, .bool g3, .bool g4] := by rw [← hX]; exact has_new _ _ _
            clear hX
            have hsw42 := hb.size
            replace zd := has_call zd hb
            replace zf := has_call zf hb
            replace zb := bthen zb hb; clear hb
            have zs := hk; clear hk; have hlzs := has_lt zs
            refine (recI_any _ 1 0 l o f a b c d).mono ?_
            rintro e w43 ⟨rfl, hb⟩
            rw [HRE.out]
            have hsw43 := hb.size
            replace zd := has_call zd hb
            replace zf := has_call zf hb
            replace zs := has_call zs hb
            replace zb := bthen zb hb; clear hb
            have zdc0 := has_cell zd 0 rfl; have zdc1 := has_cell zd 1 rfl; have zdc2 := has_cell zd 2 rfl; have zdc3 := has_cell zd 3 rfl; have zdc4 := has_cell zd 4 rfl
            have zdlt := has_lt zd
            have zfc0 := has_cell zf 0 rfl; have zfc1 := has_cell zf 1 rfl; have zfc2 := has_cell zf 2 rfl; have zfc3 := has_cell zf 3 rfl
            have zflt := has_lt zf
            have zsc0 := has_cell zs 0 rfl; have zsc1 := has_cell zs 1 rfl; have zsc2 := has_cell zs 2 rfl; have zsc3 := has_cell zs 3 rfl
            have zslt := has_lt zs
            have ZDH := Lib.hid zd; clear zd
            have ZFH := Lib.hid zf; clear zf
            have ZSH := Lib.hid zs; clear zs
            have ZB := Lib.hid zb; clear zb
            go_wp2_with fail
            clear zdc0 zdc1 zdc2 zdc3 zdc4 zdlt zfc0 zfc1 zfc2 zfc3 zflt zsc0 zsc1 zsc2 zsc3 zslt
            have zd := ZDH.out; clear ZDH
            have zf := ZFH.out; clear ZFH
            have zs := ZSH.out; clear ZSH
            have zb := ZB.out; clear ZB
            generalize hX : (w43.alloc (.cells #[.int .i64 1, .int .i64 0, .bool l, .bool o, .bool f] 27)) = w44
            have hb : Below w43.heap.size w43 w44 := by rw [← hX]; exact balloc _ _
            have hk : Has w44 w43.heap.size 27 #[.int .i64 1, .int .i64 0, .bool l, .bool o, .bool f] := by rw [← hX]; exact has_new _ _ _
            clear hX
            have hsw44 := hb.size
            replace zd := has_call zd hb
            replace zf := has_call zf hb
            replace zs := has_call zs hb
            replace zb := bthen zb hb; clear hb
            have zy := hk; clear hk; have hlzy := has_lt zy
            refine (verdI_any _ 1 g1 g2 g3 g4).mono ?_
            rintro e w45 ⟨rfl, hb⟩
            rw [HVB.out]
            have hsw45 := hb.size
            replace zd := has_call zd hb
            replace zf := has_call zf hb
            replace zs := has_call zs hb
            replace zy := has_call zy hb
            replace zb := bthen zb hb; clear hb
            have zdc0 := has_cell zd 0 rfl; have zdc1 := has_cell zd 1 rfl; have zdc2 := has_cell zd 2 rfl; have zdc3 := has_cell zd 3 rfl; have zdc4 := has_cell zd 4 rfl
            have zdlt := has_lt zd
            have zfc0 := has_cell zf 0 rfl; have zfc1 := has_cell zf 1 rfl; have zfc2 := has_cell zf 2 rfl; have zfc3 := has_cell zf 3 rfl
            have zflt := has_lt zf
            have zsc0 := has_cell zs 0 rfl; have zsc1 := has_cell zs 1 rfl; have zsc2 := has_cell zs 2 rfl; have zsc3 := has_cell zs 3 rfl
            have zslt := has_lt zs
            have zyc0 := has_cell zy 0 rfl; have zyc1 := has_cell zy 1 rfl; have zyc2 := has_cell zy 2 rfl; have zyc3 := has_cell zy 3 rfl; have zyc4 := has_cell zy 4 rfl
            have zylt := has_lt zy
            have ZDH := Lib.hid zd; clear zd
            have ZFH := Lib.hid zf; clear zf
            have ZSH := Lib.hid zs; clear zs
            have ZYH := Lib.hid zy; clear zy
            have ZB := Lib.hid zb; clear zb
            go_wp2_with fail
            clear zdc0 zdc1 zdc2 zdc3 zdc4 zdlt zfc0 zfc1 zfc2 zfc3 zflt zsc0 zsc1 zsc2 zsc3 zslt zyc0 zyc1 zyc2 zyc3 zyc4 zylt
            have zd := ZDH.out; clear ZDH
            have zf := ZFH.out; clear ZFH
            have zs := ZSH.out; clear ZSH
            have zy := ZYH.out; clear ZYH
            have zb := ZB.out; clear ZB
            refine (cntI_any _ a b c d).mono ?_
            rintro e w46 ⟨rfl, hb⟩
            rw [HCN.out]
            have hsw46 := hb.size
            replace zd := has_call zd hb
            replace zf := has_call zf hb
            replace zs := has_call zs hb
            replace zy := has_call zy hb
            replace zb := bthen zb hb; clear hb
            have zdc0 := has_cell zd 0 rfl; have zdc1 := has_cell zd 1 rfl; have zdc2 := has_cell zd 2 rfl; have zdc3 := has_cell zd 3 rfl; have zdc4 := has_cell zd 4 rfl
            have zdlt := has_lt zd
            have zfc0 := has_cell zf 0 rfl; have zfc1 := has_cell zf 1 rfl; have zfc2 := has_cell zf 2 rfl; have zfc3 := has_cell zf 3 rfl
            have zflt := has_lt zf
            have zsc0 := has_cell zs 0 rfl; have zsc1 := has_cell zs 1 rfl; have zsc2 := has_cell zs 2 rfl; have zsc3 := has_cell zs 3 rfl
            have zslt := has_lt zs
            have zyc0 := has_cell zy 0 rfl; have zyc1 := has_cell zy 1 rfl; have zyc2 := has_cell zy 2 rfl; have zyc3 := has_cell zy 3 rfl; have zyc4 := has_cell zy 4 rfl
            have zylt := has_lt zy
            have ZDH := Lib.hid zd; clear zd
            have ZFH := Lib.hid zf; clear zf
            have ZSH := Lib.hid zs; clear zs
            have ZYH := Lib.hid zy; clear zy
            have ZB := Lib.hid zb; clear zb
            go_wp2_with fail
            clear zdc0 zdc1 zdc2 zdc3 zdc4 zdlt zfc0 zfc1 zfc2 zfc3 zflt zsc0 zsc1 zsc2 zsc3 zslt zyc0 zyc1 zyc2 zyc3 zyc4 zylt
            have zd := ZDH.out; clear ZDH
            have zf := ZFH.out; clear ZFH
            have zs := ZSH.out; clear ZSH
            have zy := ZYH.out; clear ZYH
            have zb := ZB.out; clear ZB
            refine (doorI_any _ 1 0 l o f).mono ?_
            rintro e w47 ⟨rfl, hb⟩
            rw [HOK2.out]
            have hsw47 := hb.size
            replace zd := has_call zd hb
            replace zf := has_call zf hb
            replace zs := has_call zs hb
            replace zy := has_call zy hb
            replace zb := bthen zb hb; clear hb
            have zdc0 := has_cell zd 0 rfl; have zdc1 := has_cell zd 1 rfl; have zdc2 := has_cell zd 2 rfl; have zdc3 := has_cell zd 3 rfl; have zdc4 := has_cell zd 4 rfl
            have zdlt := has_lt zd
            have zfc0 := has_cell zf 0 rfl; have zfc1 := has_cell zf 1 rfl; have zfc2 := has_cell zf 2 rfl; have zfc3 := has_cell zf 3 rfl
            have zflt := has_lt zf
            have zsc0 := has_cell zs 0 rfl; have zsc1 := has_cell zs 1 rfl; have zsc2 := has_cell zs 2 rfl; have zsc3 := has_cell zs 3 rfl
            have zslt := has_lt zs
            have zyc0 := has_cell zy 0 rfl; have zyc1 := has_cell zy 1 rfl; have zyc2 := has_cell zy 2 rfl; have zyc3 := has_cell zy 3 rfl; have zyc4 := has_cell zy 4 rfl
            have zylt := has_lt zy
            have ZDH := Lib.hid zd; clear zd
            have ZFH := Lib.hid zf; clear zf
            have ZSH := Lib.hid zs; clear zs
            have ZYH := Lib.hid zy; clear zy
            have ZB := Lib.hid zb; clear zb
            go_wp2_with fail
            clear zdc0 zdc1 zdc2 zdc3 zdc4 zdlt zfc0 zfc1 zfc2 zfc3 zflt zsc0 zsc1 zsc2 zsc3 zslt zyc0 zyc1 zyc2 zyc3 zyc4 zylt
            have zd := ZDH.out; clear ZDH
            have zf := ZFH.out; clear ZFH
            have zs := ZSH.out; clear ZSH
            have zy := ZYH.out; clear ZYH
            have zb := ZB.out; clear ZB
            go_roundw
            case rel => with_reducible exact ⟨n + 1, by omega, by go_num, zd, zb⟩
            case measure => simp [intOf] <;> omega
          · skip
            have zdc0 := has_cell zd 0 rfl; have zdc1 := has_cell zd 1 rfl; have zdc2 := has_cell zd 2 rfl; have zdc3 := has_cell zd 3 rfl; have zdc4 := has_cell zd 4 rfl
            have zdlt := has_lt zd
            have zfc0 := has_cell zf 0 rfl; have zfc1 := has_cell zf 1 rfl; have zfc2 := has_cell zf 2 rfl; have zfc3 := has_cell zf 3 rfl
            have zflt := has_lt zf
            have ZDH := Lib.hid zd; clear zd
            have ZFH := Lib.hid zf; clear zf
            have ZB := Lib.hid zb; clear zb
            go_step
            go_wp2_with fail
            clear zdc0 zdc1 zdc2 zdc3 zdc4 zdlt zfc0 zfc1 zfc2 zfc3 zflt
            have zd := ZDH.out; clear ZDH
            have zf := ZFH.out; clear ZFH
            have zb := ZB.out; clear ZB
            refine (signsI_any _ 1 0 l o f a b c d).mono ?_
            rintro e w41 ⟨rfl, hb⟩
            rw [HSG.out]
            have hsw41 := hb.size
            replace zd := has_call zd hb
            replace zf := has_call zf hb
            replace zb := bthen zb hb; clear hb
            have zdc0 := has_cell zd 0 rfl; have zdc1 := has_cell zd 1 rfl; have zdc2 := has_cell zd 2 rfl; have zdc3 := has_cell zd 3 rfl; have zdc4 := has_cell zd 4 rfl
            have zdlt := has_lt zd
            have zfc0 := has_cell zf 0 rfl; have zfc1 := has_cell zf 1 rfl; have zfc2 := has_cell zf 2 rfl; have zfc3 := has_cell zf 3 rfl
            have zflt := has_lt zf
            have ZDH := Lib.hid zd; clear zd
            have ZFH := Lib.hid zf; clear zf
            have ZB := Lib.hid zb; clear zb
            go_wp2_with fail
            clear zdc0 zdc1 zdc2 zdc3 zdc4 zdlt zfc0 zfc1 zfc2 zfc3 zflt
            have zd := ZDH.out; clear ZDH
            have zf := ZFH.out; clear ZFH
            have zb := ZB.out; clear ZB
            generalize hX : (w41.alloc (.cells #[.bool g1, .bool g2, .bool g3, .bool g4] 41)) = w42
            have hb : Below w41.heap.size w41 w42 := by rw [← hX]; exact balloc _ _
            have hk : Has w42 w41.heap.size 41 #[.bool g1, .bool g2, .bool g3, .bool g4] := by rw [← hX]; exact has_new _ _ _
            clear hX
            have hsw42 := hb.size
            replace zd := has_call zd hb
            replace zf := has_call zf hb
            replace zb := bthen zb hb; clear hb
            have zs := hk; clear hk; have hlzs := has_lt zs
            refine (recI_any _ 1 0 l o f a b c d).mono ?_
            rintro e w43 ⟨rfl, hb⟩
            rw [HRE.out]
            have hsw43 := hb.size
            replace zd := has_call zd hb
            replace zf := has_call zf hb
            replace zs := has_call zs hb
            replace zb := bthen zb hb; clear hb
            have zdc0 := has_cell zd 0 rfl; have zdc1 := has_cell zd 1 rfl; have zdc2 := has_cell zd 2 rfl; have zdc3 := has_cell zd 3 rfl; have zdc4 := has_cell zd 4 rfl
            have zdlt := has_lt zd
            have zfc0 := has_cell zf 0 rfl; have zfc1 := has_cell zf 1 rfl; have zfc2 := has_cell zf 2 rfl; have zfc3 := has_cell zf 3 rfl
            have zflt := has_lt zf
            have zsc0 := has_cell zs 0 rfl; have zsc1 := has_cell zs 1 rfl; have zsc2 := has_cell zs 2 rfl; have zsc3 := has_cell zs 3 rfl
            have zslt := has_lt zs
            have ZDH := Lib.hid zd; clear zd
            have ZFH := Lib.hid zf; clear zf
            have ZSH := Lib.hid zs; clear zs
            have ZB := Lib.hid zb; clear zb
            go_wp2_with fail
            clear zdc0 zdc1 zdc2 zdc3 zdc4 zdlt zfc0 zfc1 zfc2 zfc3 zflt zsc0 zsc1 zsc2 zsc3 zslt
            have zd := ZDH.out; clear ZDH
            have zf := ZFH.out; clear ZFH
            have zs := ZSH.out; clear ZSH
            have zb := ZB.out; clear ZB
            generalize hX : (w43.alloc (.cells #[.int .i64 0, .int .i64 0, .bool false, .bool false, .bool f] 27)) = w44
            have hb : Below w43.heap.size w43 w44 := by rw [← hX]; exact balloc _ _
            have hk : Has w44 w43.heap.size 27 #[.int .i64 0, .int .i64 0, .bool false, .bool false, .bool f] := by rw [← hX]; exact has_new _ _ _
            clear hX
            have hsw44 := hb.size
            replace zd := has_call zd hb
            replace zf := has_call zf hb
            replace zs := has_call zs hb
            replace zb := bthen zb hb; clear hb
            have zy := hk; clear hk; have hlzy := has_lt zy
            refine (verdI_any _ 1 g1 g2 g3 g4).mono ?_
            rintro e w45 ⟨rfl, hb⟩
            rw [HVB.out]
            have hsw45 := hb.size
            replace zd := has_call zd hb
            replace zf := has_call zf hb
            replace zs := has_call zs hb
            replace zy := has_call zy hb
            replace zb := bthen zb hb; clear hb
            have zdc0 := has_cell zd 0 rfl; have zdc1 := has_cell zd 1 rfl; have zdc2 := has_cell zd 2 rfl; have zdc3 := has_cell zd 3 rfl; have zdc4 := has_cell zd 4 rfl
            have zdlt := has_lt zd
            have zfc0 := has_cell zf 0 rfl; have zfc1 := has_cell zf 1 rfl; have zfc2 := has_cell zf 2 rfl; have zfc3 := has_cell zf 3 rfl
            have zflt := has_lt zf
            have zsc0 := has_cell zs 0 rfl; have zsc1 := has_cell zs 1 rfl; have zsc2 := has_cell zs 2 rfl; have zsc3 := has_cell zs 3 rfl
            have zslt := has_lt zs
            have zyc0 := has_cell zy 0 rfl; have zyc1 := has_cell zy 1 rfl; have zyc2 := has_cell zy 2 rfl; have zyc3 := has_cell zy 3 rfl; have zyc4 := has_cell zy 4 rfl
            have zylt := has_lt zy
            have ZDH := Lib.hid zd; clear zd
            have ZFH := Lib.hid zf; clear zf
            have ZSH := Lib.hid zs; clear zs
            have ZYH := Lib.hid zy; clear zy
            have ZB := Lib.hid zb; clear zb
            go_wp2_with fail
            clear zdc0 zdc1 zdc2 zdc3 zdc4 zdlt zfc0 zfc1 zfc2 zfc3 zflt zsc0 zsc1 zsc2 zsc3 zslt zyc0 zyc1 zyc2 zyc3 zyc4 zylt
            have zd := ZDH.out; clear ZDH
            have zf := ZFH.out; clear ZFH
            have zs := ZSH.out; clear ZSH
            have zy := ZYH.out; clear ZYH
            have zb := ZB.out; clear ZB
            refine (cntI_any _ a b c d).mono ?_
            rintro e w46 ⟨rfl, hb⟩
            rw [HCN.out]
            have hsw46 := hb.size
            replace zd := has_call zd hb
            replace zf := has_call zf hb
            replace zs := has_call zs hb
            replace zy := has_call zy hb
            replace zb := bthen zb hb; clear hb
            have zdc0 := has_cell zd 0 rfl; have zdc1 := has_cell zd 1 rfl; have zdc2 := has_cell zd 2 rfl; have zdc3 := has_cell zd 3 rfl; have zdc4 := has_cell zd 4 rfl
            have zdlt := has_lt zd
            have zfc0 := has_cell zf 0 rfl; have zfc1 := has_cell zf 1 rfl; have zfc2 := has_cell zf 2 rfl; have zfc3 := has_cell zf 3 rfl
            have zflt := has_lt zf
            have zsc0 := has_cell zs 0 rfl; have zsc1 := has_cell zs 1 rfl; have zsc2 := has_cell zs 2 rfl; have zsc3 := has_cell zs 3 rfl
            have zslt := has_lt zs
            have zyc0 := has_cell zy 0 rfl; have zyc1 := has_cell zy 1 rfl; have zyc2 := has_cell zy 2 rfl; have zyc3 := has_cell zy 3 rfl; have zyc4 := has_cell zy 4 rfl
            have zylt := has_lt zy
            have ZDH := Lib.hid zd; clear zd
            have ZFH := Lib.hid zf; clear zf
            have ZSH := Lib.hid zs; clear zs
            have ZYH := Lib.hid zy; clear zy
            have ZB := Lib.hid zb; clear zb
            go_wp2_with fail
            clear zdc0 zdc1 zdc2 zdc3 zdc4 zdlt zfc0 zfc1 zfc2 zfc3 zflt zsc0 zsc1 zsc2 zsc3 zslt zyc0 zyc1 zyc2 zyc3 zyc4 zylt
            have zd := ZDH.out; clear ZDH
            have zf := ZFH.out; clear ZFH
            have zs := ZSH.out; clear ZSH
            have zy := ZYH.out; clear ZYH
            have zb := ZB.out; clear ZB
            refine (doorI_any _ 0 0 false false f).mono ?_
            rintro e w47 ⟨rfl, hb⟩
            rw [HOK2.out]
            have hsw47 := hb.size
            replace zd := has_call zd hb
            replace zf := has_call zf hb
            replace zs := has_call zs hb
            replace zy := has_call zy hb
            replace zb := bthen zb hb; clear hb
            have zdc0 := has_cell zd 0 rfl; have zdc1 := has_cell zd 1 rfl; have zdc2 := has_cell zd 2 rfl; have zdc3 := has_cell zd 3 rfl; have zdc4 := has_cell zd 4 rfl
            have zdlt := has_lt zd
            have zfc0 := has_cell zf 0 rfl; have zfc1 := has_cell zf 1 rfl; have zfc2 := has_cell zf 2 rfl; have zfc3 := has_cell zf 3 rfl
            have zflt := has_lt zf
            have zsc0 := has_cell zs 0 rfl; have zsc1 := has_cell zs 1 rfl; have zsc2 := has_cell zs 2 rfl; have zsc3 := has_cell zs 3 rfl
            have zslt := has_lt zs
            have zyc0 := has_cell zy 0 rfl; have zyc1 := has_cell zy 1 rfl; have zyc2 := has_cell zy 2 rfl; have zyc3 := has_cell zy 3 rfl; have zyc4 := has_cell zy 4 rfl
            have zylt := has_lt zy
            have ZDH := Lib.hid zd; clear zd
            have ZFH := Lib.hid zf; clear zf
            have ZSH := Lib.hid zs; clear zs
            have ZYH := Lib.hid zy; clear zy
            have ZB := Lib.hid zb; clear zb
            go_wp2_with fail
            clear zdc0 zdc1 zdc2 zdc3 zdc4 zdlt zfc0 zfc1 zfc2 zfc3 zflt zsc0 zsc1 zsc2 zsc3 zslt zyc0 zyc1 zyc2 zyc3 zyc4 zylt
            have zd := ZDH.out; clear ZDH
            have zf := ZFH.out; clear ZFH
            have zs := ZSH.out; clear ZSH
            have zy := ZYH.out; clear ZYH
            have zb := ZB.out; clear ZB
            go_roundw
            case rel => with_reducible exact ⟨n + 1, by omega, by go_num, zd, zb⟩
            case measure => simp [intOf] <;> omega
          · skip
            have zdc0 := has_cell zd 0 rfl; have zdc1 := has_cell zd 1 rfl; have zdc2 := has_cell zd 2 rfl; have zdc3 := has_cell zd 3 rfl; have zdc4 := has_cell zd 4 rfl
            have zdlt := has_lt zd
            have zfc0 := has_cell zf 0 rfl; have zfc1 := has_cell zf 1 rfl; have zfc2 := has_cell zf 2 rfl; have zfc3 := has_cell zf 3 rfl
            have zflt := has_lt zf
            have ZDH := Lib.hid zd; clear zd
            have ZFH := Lib.hid zf; clear zf
            have ZB := Lib.hid zb; clear zb
            go_step
            go_wp2_with fail
            clear zdc0 zdc1 zdc2 zdc3 zdc4 zdlt zfc0 zfc1 zfc2 zfc3 zflt
            have zd := ZDH.out; clear ZDH
            have zf := ZFH.out; clear ZFH
            have zb := ZB.out; clear ZB
            refine (signsI_any _ 1 0 l o f a b c d).mono ?_
            rintro e w41 ⟨rfl, hb⟩
            rw [HSG.out]
            have hsw41 := hb.size
            replace zd := has_call zd hb
            replace zf := has_call zf hb
            replace zb := bthen zb hb; clear hb
            have zdc0 := has_cell zd 0 rfl; have zdc1 := has_cell zd 1 rfl; have zdc2 := has_cell zd 2 rfl; have zdc3 := has_cell zd 3 rfl; have zdc4 := has_cell zd 4 rfl
            have zdlt := has_lt zd
            have zfc0 := has_cell zf 0 rfl; have zfc1 := has_cell zf 1 rfl; have zfc2 := has_cell zf 2 rfl; have zfc3 := has_cell zf 3 rfl
            have zflt := has_lt zf
            have ZDH := Lib.hid zd; clear zd
            have ZFH := Lib.hid zf; clear zf
            have ZB := Lib.hid zb; clear zb
            go_wp2_with fail
            clear zdc0 zdc1 zdc2 zdc3 zdc4 zdlt zfc0 zfc1 zfc2 zfc3 zflt
            have zd := ZDH.out; clear ZDH
            have zf := ZFH.out; clear ZFH
            have zb := ZB.out; clear ZB
            generalize hX : (w41.alloc (.cells #[.bool g1, .bool g2, .bool g3, .bool g4] 41)) = w42
            have hb : Below w41.heap.size w41 w42 := by rw [← hX]; exact balloc _ _
            have hk : Has w42 w41.heap.size 41 #[.bool g1, .bool g2, .bool g3, .bool g4] := by rw [← hX]; exact has_new _ _ _
            clear hX
            have hsw42 := hb.size
            replace zd := has_call zd hb
            replace zf := has_call zf hb
            replace zb := bthen zb hb; clear hb
            have zs := hk; clear hk; have hlzs := has_lt zs
            refine (recI_any _ 1 0 l o f a b c d).mono ?_
            rintro e w43 ⟨rfl, hb⟩
            rw [HRE.out]
            have hsw43 := hb.size
            replace zd := has_call zd hb
            replace zf := has_call zf hb
            replace zs := has_call zs hb
            replace zb := bthen zb hb; clear hb
            have zdc0 := has_cell zd 0 rfl; have zdc1 := has_cell zd 1 rfl; have zdc2 := has_cell zd 2 rfl; have zdc3 := has_cell zd 3 rfl; have zdc4 := has_cell zd 4 rfl
            have zdlt := has_lt zd
            have zfc0 := has_cell zf 0 rfl; have zfc1 := has_cell zf 1 rfl; have zfc2 := has_cell zf 2 rfl; have zfc3 := has_cell zf 3 rfl
            have zflt := has_lt zf
            have zsc0 := has_cell zs 0 rfl; have zsc1 := has_cell zs 1 rfl; have zsc2 := has_cell zs 2 rfl; have zsc3 := has_cell zs 3 rfl
            have zslt := has_lt zs
            have ZDH := Lib.hid zd; clear zd
            have ZFH := Lib.hid zf; clear zf
            have ZSH := Lib.hid zs; clear zs
            have ZB := Lib.hid zb; clear zb
            go_wp2_with fail
            clear zdc0 zdc1 zdc2 zdc3 zdc4 zdlt zfc0 zfc1 zfc2 zfc3 zflt zsc0 zsc1 zsc2 zsc3 zslt
            have zd := ZDH.out; clear ZDH
            have zf := ZFH.out; clear ZFH
            have zs := ZSH.out; clear ZSH
            have zb := ZB.out; clear ZB
            generalize hX : (w43.alloc (.cells #[.int .i64 0, .int .i64 0, .bool false, .bool false, .bool f] 27)) = w44
            have hb : Below w43.heap.size w43 w44 := by rw [← hX]; exact balloc _ _
            have hk : Has w44 w43.heap.size 27 #[.int .i64 0, .int .i64 0, .bool false, .bool false, .bool f] := by rw [← hX]; exact has_new _ _ _
            clear hX
            have hsw44 := hb.size
            replace zd := has_call zd hb
            replace zf := has_call zf hb
            replace zs := has_call zs hb
            replace zb := bthen zb hb; clear hb
            have zy := hk; clear hk; have hlzy := has_lt zy
            refine (verdI_any _ 1 g1 g2 g3 g4).mono ?_
            rintro e w45 ⟨rfl, hb⟩
            rw [HVB.out]
            have hsw45 := hb.size
            replace zd := has_call zd hb
            replace zf := has_call zf hb
            replace zs := has_call zs hb
            replace zy := has_call zy hb
            replace zb := bthen zb hb; clear hb
            have zdc0 := has_cell zd 0 rfl; have zdc1 := has_cell zd 1 rfl; have zdc2 := has_cell zd 2 rfl; have zdc3 := has_cell zd 3 rfl; have zdc4 := has_cell zd 4 rfl
            have zdlt := has_lt zd
            have zfc0 := has_cell zf 0 rfl; have zfc1 := has_cell zf 1 rfl; have zfc2 := has_cell zf 2 rfl; have zfc3 := has_cell zf 3 rfl
            have zflt := has_lt zf
            have zsc0 := has_cell zs 0 rfl; have zsc1 := has_cell zs 1 rfl; have zsc2 := has_cell zs 2 rfl; have zsc3 := has_cell zs 3 rfl
            have zslt := has_lt zs
            have zyc0 := has_cell zy 0 rfl; have zyc1 := has_cell zy 1 rfl; have zyc2 := has_cell zy 2 rfl; have zyc3 := has_cell zy 3 rfl; have zyc4 := has_cell zy 4 rfl
            have zylt := has_lt zy
            have ZDH := Lib.hid zd; clear zd
            have ZFH := Lib.hid zf; clear zf
            have ZSH := Lib.hid zs; clear zs
            have ZYH := Lib.hid zy; clear zy
            have ZB := Lib.hid zb; clear zb
            go_wp2_with fail
            clear zdc0 zdc1 zdc2 zdc3 zdc4 zdlt zfc0 zfc1 zfc2 zfc3 zflt zsc0 zsc1 zsc2 zsc3 zslt zyc0 zyc1 zyc2 zyc3 zyc4 zylt
            have zd := ZDH.out; clear ZDH
            have zf := ZFH.out; clear ZFH
            have zs := ZSH.out; clear ZSH
            have zy := ZYH.out; clear ZYH
            have zb := ZB.out; clear ZB
            refine (cntI_any _ a b c d).mono ?_
            rintro e w46 ⟨rfl, hb⟩
            rw [HCN.out]
            have hsw46 := hb.size
            replace zd := has_call zd hb
            replace zf := has_call zf hb
            replace zs := has_call zs hb
            replace zy := has_call zy hb
            replace zb := bthen zb hb; clear hb
            have zdc0 := has_cell zd 0 rfl; have zdc1 := has_cell zd 1 rfl; have zdc2 := has_cell zd 2 rfl; have zdc3 := has_cell zd 3 rfl; have zdc4 := has_cell zd 4 rfl
            have zdlt := has_lt zd
            have zfc0 := has_cell zf 0 rfl; have zfc1 := has_cell zf 1 rfl; have zfc2 := has_cell zf 2 rfl; have zfc3 := has_cell zf 3 rfl
            have zflt := has_lt zf
            have zsc0 := has_cell zs 0 rfl; have zsc1 := has_cell zs 1 rfl; have zsc2 := has_cell zs 2 rfl; have zsc3 := has_cell zs 3 rfl
            have zslt := has_lt zs
            have zyc0 := has_cell zy 0 rfl; have zyc1 := has_cell zy 1 rfl; have zyc2 := has_cell zy 2 rfl; have zyc3 := has_cell zy 3 rfl; have zyc4 := has_cell zy 4 rfl
            have zylt := has_lt zy
            have ZDH := Lib.hid zd; clear zd
            have ZFH := Lib.hid zf; clear zf
            have ZSH := Lib.hid zs; clear zs
            have ZYH := Lib.hid zy; clear zy
            have ZB := Lib.hid zb; clear zb
            go_wp2_with fail
            clear zdc0 zdc1 zdc2 zdc3 zdc4 zdlt zfc0 zfc1 zfc2 zfc3 zflt zsc0 zsc1 zsc2 zsc3 zslt zyc0 zyc1 zyc2 zyc3 zyc4 zylt
            have zd := ZDH.out; clear ZDH
            have zf := ZFH.out; clear ZFH
            have zs := ZSH.out; clear ZSH
            have zy := ZYH.out; clear ZYH
            have zb := ZB.out; clear ZB
            refine (doorI_any _ 0 0 false false f).mono ?_
            rintro e w47 ⟨rfl, hb⟩
            rw [HOK2.out]
            have hsw47 := hb.size
            replace zd := has_call zd hb
            replace zf := has_call zf hb
            replace zs := has_call zs hb
            replace zy := has_call zy hb
            replace zb := bthen zb hb; clear hb
            have zdc0 := has_cell zd 0 rfl; have zdc1 := has_cell zd 1 rfl; have zdc2 := has_cell zd 2 rfl; have zdc3 := has_cell zd 3 rfl; have zdc4 := has_cell zd 4 rfl
            have zdlt := has_lt zd
            have zfc0 := has_cell zf 0 rfl; have zfc1 := has_cell zf 1 rfl; have zfc2 := has_cell zf 2 rfl; have zfc3 := has_cell zf 3 rfl
            have zflt := has_lt zf
            have zsc0 := has_cell zs 0 rfl; have zsc1 := has_cell zs 1 rfl; have zsc2 := has_cell zs 2 rfl; have zsc3 := has_cell zs 3 rfl
            have zslt := has_lt zs
            have zyc0 := has_cell zy 0 rfl; have zyc1 := has_cell zy 1 rfl; have zyc2 := has_cell zy 2 rfl; have zyc3 := has_cell zy 3 rfl; have zyc4 := has_cell zy 4 rfl
            have zylt := has_lt zy
            have ZDH := Lib.hid zd; clear zd
            have ZFH := Lib.hid zf; clear zf
            have ZSH := Lib.hid zs; clear zs
            have ZYH := Lib.hid zy; clear zy
            have ZB := Lib.hid zb; clear zb
            go_wp2_with fail
            clear zdc0 zdc1 zdc2 zdc3 zdc4 zdlt zfc0 zfc1 zfc2 zfc3 zflt zsc0 zsc1 zsc2 zsc3 zslt zyc0 zyc1 zyc2 zyc3 zyc4 zylt
            have zd := ZDH.out; clear ZDH
            have zf := ZFH.out; clear ZFH
            have zs := ZSH.out; clear ZSH
            have zy := ZYH.out; clear ZYH
            have zb := ZB.out; clear ZB
            go_roundw
            case rel => with_reducible exact ⟨n + 1, by omega, by go_num, zd, zb⟩
            case measure => simp [intOf] <;> omega
      obtain rfl : n = 8 := by omega
      clear hlt hn HR0 HT HT3 HC HCV
      have zdc0 := has_cell zd 0 rfl; have zdc1 := has_cell zd 1 rfl; have zdc2 := has_cell zd 2 rfl; have zdc3 := has_cell zd 3 rfl; have zdc4 := has_cell zd 4 rfl
      have zdlt := has_lt zd
      have ZDH := Lib.hid zd; clear zd
      have ZB := Lib.hid zb; clear zb
      go_wp2_with fail
      clear zdc0 zdc1 zdc2 zdc3 zdc4 zdlt
      have zd := ZDH.out; clear ZDH
      have zb := ZB.out; clear ZB
      have HIN := Lib.hid (show drI (inspD ⟨1, 0, l, o, f⟩) = .tuple #[.agg #[.int .i64 0, .int .i64 0, .bool false, .bool false, .bool f], .int .i64 (outB 1 f), .bool true] by rw [inspD_yes (show isCutD ⟨1, 0, l, o, f⟩ = true by unfold isCutD; rw [show Dr.ok ⟨1, 0, l, o, f⟩ = true by have := HOL.out; revert this; cases l <;> cases o <;> cases f <;> decide]; rfl)]; rfl)
      refine (inspI_any _ 1 0 l o f).mono ?_
      rintro e w48 ⟨rfl, hb⟩
      rw [HIN.out]
      have hsw48 := hb.size
      replace zd := has_call zd hb
      replace zb := bthen zb hb; clear hb
      clear HIN HOK HOL; cases f
      · skip
        rw [show outB 1 false = 4 from by decide]
        have zdc0 := has_cell zd 0 rfl; have zdc1 := has_cell zd 1 rfl; have zdc2 := has_cell zd 2 rfl; have zdc3 := has_cell zd 3 rfl; have zdc4 := has_cell zd 4 rfl
        have zdlt := has_lt zd
        have ZDH := Lib.hid zd; clear zd
        have ZB := Lib.hid zb; clear zb
        go_wp2_with fail
        go_ret
        exact ⟨rfl, Below.alloc ZB.out (by omega) _⟩
      · skip
        rw [show outB 1 true = 3 from by decide]
        have zdc0 := has_cell zd 0 rfl; have zdc1 := has_cell zd 1 rfl; have zdc2 := has_cell zd 2 rfl; have zdc3 := has_cell zd 3 rfl; have zdc4 := has_cell zd 4 rfl
        have zdlt := has_lt zd
        have ZDH := Lib.hid zd; clear zd
        have ZB := Lib.hid zb; clear zb
        go_wp2_with fail
        go_ret
        exact ⟨rfl, Below.alloc ZB.out (by omega) _⟩
  · skip
    clear hok
    have HCV := Lib.hid (show Value.agg (cutD ⟨2, s, l, o, f⟩).A = .agg #[.int .i64 2, .int .i64 0, .bool l, .bool o, .bool f] by rw [HC.out]; rfl)
    go_wp2_with fail
    have zb := hb1; clear hb1
    refine (cutS_any _ 2 s l o f).mono ?_
    rintro e w2 ⟨rfl, hb⟩
    rw [HCV.out]
    have hsw2 := hb.size
    replace zb := bthen zb hb; clear hb
    obtain ⟨hr0, hT⟩ := vd_of (k := 2) (by omega) (f := f) hol
    obtain ⟨T, hTe⟩ : ∃ T, truthD ⟨2, 0, l, o, f⟩ = T := ⟨_, rfl⟩
    rw [hTe] at hr0 hT
    obtain ⟨⟨k2, s2, l2, o2, f2⟩, hx⟩ : ∃ y, (recD ⟨2, 0, l, o, f⟩ 0 0 0 0).1 = y := ⟨_, rfl⟩
    have HR0 := Lib.hid (show drI (recD ⟨2, 0, l, o, f⟩ 0 0 0 0) = .tuple #[.agg #[.int .i64 k2, .int .i64 s2, .bool l2, .bool o2, .bool f2], .int .i64 T, .bool true] by rw [show recD ⟨2, 0, l, o, f⟩ 0 0 0 0 = (⟨k2, s2, l2, o2, f2⟩, T, true) from Prod.ext hx hr0]; rfl)
    have HT := Lib.hid hTe
    have hn1 := vd_some hT; have hn2 : ¬ (verdV T).toList = [] := by rw [← List.isEmpty_iff, hn1]; simp
    have HT3 := Lib.hid hT; have HOL := Lib.hid hol; clear hr0 hx hTe hT hol
    go_wp2_with fail
    generalize hX : (w2.alloc (.cells #[.int .i64 2, .int .i64 0, .bool l, .bool o, .bool f] 27)) = w3
    have hb : Below w2.heap.size w2 w3 := by rw [← hX]; exact balloc _ _
    have hk : Has w3 w2.heap.size 27 #[.int .i64 2, .int .i64 0, .bool l, .bool o, .bool f] := by rw [← hX]; exact has_new _ _ _
    clear hX
    have hsw3 := hb.size
    replace zb := bthen zb hb; clear hb
    have zd := hk; clear hk; have hlzd := has_lt zd
    refine (recI_any _ 2 0 l o f 0 0 0 0).mono ?_
    rintro e w4 ⟨rfl, hb⟩
    rw [HR0.out]
    have hsw4 := hb.size
    replace zd := has_call zd hb
    replace zb := bthen zb hb; clear hb
    have zdc0 := has_cell zd 0 rfl; have zdc1 := has_cell zd 1 rfl; have zdc2 := has_cell zd 2 rfl; have zdc3 := has_cell zd 3 rfl; have zdc4 := has_cell zd 4 rfl
    have zdlt := has_lt zd
    have ZDH := Lib.hid zd; clear zd
    have ZB := Lib.hid zb; clear zb
    go_wp2_with fail
    clear zdc0 zdc1 zdc2 zdc3 zdc4 zdlt
    have zd := ZDH.out; clear ZDH
    have zb := ZB.out; clear ZB
    generalize hX : (w4.alloc (.cells #[.int .i64 k2, .int .i64 s2, .bool l2, .bool o2, .bool f2] 27)) = w5
    have hb : Below w4.heap.size w4 w5 := by rw [← hX]; exact balloc _ _
    have hk : Has w5 w4.heap.size 27 #[.int .i64 k2, .int .i64 s2, .bool l2, .bool o2, .bool f2] := by rw [← hX]; exact has_new _ _ _
    clear hX
    have hsw5 := hb.size
    replace zd := has_call zd hb
    replace zb := bthen zb hb; clear hb
    have zx := hk; clear hk; have hlzx := has_lt zx
    refine (truthI_any _ 2 0 l o f).mono ?_
    rintro e w6 ⟨rfl, hb⟩
    rw [HT.out]
    have hsw6 := hb.size
    replace zd := has_call zd hb
    replace zx := has_call zx hb
    replace zb := bthen zb hb; clear hb
    have zdc0 := has_cell zd 0 rfl; have zdc1 := has_cell zd 1 rfl; have zdc2 := has_cell zd 2 rfl; have zdc3 := has_cell zd 3 rfl; have zdc4 := has_cell zd 4 rfl
    have zdlt := has_lt zd
    have zxc0 := has_cell zx 0 rfl; have zxc1 := has_cell zx 1 rfl; have zxc2 := has_cell zx 2 rfl; have zxc3 := has_cell zx 3 rfl; have zxc4 := has_cell zx 4 rfl
    have zxlt := has_lt zx
    have ZDH := Lib.hid zd; clear zd
    have ZXH := Lib.hid zx; clear zx
    have ZB := Lib.hid zb; clear zb
    go_wp2_with fail
    clear zdc0 zdc1 zdc2 zdc3 zdc4 zdlt zxc0 zxc1 zxc2 zxc3 zxc4 zxlt
    have zd := ZDH.out; clear ZDH
    have zx := ZXH.out; clear ZXH
    have zb := ZB.out; clear ZB
    refine (truthS_any _ 2 0 l o f).mono ?_
    rintro e w7 ⟨rfl, hb⟩
    rw [HT.out]
    have hsw7 := hb.size
    replace zd := has_call zd hb
    replace zx := has_call zx hb
    replace zb := bthen zb hb; clear hb
    have zdc0 := has_cell zd 0 rfl; have zdc1 := has_cell zd 1 rfl; have zdc2 := has_cell zd 2 rfl; have zdc3 := has_cell zd 3 rfl; have zdc4 := has_cell zd 4 rfl
    have zdlt := has_lt zd
    have zxc0 := has_cell zx 0 rfl; have zxc1 := has_cell zx 1 rfl; have zxc2 := has_cell zx 2 rfl; have zxc3 := has_cell zx 3 rfl; have zxc4 := has_cell zx 4 rfl
    have zxlt := has_lt zx
    have ZDH := Lib.hid zd; clear zd
    have ZXH := Lib.hid zx; clear zx
    have ZB := Lib.hid zb; clear zb
    go_wp2_with fail
    clear zdc0 zdc1 zdc2 zdc3 zdc4 zdlt zxc0 zxc1 zxc2 zxc3 zxc4 zxlt
    have zd := ZDH.out; clear ZDH
    have zx := ZXH.out; clear ZXH
    have zb := ZB.out; clear ZB
    clear zx
    refine (verdNameI_any _ T).mono ?_
    rintro e w8 ⟨rfl, hb⟩
    have hsw8 := hb.size
    replace zd := has_call zd hb
    replace zb := bthen zb hb; clear hb
    have zdc0 := has_cell zd 0 rfl; have zdc1 := has_cell zd 1 rfl; have zdc2 := has_cell zd 2 rfl; have zdc3 := has_cell zd 3 rfl; have zdc4 := has_cell zd 4 rfl
    have zdlt := has_lt zd
    have ZDH := Lib.hid zd; clear zd
    have ZB := Lib.hid zb; clear zb
    go_wp2_with fail
    clear zdc0 zdc1 zdc2 zdc3 zdc4 zdlt
    have zd := ZDH.out; clear ZDH
    have zb := ZB.out; clear ZB
    clear hn1 hn2
    have ST : Hid (Has w8 (w2.heap.size) 27 #[.int .i64 2, .int .i64 0, .bool l, .bool o, .bool f] ∧ Below w.heap.size w w8) := Lib.hid ⟨zd, zb⟩
    clear zd zb
    go_loopw [8] (fun iv wr => ∃ n : Nat, n ≤ 8 ∧ iv = .int .i64 n ∧ Has wr (w2.heap.size) 27 #[.int .i64 2, .int .i64 0, .bool l, .bool o, .bool f] ∧ Below w.heap.size w wr) (fun iv _ => 8 - (intOf iv).toNat)
    case atStart => exact ⟨0, Nat.zero_le _, rfl, ST.out.1, ST.out.2⟩
    case round =>
      obtain ⟨n, hn, rfl, zd, zb⟩ := hrel; clear ST
      have hszd := has_lt zd; have hszw := zb.size
      by_cases hlt : n < 8
      · skip
        have zdc0 := has_cell zd 0 rfl; have zdc1 := has_cell zd 1 rfl; have zdc2 := has_cell zd 2 rfl; have zdc3 := has_cell zd 3 rfl; have zdc4 := has_cell zd 4 rfl
        have zdlt := has_lt zd
        have ZDH := Lib.hid zd; clear zd
        have ZB := Lib.hid zb; clear zb
        go_upto_block 2 with fail
        clear zdc0 zdc1 zdc2 zdc3 zdc4 zdlt
        have zd := ZDH.out; clear ZDH
        have zb := ZB.out; clear ZB
        have ZDH := Lib.hid zd; have ZB := Lib.hid zb; clear zd zb
        go_cut [9] (fun p W => VdBox n wr p W)
        case first =>
          have h8 : n = 0 ∨ n = 1 ∨ n = 2 ∨ n = 3 ∨ n = 4 ∨ n = 5 ∨ n = 6 ∨ n = 7 := by omega
          rcases h8 with rfl | rfl | rfl | rfl | rfl | rfl | rfl | rfl
          all_goals (go_wp2_with fail; go_meet; exact vdbox_mk rfl (Nat.le_refl _) (has_new _ _ _) (balloc _ _) rfl rfl rfl rfl)
        case rest =>
          rename World => wz
          obtain ⟨g9, rfl, hg9, zf, hb⟩ := hcut
          have zd := ZDH.out; have zb := ZB.out; clear ZDH ZB
          obtain ⟨g1, g2, g3, g4, ⟨k3, s3, l3, o3, f3⟩, v, hsg, hre, hvb, hcn, hok2, hout⟩ := vd_round (k := 2) (by omega) (f := f) HOL.out hlt
          rw [HT.out] at hout
          have hsz9 := hb.size
          have hswz := hb.size
          replace zd := has_call zd hb
          replace zb := bthen zb hb; clear hb
          obtain ⟨a, ha⟩ : ∃ a, fA n = a := ⟨_, rfl⟩; obtain ⟨b, hb⟩ : ∃ b, fB n = b := ⟨_, rfl⟩; obtain ⟨c, hc⟩ : ∃ c, fC n = c := ⟨_, rfl⟩; obtain ⟨d, hd⟩ : ∃ d, fE n = d := ⟨_, rfl⟩
          rw [ha, hb, hc, hd] at zf hsg hre hcn; clear ha hb hc hd
          have HSG := Lib.hid (show sgT (signsD ⟨2, 0, l, o, f⟩ a b c d) = .tuple #[.agg #[.bool g1, .bool g2, .bool g3, .bool g4], .bool true] by rw [hsg]; rfl)
          have HRE := Lib.hid (show drI (recD ⟨2, 0, l, o, f⟩ a b c d) = .tuple #[.agg #[.int .i64 k3, .int .i64 s3, .bool l3, .bool o3, .bool f3], .int .i64 v, .bool true] by rw [hre]; rfl)
          have HVB := Lib.hid hvb; have HCN := Lib.hid hcn; have HOK2 := Lib.hid (show doorB k3 s3 l3 o3 f3 = true from hok2)
          clear hsg hre hvb hcn hok2
          have hT1 : ((1 : Int) != T) = true := by have := HT3.out; rw [bne_iff_ne]; omega
          rcases hout with ⟨rfl, hy⟩ | ⟨rfl, rfl, hy⟩ | ⟨rfl, rfl, hy⟩ | ⟨rfl, rfl, hy⟩
          all_goals (injection hy with e1 e2 e3 e4 e5; replace e1 := e1.symm; replace e2 := e2.symm; replace e3 := e3.symm; replace e4 := e4.symm; replace e5 := e5.symm; subst e1 e2 e3 e4 e5)
          · skip
            have zdc0 := has_cell zd 0 rfl; have zdc1 := has_cell zd 1 rfl; have zdc2 := has_cell zd 2 rfl; have zdc3 := has_cell zd 3 rfl; have zdc4 := has_cell zd 4 rfl
            have zdlt := has_lt zd
            have zfc0 := has_cell zf 0 rfl; have zfc1 := has_cell zf 1 rfl; have zfc2 := has_cell zf 2 rfl; have zfc3 := has_cell zf 3 rfl
            have zflt := has_lt zf
            have ZDH := Lib.hid zd; clear zd
            have ZFH := Lib.hid zf; clear zf
            have ZB := Lib.hid zb; clear zb
            go_step
            go_wp2_with fail
            clear zdc0 zdc1 zdc2 zdc3 zdc4 zdlt zfc0 zfc1 zfc2 zfc3 zflt
            have zd := ZDH.out; clear ZDH
            have zf := ZFH.out; clear ZFH
            have zb := ZB.out; clear ZB
            refine (signsI_any _ 2 0 l o f a b c d).mono ?_
            rintro e w41 ⟨rfl, hb⟩
            rw [HSG.out]
            have hsw41 := hb.size
            replace zd := has_call zd hb
            replace zf := has_call zf hb
            replace zb := bthen zb hb; clear hb
            have zdc0 := has_cell zd 0 rfl; have zdc1 := has_cell zd 1 rfl; have zdc2 := has_cell zd 2 rfl; have zdc3 := has_cell zd 3 rfl; have zdc4 := has_cell zd 4 rfl
            have zdlt := has_lt zd
            have zfc0 := has_cell zf 0 rfl; have zfc1 := has_cell zf 1 rfl; have zfc2 := has_cell zf 2 rfl; have zfc3 := has_cell zf 3 rfl
            have zflt := has_lt zf
            have ZDH := Lib.hid zd; clear zd
            have ZFH := Lib.hid zf; clear zf
            have ZB := Lib.hid zb; clear zb
            go_wp2_with fail
            clear zdc0 zdc1 zdc2 zdc3 zdc4 zdlt zfc0 zfc1 zfc2 zfc3 zflt
            have zd := ZDH.out; clear ZDH
            have zf := ZFH.out; clear ZFH
            have zb := ZB.out; clear ZB
            generalize hX : (w41.alloc (.cells #[.bool g1, .bool g2, .bool g3, .bool g4] 41)) = w42
            have hb : Below w41.heap.size w41 w42 := by rw [← hX]; exact balloc _ _
            have hk : Has w42 w41.heap.size 41 #[.bool g1, .bool g2, .bool g3, .bool g4] := by rw [← hX]; exact has_new _ _ _
            clear hX
            have hsw42 := hb.size
            replace zd := has_call zd hb
            replace zf := has_call zf hb
            replace zb := bthen zb hb; clear hb
            have zs := hk; clear hk; have hlzs := has_lt zs
            refine (recI_any _ 2 0 l o f a b c d).mono ?_
            rintro e w43 ⟨rfl, hb⟩
            rw [HRE.out]
            have hsw43 := hb.size
            replace zd := has_call zd hb
            replace zf := has_call zf hb
            replace zs := has_call zs hb
            replace zb := bthen zb hb; clear hb
            have zdc0 := has_cell zd 0 rfl; have zdc1 := has_cell zd 1 rfl; have zdc2 := has_cell zd 2 rfl; have zdc3 := has_cell zd 3 rfl; have zdc4 := has_cell zd 4 rfl
            have zdlt := has_lt zd
            have zfc0 := has_cell zf 0 rfl; have zfc1 := has_cell zf 1 rfl; have zfc2 := has_cell zf 2 rfl; have zfc3 := has_cell zf 3 rfl
            have zflt := has_lt zf
            have zsc0 := has_cell zs 0 rfl; have zsc1 := has_cell zs 1 rfl; have zsc2 := has_cell zs 2 rfl; have zsc3 := has_cell zs 3 rfl
            have zslt := has_lt zs
            have ZDH := Lib.hid zd; clear zd
            have ZFH := Lib.hid zf; clear zf
            have ZSH := Lib.hid zs; clear zs
            have ZB := Lib.hid zb; clear zb
            go_wp2_with fail
            clear zdc0 zdc1 zdc2 zdc3 zdc4 zdlt zfc0 zfc1 zfc2 zfc3 zflt zsc0 zsc1 zsc2 zsc3 zslt
            have zd := ZDH.out; clear ZDH
            have zf := ZFH.out; clear ZFH
            have zs := ZSH.out; clear ZSH
            have zb := ZB.out; clear ZB
            generalize hX : (w43.alloc (.cells #[.int .i64 2, .int .i64 0, .bool l, .bool o, .bool f] 27)) = w44
            have hb : Below w43.heap.size w43 w44 := by rw [← hX]; exact balloc _ _
            have hk : Has w44 w43.heap.size 27 #[.int .i64 2, .int .i64 0, .bool l, .bool o, .bool f] := by rw [← hX]; exact has_new _ _ _
            clear hX
            have hsw44 := hb.size
            replace zd := has_call zd hb
            replace zf := has_call zf hb
            replace zs := has_call zs hb
            replace zb := bthen zb hb; clear hb
            have zy := hk; clear hk; have hlzy := has_lt zy
            refine (verdI_any _ 2 g1 g2 g3 g4).mono ?_
            rintro e w45 ⟨rfl, hb⟩
            rw [HVB.out]
            have hsw45 := hb.size
            replace zd := has_call zd hb
            replace zf := has_call zf hb
            replace zs := has_call zs hb
            replace zy := has_call zy hb
            replace zb := bthen zb hb; clear hb
            have zdc0 := has_cell zd 0 rfl; have zdc1 := has_cell zd 1 rfl; have zdc2 := has_cell zd 2 rfl; have zdc3 := has_cell zd 3 rfl; have zdc4 := has_cell zd 4 rfl
            have zdlt := has_lt zd
            have zfc0 := has_cell zf 0 rfl; have zfc1 := has_cell zf 1 rfl; have zfc2 := has_cell zf 2 rfl; have zfc3 := has_cell zf 3 rfl
            have zflt := has_lt zf
            have zsc0 := has_cell zs 0 rfl; have zsc1 := has_cell zs 1 rfl; have zsc2 := has_cell zs 2 rfl; have zsc3 := has_cell zs 3 rfl
            have zslt := has_lt zs
            have zyc0 := has_cell zy 0 rfl; have zyc1 := has_cell zy 1 rfl; have zyc2 := has_cell zy 2 rfl; have zyc3 := has_cell zy 3 rfl; have zyc4 := has_cell zy 4 rfl
            have zylt := has_lt zy
            have ZDH := Lib.hid zd; clear zd
            have ZFH := Lib.hid zf; clear zf
            have ZSH := Lib.hid zs; clear zs
            have ZYH := Lib.hid zy; clear zy
            have ZB := Lib.hid zb; clear zb
            go_wp2_with fail
            clear zdc0 zdc1 zdc2 zdc3 zdc4 zdlt zfc0 zfc1 zfc2 zfc3 zflt zsc0 zsc1 zsc2 zsc3 zslt zyc0 zyc1 zyc2 zyc3 zyc4 zylt
            have zd := ZDH.out; clear ZDH
            have zf := ZFH.out; clear ZFH
            have zs := ZSH.out; clear ZSH
            have zy := ZYH.out; clear ZYH
            have zb := ZB.out; clear ZB
            refine (cntI_any _ a b c d).mono ?_
            rintro e w46 ⟨rfl, hb⟩
            rw [HCN.out]
            have hsw46 := hb.size
            replace zd := has_call zd hb
            replace zf := has_call zf hb
            replace zs := has_call zs hb
            replace zy := has_call zy hb
            replace zb := bthen zb hb; clear hb
            have zdc0 := has_cell zd 0 rfl; have zdc1 := has_cell zd 1 rfl; have zdc2 := has_cell zd 2 rfl; have zdc3 := has_cell zd 3 rfl; have zdc4 := has_cell zd 4 rfl
            have zdlt := has_lt zd
            have zfc0 := has_cell zf 0 rfl; have zfc1 := has_cell zf 1 rfl; have zfc2 := has_cell zf 2 rfl; have zfc3 := has_cell zf 3 rfl
            have zflt := has_lt zf
            have zsc0 := has_cell zs 0 rfl; have zsc1 := has_cell zs 1 rfl; have zsc2 := has_cell zs 2 rfl; have zsc3 := has_cell zs 3 rfl
            have zslt := has_lt zs
            have zyc0 := has_cell zy 0 rfl; have zyc1 := has_cell zy 1 rfl; have zyc2 := has_cell zy 2 rfl; have zyc3 := has_cell zy 3 rfl; have zyc4 := has_cell zy 4 rfl
            have zylt := has_lt zy
            have ZDH := Lib.hid zd; clear zd
            have ZFH := Lib.hid zf; clear zf
            have ZSH := Lib.hid zs; clear zs
            have ZYH := Lib.hid zy; clear zy
            have ZB := Lib.hid zb; clear zb
            go_wp2_with fail
            clear zdc0 zdc1 zdc2 zdc3 zdc4 zdlt zfc0 zfc1 zfc2 zfc3 zflt zsc0 zsc1 zsc2 zsc3 zslt zyc0 zyc1 zyc2 zyc3 zyc4 zylt
            have zd := ZDH.out; clear ZDH
            have zf := ZFH.out; clear ZFH
            have zs := ZSH.out; clear ZSH
            have zy := ZYH.out; clear ZYH
            have zb := ZB.out; clear ZB
            refine (doorI_any _ 2 0 l o f).mono ?_
            rintro e w47 ⟨rfl, hb⟩
            rw [HOK2.out]
            have hsw47 := hb.size
            replace zd := has_call zd hb
            replace zf := has_call zf hb
            replace zs := has_call zs hb
            replace zy := has_call zy hb
            replace zb := bthen zb hb; clear hb
            have zdc0 := has_cell zd 0 rfl; have zdc1 := has_cell zd 1 rfl; have zdc2 := has_cell zd 2 rfl; have zdc3 := has_cell zd 3 rfl; have zdc4 := has_cell zd 4 rfl
            have zdlt := has_lt zd
            have zfc0 := has_cell zf 0 rfl; have zfc1 := has_cell zf 1 rfl; have zfc2 := has_cell zf 2 rfl; have zfc3 := has_cell zf 3 rfl
            have zflt := has_lt zf
            have zsc0 := has_cell zs 0 rfl; have zsc1 := has_cell zs 1 rfl; have zsc2 := has_cell zs 2 rfl; have zsc3 := has_cell zs 3 rfl
            have zslt := has_lt zs
            have zyc0 := has_cell zy 0 rfl; have zyc1 := has_cell zy 1 rfl; have zyc2 := has_cell zy 2 rfl; have zyc3 := has_cell zy 3 rfl; have zyc4 := has_cell zy 4 rfl
            have zylt := has_lt zy
            have ZDH := Lib.hid zd; clear zd
            have ZFH := Lib.hid zf; clear zf
            have ZSH := Lib.hid zs; clear zs
            have ZYH := Lib.hid zy; clear zy
            have ZB := Lib.hid zb; clear zb
            go_wp2_with fail
            clear zdc0 zdc1 zdc2 zdc3 zdc4 zdlt zfc0 zfc1 zfc2 zfc3 zflt zsc0 zsc1 zsc2 zsc3 zslt zyc0 zyc1 zyc2 zyc3 zyc4 zylt
            have zd := ZDH.out; clear ZDH
            have zf := ZFH.out; clear ZFH
            have zs := ZSH.out; clear ZSH
            have zy := ZYH.out; clear ZYH
            have zb := ZB.out; clear ZB
            go_roundw
            case rel => with_reducible exact ⟨n + 1, by omega, by go_num, zd, zb⟩
            case measure => simp [intOf] <;> omega
          · skip
            have zdc0 := has_cell zd 0 rfl; have zdc1 := has_cell zd 1 rfl; have zdc2 := has_cell zd 2 rfl; have zdc3 := has_cell zd 3 rfl; have zdc4 := has_cell zd 4 rfl
            have zdlt := has_lt zd
            have zfc0 := has_cell zf 0 rfl; have zfc1 := has_cell zf 1 rfl; have zfc2 := has_cell zf 2 rfl; have zfc3 := has_cell zf 3 rfl
            have zflt := has_lt zf
            have ZDH := Lib.hid zd; clear zd
            have ZFH := Lib.hid zf; clear zf
            have ZB := Lib.hid zb; clear zb
            go_step
            go_wp2_with fail
            clear zdc0 zdc1 zdc2 zdc3 zdc4 zdlt zfc0 zfc1 zfc2 zfc3 zflt
            have zd := ZDH.out; clear ZDH
            have zf := ZFH.out; clear ZFH
            have zb := ZB.out; clear ZB
            refine (signsI_any _ 2 0 l o f a b c d).mono ?_
            rintro e w41 ⟨rfl, hb⟩
            rw [HSG.out]
            have hsw41 := hb.size
            replace zd := has_call zd hb
            replace zf := has_call zf hb
            replace zb := bthen zb hb; clear hb
            have zdc0 := has_cell zd 0 rfl; have zdc1 := has_cell zd 1 rfl; have zdc2 := has_cell zd 2 rfl; have zdc3 := has_cell zd 3 rfl; have zdc4 := has_cell zd 4 rfl
            have zdlt := has_lt zd
            have zfc0 := has_cell zf 0 rfl; have zfc1 := has_cell zf 1 rfl; have zfc2 := has_cell zf 2 rfl; have zfc3 := has_cell zf 3 rfl
            have zflt := has_lt zf
            have ZDH := Lib.hid zd; clear zd
            have ZFH := Lib.hid zf; clear zf
            have ZB := Lib.hid zb; clear zb
            go_wp2_with fail
            clear zdc0 zdc1 zdc2 zdc3 zdc4 zdlt zfc0 zfc1 zfc2 zfc3 zflt
            have zd := ZDH.out; clear ZDH
            have zf := ZFH.out; clear ZFH
            have zb := ZB.out; clear ZB
            generalize hX : (w41.alloc (.cells #[.bool g1, .bool g2, .bool g3, .bool g4] 41)) = w42
            have hb : Below w41.heap.size w41 w42 := by rw [← hX]; exact balloc _ _
            have hk : Has w42 w41.heap.size 41 #[.bool g1, .bool g2, .bool g3, .bool g4] := by rw [← hX]; exact has_new _ _ _
            clear hX
            have hsw42 := hb.size
            replace zd := has_call zd hb
            replace zf := has_call zf hb
            replace zb := bthen zb hb; clear hb
            have zs := hk; clear hk; have hlzs := has_lt zs
            refine (recI_any _ 2 0 l o f a b c d).mono ?_
            rintro e w43 ⟨rfl, hb⟩
            rw [HRE.out]
            have hsw43 := hb.size
            replace zd := has_call zd hb
            replace zf := has_call zf hb
            replace zs := has_call zs hb
            replace zb := bthen zb hb; clear hb
            have zdc0 := has_cell zd 0 rfl; have zdc1 := has_cell zd 1 rfl; have zdc2 := has_cell zd 2 rfl; have zdc3 := has_cell zd 3 rfl; have zdc4 := has_cell zd 4 rfl
            have zdlt := has_lt zd
            have zfc0 := has_cell zf 0 rfl; have zfc1 := has_cell zf 1 rfl; have zfc2 := has_cell zf 2 rfl; have zfc3 := has_cell zf 3 rfl
            have zflt := has_lt zf
            have zsc0 := has_cell zs 0 rfl; have zsc1 := has_cell zs 1 rfl; have zsc2 := has_cell zs 2 rfl; have zsc3 := has_cell zs 3 rfl
            have zslt := has_lt zs
            have ZDH := Lib.hid zd; clear zd
            have ZFH := Lib.hid zf; clear zf
            have ZSH := Lib.hid zs; clear zs
            have ZB := Lib.hid zb; clear zb
            go_wp2_with fail
            clear zdc0 zdc1 zdc2 zdc3 zdc4 zdlt zfc0 zfc1 zfc2 zfc3 zflt zsc0 zsc1 zsc2 zsc3 zslt
            have zd := ZDH.out; clear ZDH
            have zf := ZFH.out; clear ZFH
            have zs := ZSH.out; clear ZSH
            have zb := ZB.out; clear ZB
            generalize hX : (w43.alloc (.cells #[.int .i64 2, .int .i64 0, .bool l, .bool o, .bool f] 27)) = w44
            have hb : Below w43.heap.size w43 w44 := by rw [← hX]; exact balloc _ _
            have hk : Has w44 w43.heap.size 27 #[.int .i64 2, .int .i64 0, .bool l, .bool o, .bool f] := by rw [← hX]; exact has_new _ _ _
            clear hX
            have hsw44 := hb.size
            replace zd := has_call zd hb
            replace zf := has_call zf hb
            replace zs := has_call zs hb
            replace zb := bthen zb hb; clear hb
            have zy := hk; clear hk; have hlzy := has_lt zy
            refine (verdI_any _ 2 g1 g2 g3 g4).mono ?_
            rintro e w45 ⟨rfl, hb⟩
            rw [HVB.out]
            have hsw45 := hb.size
            replace zd := has_call zd hb
            replace zf := has_call zf hb
            replace zs := has_call zs hb
            replace zy := has_call zy hb
            replace zb := bthen zb hb; clear hb
            have zdc0 := has_cell zd 0 rfl; have zdc1 := has_cell zd 1 rfl; have zdc2 := has_cell zd 2 rfl; have zdc3 := has_cell zd 3 rfl; have zdc4 := has_cell zd 4 rfl
            have zdlt := has_lt zd
            have zfc0 := has_cell zf 0 rfl; have zfc1 := has_cell zf 1 rfl; have zfc2 := has_cell zf 2 rfl; have zfc3 := has_cell zf 3 rfl
            have zflt := has_lt zf
            have zsc0 := has_cell zs 0 rfl; have zsc1 := has_cell zs 1 rfl; have zsc2 := has_cell zs 2 rfl; have zsc3 := has_cell zs 3 rfl
            have zslt := has_lt zs
            have zyc0 := has_cell zy 0 rfl; have zyc1 := has_cell zy 1 rfl; have zyc2 := has_cell zy 2 rfl; have zyc3 := has_cell zy 3 rfl; have zyc4 := has_cell zy 4 rfl
            have zylt := has_lt zy
            have ZDH := Lib.hid zd; clear zd
            have ZFH := Lib.hid zf; clear zf
            have ZSH := Lib.hid zs; clear zs
            have ZYH := Lib.hid zy; clear zy
            have ZB := Lib.hid zb; clear zb
            go_wp2_with fail
            clear zdc0 zdc1 zdc2 zdc3 zdc4 zdlt zfc0 zfc1 zfc2 zfc3 zflt zsc0 zsc1 zsc2 zsc3 zslt zyc0 zyc1 zyc2 zyc3 zyc4 zylt
            have zd := ZDH.out; clear ZDH
            have zf := ZFH.out; clear ZFH
            have zs := ZSH.out; clear ZSH
            have zy := ZYH.out; clear ZYH
            have zb := ZB.out; clear ZB
            refine (cntI_any _ a b c d).mono ?_
            rintro e w46 ⟨rfl, hb⟩
            rw [HCN.out]
            have hsw46 := hb.size
            replace zd := has_call zd hb
            replace zf := has_call zf hb
            replace zs := has_call zs hb
            replace zy := has_call zy hb
            replace zb := bthen zb hb; clear hb
            have zdc0 := has_cell zd 0 rfl; have zdc1 := has_cell zd 1 rfl; have zdc2 := has_cell zd 2 rfl; have zdc3 := has_cell zd 3 rfl; have zdc4 := has_cell zd 4 rfl
            have zdlt := has_lt zd
            have zfc0 := has_cell zf 0 rfl; have zfc1 := has_cell zf 1 rfl; have zfc2 := has_cell zf 2 rfl; have zfc3 := has_cell zf 3 rfl
            have zflt := has_lt zf
            have zsc0 := has_cell zs 0 rfl; have zsc1 := has_cell zs 1 rfl; have zsc2 := has_cell zs 2 rfl; have zsc3 := has_cell zs 3 rfl
            have zslt := has_lt zs
            have zyc0 := has_cell zy 0 rfl; have zyc1 := has_cell zy 1 rfl; have zyc2 := has_cell zy 2 rfl; have zyc3 := has_cell zy 3 rfl; have zyc4 := has_cell zy 4 rfl
            have zylt := has_lt zy
            have ZDH := Lib.hid zd; clear zd
            have ZFH := Lib.hid zf; clear zf
            have ZSH := Lib.hid zs; clear zs
            have ZYH := Lib.hid zy; clear zy
            have ZB := Lib.hid zb; clear zb
            go_wp2_with fail
            clear zdc0 zdc1 zdc2 zdc3 zdc4 zdlt zfc0 zfc1 zfc2 zfc3 zflt zsc0 zsc1 zsc2 zsc3 zslt zyc0 zyc1 zyc2 zyc3 zyc4 zylt
            have zd := ZDH.out; clear ZDH
            have zf := ZFH.out; clear ZFH
            have zs := ZSH.out; clear ZSH
            have zy := ZYH.out; clear ZYH
            have zb := ZB.out; clear ZB
            refine (doorI_any _ 2 0 l o f).mono ?_
            rintro e w47 ⟨rfl, hb⟩
            rw [HOK2.out]
            have hsw47 := hb.size
            replace zd := has_call zd hb
            replace zf := has_call zf hb
            replace zs := has_call zs hb
            replace zy := has_call zy hb
            replace zb := bthen zb hb; clear hb
            have zdc0 := has_cell zd 0 rfl; have zdc1 := has_cell zd 1 rfl; have zdc2 := has_cell zd 2 rfl; have zdc3 := has_cell zd 3 rfl; have zdc4 := has_cell zd 4 rfl
            have zdlt := has_lt zd
            have zfc0 := has_cell zf 0 rfl; have zfc1 := has_cell zf 1 rfl; have zfc2 := has_cell zf 2 rfl; have zfc3 := has_cell zf 3 rfl
            have zflt := has_lt zf
            have zsc0 := has_cell zs 0 rfl; have zsc1 := has_cell zs 1 rfl; have zsc2 := has_cell zs 2 rfl; have zsc3 := has_cell zs 3 rfl
            have zslt := has_lt zs
            have zyc0 := has_cell zy 0 rfl; have zyc1 := has_cell zy 1 rfl; have zyc2 := has_cell zy 2 rfl; have zyc3 := has_cell zy 3 rfl; have zyc4 := has_cell zy 4 rfl
            have zylt := has_lt zy
            have ZDH := Lib.hid zd; clear zd
            have ZFH := Lib.hid zf; clear zf
            have ZSH := Lib.hid zs; clear zs
            have ZYH := Lib.hid zy; clear zy
            have ZB := Lib.hid zb; clear zb
            go_wp2_with fail
            clear zdc0 zdc1 zdc2 zdc3 zdc4 zdlt zfc0 zfc1 zfc2 zfc3 zflt zsc0 zsc1 zsc2 zsc3 zslt zyc0 zyc1 zyc2 zyc3 zyc4 zylt
            have zd := ZDH.out; clear ZDH
            have zf := ZFH.out; clear ZFH
            have zs := ZSH.out; clear ZSH
            have zy := ZYH.out; clear ZYH
            have zb := ZB.out; clear ZB
            go_roundw
            case rel => with_reducible exact ⟨n + 1, by omega, by go_num, zd, zb⟩
            case measure => simp [intOf] <;> omega
          · skip
            have zdc0 := has_cell zd 0 rfl; have zdc1 := has_cell zd 1 rfl; have zdc2 := has_cell zd 2 rfl; have zdc3 := has_cell zd 3 rfl; have zdc4 := has_cell zd 4 rfl
            have zdlt := has_lt zd
            have zfc0 := has_cell zf 0 rfl; have zfc1 := has_cell zf 1 rfl; have zfc2 := has_cell zf 2 rfl; have zfc3 := has_cell zf 3 rfl
            have zflt := has_lt zf
            have ZDH := Lib.hid zd; clear zd
            have ZFH := Lib.hid zf; clear zf
            have ZB := Lib.hid zb; clear zb
            go_step
            go_wp2_with fail
            clear zdc0 zdc1 zdc2 zdc3 zdc4 zdlt zfc0 zfc1 zfc2 zfc3 zflt
            have zd := ZDH.out; clear ZDH
            have zf := ZFH.out; clear ZFH
            have zb := ZB.out; clear ZB
            refine (signsI_any _ 2 0 l o f a b c d).mono ?_
            rintro e w41 ⟨rfl, hb⟩
            rw [HSG.out]
            have hsw41 := hb.size
            replace zd := has_call zd hb
            replace zf := has_call zf hb
            replace zb := bthen zb hb; clear hb
            have zdc0 := has_cell zd 0 rfl; have zdc1 := has_cell zd 1 rfl; have zdc2 := has_cell zd 2 rfl; have zdc3 := has_cell zd 3 rfl; have zdc4 := has_cell zd 4 rfl
            have zdlt := has_lt zd
            have zfc0 := has_cell zf 0 rfl; have zfc1 := has_cell zf 1 rfl; have zfc2 := has_cell zf 2 rfl; have zfc3 := has_cell zf 3 rfl
            have zflt := has_lt zf
            have ZDH := Lib.hid zd; clear zd
            have ZFH := Lib.hid zf; clear zf
            have ZB := Lib.hid zb; clear zb
            go_wp2_with fail
            clear zdc0 zdc1 zdc2 zdc3 zdc4 zdlt zfc0 zfc1 zfc2 zfc3 zflt
            have zd := ZDH.out; clear ZDH
            have zf := ZFH.out; clear ZFH
            have zb := ZB.out; clear ZB
            generalize hX : (w41.alloc (.cells #[.bool g1, .bool g2, .bool g3, .bool g4] 41)) = w42
            have hb : Below w41.heap.size w41 w42 := by rw [← hX]; exact balloc _ _
            have hk : Has w42 w41.heap.size 41 #[.bool g1, .bool g2, .bool g3, .bool g4] := by rw [← hX]; exact has_new _ _ _
            clear hX
            have hsw42 := hb.size
            replace zd := has_call zd hb
            replace zf := has_call zf hb
            replace zb := bthen zb hb; clear hb
            have zs := hk; clear hk; have hlzs := has_lt zs
            refine (recI_any _ 2 0 l o f a b c d).mono ?_
            rintro e w43 ⟨rfl, hb⟩
            rw [HRE.out]
            have hsw43 := hb.size
            replace zd := has_call zd hb
            replace zf := has_call zf hb
            replace zs := has_call zs hb
            replace zb := bthen zb hb; clear hb
            have zdc0 := has_cell zd 0 rfl; have zdc1 := has_cell zd 1 rfl; have zdc2 := has_cell zd 2 rfl; have zdc3 := has_cell zd 3 rfl; have zdc4 := has_cell zd 4 rfl
            have zdlt := has_lt zd
            have zfc0 := has_cell zf 0 rfl; have zfc1 := has_cell zf 1 rfl; have zfc2 := has_cell zf 2 rfl; have zfc3 := has_cell zf 3 rfl
            have zflt := has_lt zf
            have zsc0 := has_cell zs 0 rfl; have zsc1 := has_cell zs 1 rfl; have zsc2 := has_cell zs 2 rfl; have zsc3 := has_cell zs 3 rfl
            have zslt := has_lt zs
            have ZDH := Lib.hid zd; clear zd
            have ZFH := Lib.hid zf; clear zf
            have ZSH := Lib.hid zs; clear zs
            have ZB := Lib.hid zb; clear zb
            go_wp2_with fail
            clear zdc0 zdc1 zdc2 zdc3 zdc4 zdlt zfc0 zfc1 zfc2 zfc3 zflt zsc0 zsc1 zsc2 zsc3 zslt
            have zd := ZDH.out; clear ZDH
            have zf := ZFH.out; clear ZFH
            have zs := ZSH.out; clear ZSH
            have zb := ZB.out; clear ZB
            generalize hX : (w43.alloc (.cells #[.int .i64 0, .int .i64 0, .bool false, .bool false, .bool f] 27)) = w44
            have hb : Below w43.heap.size w43 w44 := by rw [← hX]; exact balloc _ _
            have hk : Has w44 w43.heap.size 27 #[.int .i64 0, .int .i64 0, .bool false, .bool false, .bool f] := by rw [← hX]; exact has_new _ _ _
            clear hX
            have hsw44 := hb.size
            replace zd := has_call zd hb
            replace zf := has_call zf hb
            replace zs := has_call zs hb
            replace zb := bthen zb hb; clear hb
            have zy := hk; clear hk; have hlzy := has_lt zy
            refine (verdI_any _ 2 g1 g2 g3 g4).mono ?_
            rintro e w45 ⟨rfl, hb⟩
            rw [HVB.out]
            have hsw45 := hb.size
            replace zd := has_call zd hb
            replace zf := has_call zf hb
            replace zs := has_call zs hb
            replace zy := has_call zy hb
            replace zb := bthen zb hb; clear hb
            have zdc0 := has_cell zd 0 rfl; have zdc1 := has_cell zd 1 rfl; have zdc2 := has_cell zd 2 rfl; have zdc3 := has_cell zd 3 rfl; have zdc4 := has_cell zd 4 rfl
            have zdlt := has_lt zd
            have zfc0 := has_cell zf 0 rfl; have zfc1 := has_cell zf 1 rfl; have zfc2 := has_cell zf 2 rfl; have zfc3 := has_cell zf 3 rfl
            have zflt := has_lt zf
            have zsc0 := has_cell zs 0 rfl; have zsc1 := has_cell zs 1 rfl; have zsc2 := has_cell zs 2 rfl; have zsc3 := has_cell zs 3 rfl
            have zslt := has_lt zs
            have zyc0 := has_cell zy 0 rfl; have zyc1 := has_cell zy 1 rfl; have zyc2 := has_cell zy 2 rfl; have zyc3 := has_cell zy 3 rfl; have zyc4 := has_cell zy 4 rfl
            have zylt := has_lt zy
            have ZDH := Lib.hid zd; clear zd
            have ZFH := Lib.hid zf; clear zf
            have ZSH := Lib.hid zs; clear zs
            have ZYH := Lib.hid zy; clear zy
            have ZB := Lib.hid zb; clear zb
            go_wp2_with fail
            clear zdc0 zdc1 zdc2 zdc3 zdc4 zdlt zfc0 zfc1 zfc2 zfc3 zflt zsc0 zsc1 zsc2 zsc3 zslt zyc0 zyc1 zyc2 zyc3 zyc4 zylt
            have zd := ZDH.out; clear ZDH
            have zf := ZFH.out; clear ZFH
            have zs := ZSH.out; clear ZSH
            have zy := ZYH.out; clear ZYH
            have zb := ZB.out; clear ZB
            refine (cntI_any _ a b c d).mono ?_
            rintro e w46 ⟨rfl, hb⟩
            rw [HCN.out]
            have hsw46 := hb.size
            replace zd := has_call zd hb
            replace zf := has_call zf hb
            replace zs := has_call zs hb
            replace zy := has_call zy hb
            replace zb := bthen zb hb; clear hb
            have zdc0 := has_cell zd 0 rfl; have zdc1 := has_cell zd 1 rfl; have zdc2 := has_cell zd 2 rfl; have zdc3 := has_cell zd 3 rfl; have zdc4 := has_cell zd 4 rfl
            have zdlt := has_lt zd
            have zfc0 := has_cell zf 0 rfl; have zfc1 := has_cell zf 1 rfl; have zfc2 := has_cell zf 2 rfl; have zfc3 := has_cell zf 3 rfl
            have zflt := has_lt zf
            have zsc0 := has_cell zs 0 rfl; have zsc1 := has_cell zs 1 rfl; have zsc2 := has_cell zs 2 rfl; have zsc3 := has_cell zs 3 rfl
            have zslt := has_lt zs
            have zyc0 := has_cell zy 0 rfl; have zyc1 := has_cell zy 1 rfl; have zyc2 := has_cell zy 2 rfl; have zyc3 := has_cell zy 3 rfl; have zyc4 := has_cell zy 4 rfl
            have zylt := has_lt zy
            have ZDH := Lib.hid zd; clear zd
            have ZFH := Lib.hid zf; clear zf
            have ZSH := Lib.hid zs; clear zs
            have ZYH := Lib.hid zy; clear zy
            have ZB := Lib.hid zb; clear zb
            go_wp2_with fail
            clear zdc0 zdc1 zdc2 zdc3 zdc4 zdlt zfc0 zfc1 zfc2 zfc3 zflt zsc0 zsc1 zsc2 zsc3 zslt zyc0 zyc1 zyc2 zyc3 zyc4 zylt
            have zd := ZDH.out; clear ZDH
            have zf := ZFH.out; clear ZFH
            have zs := ZSH.out; clear ZSH
            have zy := ZYH.out; clear ZYH
            have zb := ZB.out; clear ZB
            refine (doorI_any _ 0 0 false false f).mono ?_
            rintro e w47 ⟨rfl, hb⟩
            rw [HOK2.out]
            have hsw47 := hb.size
            replace zd := has_call zd hb
            replace zf := has_call zf hb
            replace zs := has_call zs hb
            replace zy := has_call zy hb
            replace zb := bthen zb hb; clear hb
            have zdc0 := has_cell zd 0 rfl; have zdc1 := has_cell zd 1 rfl; have zdc2 := has_cell zd 2 rfl; have zdc3 := has_cell zd 3 rfl; have zdc4 := has_cell zd 4 rfl
            have zdlt := has_lt zd
            have zfc0 := has_cell zf 0 rfl; have zfc1 := has_cell zf 1 rfl; have zfc2 := has_cell zf 2 rfl; have zfc3 := has_cell zf 3 rfl
            have zflt := has_lt zf
            have zsc0 := has_cell zs 0 rfl; have zsc1 := has_cell zs 1 rfl; have zsc2 := has_cell zs 2 rfl; have zsc3 := has_cell zs 3 rfl
            have zslt := has_lt zs
            have zyc0 := has_cell zy 0 rfl; have zyc1 := has_cell zy 1 rfl; have zyc2 := has_cell zy 2 rfl; have zyc3 := has_cell zy 3 rfl; have zyc4 := has_cell zy 4 rfl
            have zylt := has_lt zy
            have ZDH := Lib.hid zd; clear zd
            have ZFH := Lib.hid zf; clear zf
            have ZSH := Lib.hid zs; clear zs
            have ZYH := Lib.hid zy; clear zy
            have ZB := Lib.hid zb; clear zb
            go_wp2_with fail
            clear zdc0 zdc1 zdc2 zdc3 zdc4 zdlt zfc0 zfc1 zfc2 zfc3 zflt zsc0 zsc1 zsc2 zsc3 zslt zyc0 zyc1 zyc2 zyc3 zyc4 zylt
            have zd := ZDH.out; clear ZDH
            have zf := ZFH.out; clear ZFH
            have zs := ZSH.out; clear ZSH
            have zy := ZYH.out; clear ZYH
            have zb := ZB.out; clear ZB
            go_roundw
            case rel => with_reducible exact ⟨n + 1, by omega, by go_num, zd, zb⟩
            case measure => simp [intOf] <;> omega
          · skip
            have zdc0 := has_cell zd 0 rfl; have zdc1 := has_cell zd 1 rfl; have zdc2 := has_cell zd 2 rfl; have zdc3 := has_cell zd 3 rfl; have zdc4 := has_cell zd 4 rfl
            have zdlt := has_lt zd
            have zfc0 := has_cell zf 0 rfl; have zfc1 := has_cell zf 1 rfl; have zfc2 := has_cell zf 2 rfl; have zfc3 := has_cell zf 3 rfl
            have zflt := has_lt zf
            have ZDH := Lib.hid zd; clear zd
            have ZFH := Lib.hid zf; clear zf
            have ZB := Lib.hid zb; clear zb
            go_step
            go_wp2_with fail
            clear zdc0 zdc1 zdc2 zdc3 zdc4 zdlt zfc0 zfc1 zfc2 zfc3 zflt
            have zd := ZDH.out; clear ZDH
            have zf := ZFH.out; clear ZFH
            have zb := ZB.out; clear ZB
            refine (signsI_any _ 2 0 l o f a b c d).mono ?_
            rintro e w41 ⟨rfl, hb⟩
            rw [HSG.out]
            have hsw41 := hb.size
            replace zd := has_call zd hb
            replace zf := has_call zf hb
            replace zb := bthen zb hb; clear hb
            have zdc0 := has_cell zd 0 rfl; have zdc1 := has_cell zd 1 rfl; have zdc2 := has_cell zd 2 rfl; have zdc3 := has_cell zd 3 rfl; have zdc4 := has_cell zd 4 rfl
            have zdlt := has_lt zd
            have zfc0 := has_cell zf 0 rfl; have zfc1 := has_cell zf 1 rfl; have zfc2 := has_cell zf 2 rfl; have zfc3 := has_cell zf 3 rfl
            have zflt := has_lt zf
            have ZDH := Lib.hid zd; clear zd
            have ZFH := Lib.hid zf; clear zf
            have ZB := Lib.hid zb; clear zb
            go_wp2_with fail
            clear zdc0 zdc1 zdc2 zdc3 zdc4 zdlt zfc0 zfc1 zfc2 zfc3 zflt
            have zd := ZDH.out; clear ZDH
            have zf := ZFH.out; clear ZFH
            have zb := ZB.out; clear ZB
            generalize hX : (w41.alloc (.cells #[.bool g1, .bool g2, .bool g3, .bool g4] 41)) = w42
            have hb : Below w41.heap.size w41 w42 := by rw [← hX]; exact balloc _ _
            have hk : Has w42 w41.heap.size 41 #[.bool g1, .bool g2, .bool g3, .bool g4] := by rw [← hX]; exact has_new _ _ _
            clear hX
            have hsw42 := hb.size
            replace zd := has_call zd hb
            replace zf := has_call zf hb
            replace zb := bthen zb hb; clear hb
            have zs := hk; clear hk; have hlzs := has_lt zs
            refine (recI_any _ 2 0 l o f a b c d).mono ?_
            rintro e w43 ⟨rfl, hb⟩
            rw [HRE.out]
            have hsw43 := hb.size
            replace zd := has_call zd hb
            replace zf := has_call zf hb
            replace zs := has_call zs hb
            replace zb := bthen zb hb; clear hb
            have zdc0 := has_cell zd 0 rfl; have zdc1 := has_cell zd 1 rfl; have zdc2 := has_cell zd 2 rfl; have zdc3 := has_cell zd 3 rfl; have zdc4 := has_cell zd 4 rfl
            have zdlt := has_lt zd
            have zfc0 := has_cell zf 0 rfl; have zfc1 := has_cell zf 1 rfl; have zfc2 := has_cell zf 2 rfl; have zfc3 := has_cell zf 3 rfl
            have zflt := has_lt zf
            have zsc0 := has_cell zs 0 rfl; have zsc1 := has_cell zs 1 rfl; have zsc2 := has_cell zs 2 rfl; have zsc3 := has_cell zs 3 rfl
            have zslt := has_lt zs
            have ZDH := Lib.hid zd; clear zd
            have ZFH := Lib.hid zf; clear zf
            have ZSH := Lib.hid zs; clear zs
            have ZB := Lib.hid zb; clear zb
            go_wp2_with fail
            clear zdc0 zdc1 zdc2 zdc3 zdc4 zdlt zfc0 zfc1 zfc2 zfc3 zflt zsc0 zsc1 zsc2 zsc3 zslt
            have zd := ZDH.out; clear ZDH
            have zf := ZFH.out; clear ZFH
            have zs := ZSH.out; clear ZSH
            have zb := ZB.out; clear ZB
            generalize hX : (w43.alloc (.cells #[.int .i64 0, .int .i64 0, .bool false, .bool false, .bool f] 27)) = w44
            have hb : Below w43.heap.size w43 w44 := by rw [← hX]; exact balloc _ _
            have hk : Has w44 w43.heap.size 27 #[.int .i64 0, .int .i64 0, .bool false, .bool false, .bool f] := by rw [← hX]; exact has_new _ _ _
            clear hX
            have hsw44 := hb.size
            replace zd := has_call zd hb
            replace zf := has_call zf hb
            replace zs := has_call zs hb
            replace zb := bthen zb hb; clear hb
            have zy := hk; clear hk; have hlzy := has_lt zy
            refine (verdI_any _ 2 g1 g2 g3 g4).mono ?_
            rintro e w45 ⟨rfl, hb⟩
            rw [HVB.out]
            have hsw45 := hb.size
            replace zd := has_call zd hb
            replace zf := has_call zf hb
            replace zs := has_call zs hb
            replace zy := has_call zy hb
            replace zb := bthen zb hb; clear hb
            have zdc0 := has_cell zd 0 rfl; have zdc1 := has_cell zd 1 rfl; have zdc2 := has_cell zd 2 rfl; have zdc3 := has_cell zd 3 rfl; have zdc4 := has_cell zd 4 rfl
            have zdlt := has_lt zd
            have zfc0 := has_cell zf 0 rfl; have zfc1 := has_cell zf 1 rfl; have zfc2 := has_cell zf 2 rfl; have zfc3 := has_cell zf 3 rfl
            have zflt := has_lt zf
            have zsc0 := has_cell zs 0 rfl; have zsc1 := has_cell zs 1 rfl; have zsc2 := has_cell zs 2 rfl; have zsc3 := has_cell zs 3 rfl
            have zslt := has_lt zs
            have zyc0 := has_cell zy 0 rfl; have zyc1 := has_cell zy 1 rfl; have zyc2 := has_cell zy 2 rfl; have zyc3 := has_cell zy 3 rfl; have zyc4 := has_cell zy 4 rfl
            have zylt := has_lt zy
            have ZDH := Lib.hid zd; clear zd
            have ZFH := Lib.hid zf; clear zf
            have ZSH := Lib.hid zs; clear zs
            have ZYH := Lib.hid zy; clear zy
            have ZB := Lib.hid zb; clear zb
            go_wp2_with fail
            clear zdc0 zdc1 zdc2 zdc3 zdc4 zdlt zfc0 zfc1 zfc2 zfc3 zflt zsc0 zsc1 zsc2 zsc3 zslt zyc0 zyc1 zyc2 zyc3 zyc4 zylt
            have zd := ZDH.out; clear ZDH
            have zf := ZFH.out; clear ZFH
            have zs := ZSH.out; clear ZSH
            have zy := ZYH.out; clear ZYH
            have zb := ZB.out; clear ZB
            refine (cntI_any _ a b c d).mono ?_
            rintro e w46 ⟨rfl, hb⟩
            rw [HCN.out]
            have hsw46 := hb.size
            replace zd := has_call zd hb
            replace zf := has_call zf hb
            replace zs := has_call zs hb
            replace zy := has_call zy hb
            replace zb := bthen zb hb; clear hb
            have zdc0 := has_cell zd 0 rfl; have zdc1 := has_cell zd 1 rfl; have zdc2 := has_cell zd 2 rfl; have zdc3 := has_cell zd 3 rfl; have zdc4 := has_cell zd 4 rfl
            have zdlt := has_lt zd
            have zfc0 := has_cell zf 0 rfl; have zfc1 := has_cell zf 1 rfl; have zfc2 := has_cell zf 2 rfl; have zfc3 := has_cell zf 3 rfl
            have zflt := has_lt zf
            have zsc0 := has_cell zs 0 rfl; have zsc1 := has_cell zs 1 rfl; have zsc2 := has_cell zs 2 rfl; have zsc3 := has_cell zs 3 rfl
            have zslt := has_lt zs
            have zyc0 := has_cell zy 0 rfl; have zyc1 := has_cell zy 1 rfl; have zyc2 := has_cell zy 2 rfl; have zyc3 := has_cell zy 3 rfl; have zyc4 := has_cell zy 4 rfl
            have zylt := has_lt zy
            have ZDH := Lib.hid zd; clear zd
            have ZFH := Lib.hid zf; clear zf
            have ZSH := Lib.hid zs; clear zs
            have ZYH := Lib.hid zy; clear zy
            have ZB := Lib.hid zb; clear zb
            go_wp2_with fail
            clear zdc0 zdc1 zdc2 zdc3 zdc4 zdlt zfc0 zfc1 zfc2 zfc3 zflt zsc0 zsc1 zsc2 zsc3 zslt zyc0 zyc1 zyc2 zyc3 zyc4 zylt
            have zd := ZDH.out; clear ZDH
            have zf := ZFH.out; clear ZFH
            have zs := ZSH.out; clear ZSH
            have zy := ZYH.out; clear ZYH
            have zb := ZB.out; clear ZB
            refine (doorI_any _ 0 0 false false f).mono ?_
            rintro e w47 ⟨rfl, hb⟩
            rw [HOK2.out]
            have hsw47 := hb.size
            replace zd := has_call zd hb
            replace zf := has_call zf hb
            replace zs := has_call zs hb
            replace zy := has_call zy hb
            replace zb := bthen zb hb; clear hb
            have zdc0 := has_cell zd 0 rfl; have zdc1 := has_cell zd 1 rfl; have zdc2 := has_cell zd 2 rfl; have zdc3 := has_cell zd 3 rfl; have zdc4 := has_cell zd 4 rfl
            have zdlt := has_lt zd
            have zfc0 := has_cell zf 0 rfl; have zfc1 := has_cell zf 1 rfl; have zfc2 := has_cell zf 2 rfl; have zfc3 := has_cell zf 3 rfl
            have zflt := has_lt zf
            have zsc0 := has_cell zs 0 rfl; have zsc1 := has_cell zs 1 rfl; have zsc2 := has_cell zs 2 rfl; have zsc3 := has_cell zs 3 rfl
            have zslt := has_lt zs
            have zyc0 := has_cell zy 0 rfl; have zyc1 := has_cell zy 1 rfl; have zyc2 := has_cell zy 2 rfl; have zyc3 := has_cell zy 3 rfl; have zyc4 := has_cell zy 4 rfl
            have zylt := has_lt zy
            have ZDH := Lib.hid zd; clear zd
            have ZFH := Lib.hid zf; clear zf
            have ZSH := Lib.hid zs; clear zs
            have ZYH := Lib.hid zy; clear zy
            have ZB := Lib.hid zb; clear zb
            go_wp2_with fail
            clear zdc0 zdc1 zdc2 zdc3 zdc4 zdlt zfc0 zfc1 zfc2 zfc3 zflt zsc0 zsc1 zsc2 zsc3 zslt zyc0 zyc1 zyc2 zyc3 zyc4 zylt
            have zd := ZDH.out; clear ZDH
            have zf := ZFH.out; clear ZFH
            have zs := ZSH.out; clear ZSH
            have zy := ZYH.out; clear ZYH
            have zb := ZB.out; clear ZB
            go_roundw
            case rel => with_reducible exact ⟨n + 1, by omega, by go_num, zd, zb⟩
            case measure => simp [intOf] <;> omega
      obtain rfl : n = 8 := by omega
      clear hlt hn HR0 HT HT3 HC HCV
      have zdc0 := has_cell zd 0 rfl; have zdc1 := has_cell zd 1 rfl; have zdc2 := has_cell zd 2 rfl; have zdc3 := has_cell zd 3 rfl; have zdc4 := has_cell zd 4 rfl
      have zdlt := has_lt zd
      have ZDH := Lib.hid zd; clear zd
      have ZB := Lib.hid zb; clear zb
      go_wp2_with fail
      clear zdc0 zdc1 zdc2 zdc3 zdc4 zdlt
      have zd := ZDH.out; clear ZDH
      have zb := ZB.out; clear ZB
      have HIN := Lib.hid (show drI (inspD ⟨2, 0, l, o, f⟩) = .tuple #[.agg #[.int .i64 0, .int .i64 0, .bool false, .bool false, .bool f], .int .i64 (outB 2 f), .bool true] by rw [inspD_yes (show isCutD ⟨2, 0, l, o, f⟩ = true by unfold isCutD; rw [show Dr.ok ⟨2, 0, l, o, f⟩ = true by have := HOL.out; revert this; cases l <;> cases o <;> cases f <;> decide]; rfl)]; rfl)
      refine (inspI_any _ 2 0 l o f).mono ?_
      rintro e w48 ⟨rfl, hb⟩
      rw [HIN.out]
      have hsw48 := hb.size
      replace zd := has_call zd hb
      replace zb := bthen zb hb; clear hb
      clear HIN HOK HOL; cases f
      · skip
        rw [show outB 2 false = 3 from by decide]
        have zdc0 := has_cell zd 0 rfl; have zdc1 := has_cell zd 1 rfl; have zdc2 := has_cell zd 2 rfl; have zdc3 := has_cell zd 3 rfl; have zdc4 := has_cell zd 4 rfl
        have zdlt := has_lt zd
        have ZDH := Lib.hid zd; clear zd
        have ZB := Lib.hid zb; clear zb
        go_wp2_with fail
        go_ret
        exact ⟨rfl, Below.alloc ZB.out (by omega) _⟩
      · skip
        rw [show outB 2 true = 4 from by decide]
        have zdc0 := has_cell zd 0 rfl; have zdc1 := has_cell zd 1 rfl; have zdc2 := has_cell zd 2 rfl; have zdc3 := has_cell zd 3 rfl; have zdc4 := has_cell zd 4 rfl
        have zdlt := has_lt zd
        have ZDH := Lib.hid zd; clear zd
        have ZB := Lib.hid zb; clear zb
        go_wp2_with fail
        go_ret
        exact ⟨rfl, Below.alloc ZB.out (by omega) _⟩
end Go.Proofs.Ytfdpnlliaccopaa
