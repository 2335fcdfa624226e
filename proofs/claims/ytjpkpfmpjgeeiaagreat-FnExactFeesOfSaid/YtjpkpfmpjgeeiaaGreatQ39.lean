
/- Chapter 9: small methods of the program's network (gen_npa.py). -/
import Derived.Test.YtjpkpfmpjgeeiaaGreatQ30
import Derived.Test.YtjpkpfmpjgeeiaaGreatQ36
import Derived.BigQuiet
import Derived.Deep.Cut
namespace Go.Proofs.YtjpkpfmpjgeeiaaGreat
open Go.RowKit
set_option linter.unusedVariables false
set_option maxRecDepth 100000
theorem lodN_any (w : World) (x : Int) : Calls Tryz.prog 74 #[.int .i64 x] w fun e w' => e = .returned (.bool (inR x 0 1000)) ∧ w' = w := by
  go_enter Tryz.func74, Tryz.ntmps74
  go_wp2
  all_goals (go_ret; exact ⟨rbool (by simp_all [inR] <;> omega), rfl⟩)
theorem hasP_any (w : World) (g o : Nat) (n : Net) (x : Int) (H : NetIn w g o n) :
    Calls Tryz.prog 118 #[.pointer (some ⟨g, o, none⟩), .int .i64 x] w fun e w' => e = .returned (.bool (inR x 1 n.pc.length)) ∧ w' = w := by
  have nc12 := H.c 12 _ rfl
  have hl := H.lt
  go_enter Tryz.func118, Tryz.ntmps118
  go_wp2
  all_goals (go_ret; exact ⟨rbool (by simp_all [inR] <;> omega), rfl⟩)
theorem hasS_any (w : World) (g o : Nat) (n : Net) (x : Int) (H : NetIn w g o n) :
    Calls Tryz.prog 85 #[.pointer (some ⟨g, o, none⟩), .int .i64 x] w fun e w' => e = .returned (.bool (decide (0 ≤ x) && decide (x < n.st.length))) ∧ w' = w := by
  have nc11 := H.c 11 _ rfl
  have hl := H.lt
  go_enter Tryz.func85, Tryz.ntmps85
  go_wp2
  all_goals (go_ret; exact ⟨rbool (by simp_all <;> omega), rfl⟩)
theorem parN_any (w : World) (g o : Nat) (n : Net) (k b off : Nat) (hk : k < n.pc.length) (hl : n.pc.length ≤ maxLen) (hA : n.AP = some ⟨b, off, none⟩) (H : NetIn w g o n) :
    Calls Tryz.prog 119 #[.pointer (some ⟨g, o, none⟩), .int .i64 ((k : Int) + 1)] w fun e w' => e = .returned (.pointer (some ⟨b, off + k * 13, none⟩)) ∧ w' = w := by
  unfold maxLen at hl
  have nc12 := H.c 12 _ rfl
  rw [hA] at nc12
  have hlt := H.lt
  have h0 : (0 : Int) ≤ (k : Int) := by omega
  have h1 : (k : Int) < (n.pc.length : Int) := by omega
  go_enter Tryz.func119, Tryz.ntmps119
  go_wp2
  go_ret
  exact ⟨rfl, rfl⟩
theorem keptI_any (w : World) (p : Pc) :
    Calls Tryz.prog 90 #[.agg #[.int .i64 p.size, .int .i64 p.owner, .int .i64 p.site, .int .i64 p.stage, .int .i64 p.since, .int .i64 p.ext, .int .i64 p.ls, .int .i64 p.ln, .int .i64 p.lt, .int .i64 p.lp, .int .i64 p.lu, .int .i64 p.who, .int .i64 p.fee]] w fun e w' => e = .returned (.bool (keptB p)) ∧ Below w.heap.size w w' := by
  go_enter Tryz.func90, Tryz.ntmps90
  go_wp2
  all_goals (go_ret; exact ⟨rbool (by simp_all [keptB]), balloc _ _⟩)
set_option maxHeartbeats 1000000 in
theorem unplI_any (w : World) (g o B : Nat) (n : Net) (p : Pc) (H : NetIn w g o n) (hB : B ≤ w.heap.size) (hS : SIL w B n.AS n.st) (hl : n.st.length ≤ maxLen) (hs : p.stage = 2 → 0 ≤ p.site ∧ p.site < n.st.length) :
    Calls Tryz.prog 92 #[.pointer (some ⟨g, o, none⟩), .agg #[.int .i64 p.size, .int .i64 p.owner, .int .i64 p.site, .int .i64 p.stage, .int .i64 p.since, .int .i64 p.ext, .int .i64 p.ls, .int .i64 p.ln, .int .i64 p.lt, .int .i64 p.lp, .int .i64 p.lu, .int .i64 p.who, .int .i64 p.fee]] w fun e w' => e = .returned (.bool (unplB n.st p)) ∧ Below w.heap.size w w' := by
  unfold maxLen at hl
  have HS := Lib.hid hS; have HH := Lib.hid H; clear hS H
  by_cases h2 : p.stage = 2
  · obtain ⟨s0, s1⟩ := hs h2
    obtain ⟨k, hk⟩ := Int.eq_ofNat_of_zero_le s0
    have hkl : k < n.st.length := by omega
    obtain ⟨b, off, y, hA, hbB, hy, c0, c1, c2, c3, c4, c5, c6, c7, c8, c9, c10⟩ := HS.out.at_ hkl
    have hu : unplB n.st p = (y.dk == 1) := by unfold unplB; rw [h2, hk, kindAt_eq hy]; simp
    have HU := Lib.hid hu; clear hu hy hs c0 c1 c2 c4 c5 c6 c7 c8 c9 c10
    obtain ⟨psize, powner, psite, pstage, psince, pext, pls, pln, plt, plp, plu, pwho, pfee⟩ := p
    dsimp only at h2 hk s0 s1 HU ⊢
    subst h2 hk
    generalize hW : w.alloc (.cells #[.int .i64 psize, .int .i64 powner, .int .i64 (k : Int), .int .i64 2, .int .i64 psince, .int .i64 pext, .int .i64 pls, .int .i64 pln, .int .i64 plt, .int .i64 plp, .int .i64 plu, .int .i64 pwho, .int .i64 pfee] 55) = w1
    have hb : Below w.heap.size w w1 := by rw [← hW]; exact balloc _ _
    have hk1 : Has w1 w.heap.size 55 #[.int .i64 psize, .int .i64 powner, .int .i64 (k : Int), .int .i64 2, .int .i64 psince, .int .i64 pext, .int .i64 pls, .int .i64 pln, .int .i64 plt, .int .i64 plp, .int .i64 plu, .int .i64 pwho, .int .i64 pfee] := by rw [← hW]; exact has_new _ _ _
    have HW := Lib.hid hW; clear hW
    have H1 := HH.out.later hb
    have hs1 := hb.size
    have nc11 := H1.c 11 _ rfl
    rw [hA] at nc11
    have n3 : w1.cell? ⟨b, off + k * 11 + 3, none⟩ = some (.int .i64 y.dk) := (hb.cell (p := ⟨b, off + k * 11 + 3, none⟩) (by show b < _; omega)).trans c3
    have q2 := has_cell hk1 2 rfl; have q3 := has_cell hk1 3 rfl; have ql := has_lt hk1; have gl := H1.lt
    have hbw : b < w1.heap.size := by omega
    clear c3 hk1 H1
    go_enter Tryz.func92, Tryz.ntmps92
    go_upto_region 1 with fail
    rw [HW.out]
    go_wp2_with fail
    go_upto_region 6 with fail
    go_quiet (fail)
    go_wp2_with fail
    go_ret
    exact ⟨rbool HU.out.symm, below_drewN hb _⟩
  · have e2 : (p.stage == 2) = false := by simpa using h2
    by_cases h0 : p.stage = 0
    · have e0 : (p.stage == 0) = true := by simpa using h0
      have hu : unplB n.st p = true := by simp [unplB, h0]
      have HU := Lib.hid hu; clear hu hs h2 h0
      go_enter Tryz.func92, Tryz.ntmps92
      go_wp2_with fail
      go_ret
      exact ⟨rbool HU.out.symm, balloc _ _⟩
    · have e0 : (p.stage == 0) = false := by simpa using h0
      by_cases h1 : p.stage = 1
      · have e1 : (p.stage == 1) = true := by simpa using h1
        have hu : unplB n.st p = true := by simp [unplB, h1]
        have HU := Lib.hid hu; clear hu hs h2 h0 h1
        go_enter Tryz.func92, Tryz.ntmps92
        go_wp2_with fail
        go_ret
        exact ⟨rbool HU.out.symm, balloc _ _⟩
      · have e1 : (p.stage == 1) = false := by simpa using h1
        have hu : unplB n.st p = false := by simp [unplB, h0, h1, h2]
        have HU := Lib.hid hu; clear hu hs h2 h0 h1
        go_enter Tryz.func92, Tryz.ntmps92
        go_wp2_with fail
        go_ret
        exact ⟨rbool HU.out.symm, balloc _ _⟩

set_option maxHeartbeats 4000000 in
theorem frameI_any (w : World) (g o B : Nat) (n : Net) (H : NetIn w g o n) (hB : B ≤ w.heap.size) (hV : NetV w B n) :
    Calls Tryz.prog 45 #[.pointer (some ⟨g, o, none⟩)] w fun e w' => e = .returned (.bool (frameB n)) ∧ Below w.heap.size w w' := by
  have HV := Lib.hid hV; have HH := Lib.hid H; clear hV H
  have hl1 := HV.out.l1; have hl2 := HV.out.l2; have hl3 := HV.out.l3; have hl4 := HV.out.l4
  unfold maxLen at hl1 hl2
  have nc0 := HH.out.c 0 _ rfl; have nc1 := HH.out.c 1 _ rfl; have nc2 := HH.out.c 2 _ rfl; have nc3 := HH.out.c 3 _ rfl; have nc4 := HH.out.c 4 _ rfl; have nc5 := HH.out.c 5 _ rfl; have nc6 := HH.out.c 6 _ rfl; have nc7 := HH.out.c 7 _ rfl; have nc8 := HH.out.c 8 _ rfl; have nc9 := HH.out.c 9 _ rfl; have nc10 := HH.out.c 10 _ rfl; have nc11 := HH.out.c 11 _ rfl; have nc12 := HH.out.c 12 _ rfl; have nc13 := HH.out.c 13 _ rfl; have nc14 := HH.out.c 14 _ rfl; rw [Nat.add_zero] at nc0
  have gl := HH.out.lt
  go_enter Tryz.func45, Tryz.ntmps45
  go_wp2_with fail
  refine (termsI_any w n.tm).mono ?_
  rintro e w1 ⟨rfl, hb⟩
  clear nc0 nc1 nc2 nc3 nc4 nc5 nc6 nc7 nc8 nc9 nc10 nc11 nc12 nc13 nc14 gl
  have kk := HH.out.later hb; clear HH; have HH := Lib.hid kk; clear kk
  have HB := Lib.hid hb; have hs1 := hb.size; clear hb
  have nc0 := HH.out.c 0 _ rfl; have nc1 := HH.out.c 1 _ rfl; have nc2 := HH.out.c 2 _ rfl; have nc3 := HH.out.c 3 _ rfl; have nc4 := HH.out.c 4 _ rfl; have nc5 := HH.out.c 5 _ rfl; have nc6 := HH.out.c 6 _ rfl; have nc7 := HH.out.c 7 _ rfl; have nc8 := HH.out.c 8 _ rfl; have nc9 := HH.out.c 9 _ rfl; have nc10 := HH.out.c 10 _ rfl; have nc11 := HH.out.c 11 _ rfl; have nc12 := HH.out.c 12 _ rfl; have nc13 := HH.out.c 13 _ rfl; have nc14 := HH.out.c 14 _ rfl; rw [Nat.add_zero] at nc0
  have gl := HH.out.lt
  cases ht : termsB n.tm
  · go_wp2_with fail
    go_ret
    exact ⟨rbool (by simp [frameB, ht]), HB.out⟩
  go_wp2_with fail
  refine (lodN_any w1 n.room).mono ?_
  rintro e w' ⟨rfl, hw⟩
  rw [hw]; clear hw
  cases h2 : inR n.room 0 1000
  · go_wp2_with fail
    go_ret
    exact ⟨rbool (by simp [frameB, h2]), HB.out⟩
  go_wp2_with fail
  refine (secI_any w1 n.secret).mono ?_
  rintro e w' ⟨rfl, hw⟩
  rw [hw]; clear hw
  cases h3 : secB n.secret
  · go_wp2_with fail
    go_ret
    exact ⟨rbool (by simp [frameB, h3]), HB.out⟩
  go_wp2_with fail
  refine (time3_any w1 n.now).mono ?_
  rintro e w' ⟨rfl, hw⟩
  rw [hw]; clear hw
  cases h4 : inR n.now 0 20000
  · go_wp2_with fail
    go_ret
    exact ⟨rbool (by simp [frameB, h4]), HB.out⟩
  by_cases h5 : n.st.length < 1
  · have h5d : decide (n.st.length < 1) = true := by simpa using h5
    go_wp2_with fail
    go_ret
    exact ⟨rbool (by simp [frameB]; omega), HB.out⟩
  by_cases h6 : 3 < n.st.length
  · go_wp2_with fail
    go_ret
    exact ⟨rbool (by simp [frameB]; omega), HB.out⟩
  by_cases h7 : 12 < n.pc.length
  · go_wp2_with fail
    go_ret
    exact ⟨rbool (by simp [frameB]; omega), HB.out⟩
  go_wp2_with fail
  refine (grantsI_any w1 B n.AG n.cG n.gr hl3 (by omega) (HV.out.later hB HB.out).gl).mono ?_
  rintro e w2 ⟨rfl, hb⟩
  clear nc0 nc1 nc2 nc3 nc4 nc5 nc6 nc7 nc8 nc9 nc10 nc11 nc12 nc13 nc14 gl
  have kk := HH.out.later hb; clear HH; have HH := Lib.hid kk; clear kk
  have kk := bthen HB.out hb; clear HB; have HB := Lib.hid kk; clear kk; have hs2 := hb.size; clear hb
  have nc0 := HH.out.c 0 _ rfl; have nc1 := HH.out.c 1 _ rfl; have nc2 := HH.out.c 2 _ rfl; have nc3 := HH.out.c 3 _ rfl; have nc4 := HH.out.c 4 _ rfl; have nc5 := HH.out.c 5 _ rfl; have nc6 := HH.out.c 6 _ rfl; have nc7 := HH.out.c 7 _ rfl; have nc8 := HH.out.c 8 _ rfl; have nc9 := HH.out.c 9 _ rfl; have nc10 := HH.out.c 10 _ rfl; have nc11 := HH.out.c 11 _ rfl; have nc12 := HH.out.c 12 _ rfl; have nc13 := HH.out.c 13 _ rfl; have nc14 := HH.out.c 14 _ rfl; rw [Nat.add_zero] at nc0
  have gl := HH.out.lt
  cases h8 : grantsB n.gr
  · go_wp2_with fail
    go_ret
    exact ⟨rbool (by simp [frameB, h8]), HB.out⟩
  go_wp2_with fail
  refine (jrnI_any w2 B n.AJ n.cJ n.jr hl4 (by omega) (HV.out.later hB HB.out).ej).mono ?_
  rintro e w3 ⟨rfl, hb⟩
  clear nc0 nc1 nc2 nc3 nc4 nc5 nc6 nc7 nc8 nc9 nc10 nc11 nc12 nc13 nc14 gl
  have kk := bthen HB.out hb; clear HB; have HB := Lib.hid kk; clear kk hb
  go_wp2_with fail
  go_ret
  exact ⟨rbool (by simp [frameB, ht, h2, h3, h4, h8]; omega), HB.out⟩
end Go.Proofs.YtjpkpfmpjgeeiaaGreat
