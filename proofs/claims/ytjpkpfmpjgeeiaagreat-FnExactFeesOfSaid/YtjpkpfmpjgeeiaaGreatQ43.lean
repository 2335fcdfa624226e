
/- Chapter 9: belongsIn, the closure of placesOk, slices.ContainsFunc with it (gen_npv.py). -/
import Derived.Test.YtjpkpfmpjgeeiaaGreatQ39
import Derived.Test.YtjpkpfmpjgeeiaaGreatQ08
import Derived.Test.YtjpkpfmpjgeeiaaGreatQ30
import Derived.Deep.DeepCutAuto
namespace Go.Proofs.YtjpkpfmpjgeeiaaGreat
open Go.RowKit
set_option linter.unusedVariables false
set_option maxRecDepth 100000
theorem belP_at {P : List Pc} {k i : Nat} {x0 x1 x2 : Int} {x3 : Bool} {p : Pc} (hb : x2 = (i : Int) + 1) (hp : P[i]? = some p) : belB P k ⟨x0, x1, x2, x3⟩ = (keptB p && p.site == (k : Int) && p.size == x1 && !(p.stage == 2 && x3)) := by
  have hi := (List.getElem?_eq_some_iff.1 hp).1
  have h1 : inR x2 1 P.length = true := inR_iff.2 ⟨by omega, by omega⟩
  unfold belB
  dsimp only
  rw [h1, hb, pcAt_eq hp, Bool.true_and]
set_option maxHeartbeats 4000000 in
theorem belI_any (w : World) (g o B : Nat) (n : Net) (k : Nat) (x0 x1 x2 : Int) (x3 : Bool) (H : NetIn w g o n) (hB : B ≤ w.heap.size) (hV : NetV w B n) :
    Calls Tryz.prog 89 #[.pointer (some ⟨g, o, none⟩), .agg #[.int .i64 x0, .int .i64 x1, .int .i64 x2, .bool x3], .int .i64 (k : Int)] w fun e w' => e = .returned (.bool (belB n.pc k ⟨x0, x1, x2, x3⟩)) ∧ Below w.heap.size w w' := by
  have hl2 := hV.l2
  have HV := Lib.hid hV; have HH := Lib.hid H; clear hV H
  go_enter Tryz.func89, Tryz.ntmps89
  go_upto_region 1 with fail
  generalize hW : w.alloc (.cells #[.int .i64 x0, .int .i64 x1, .int .i64 x2, .bool x3] 125) = w1
  have b1 : Below w.heap.size w w1 := by rw [← hW]; exact balloc _ _
  have k1 : Has w1 w.heap.size 125 #[.int .i64 x0, .int .i64 x1, .int .i64 x2, .bool x3] := by rw [← hW]; exact has_new _ _ _
  clear hW
  have hs1 := b1.size
  have kk := HH.out.later b1; clear HH; have HH := Lib.hid kk; clear kk
  have BB := Lib.hid b1; have K := Lib.hid k1; clear k1 b1
  have q2 := has_cell K.out 2 rfl; have ql := has_lt K.out
  go_wp2_with fail
  refine (hasP_any _ g o n x2 HH.out).mono ?_
  rintro e w' ⟨rfl, hw⟩
  rw [hw]; clear hw
  cases h1 : inR x2 1 n.pc.length
  · go_wp2_with fail
    go_ret
    exact ⟨rbool (by unfold belB; dsimp only; rw [h1]; rfl), BB.out⟩
  have hpr := inR_iff.1 h1
  obtain ⟨i, hi⟩ : ∃ i : Nat, x2 = (i : Int) + 1 := ⟨(x2 - 1).toNat, by omega⟩
  have hil : i < n.pc.length := by omega
  obtain ⟨b, off, p, hA, hbB, hp, hc0, hc1, hc2, hc3, hc4, hc5, hc6, hc7, hc8, hc9, hc10, hc11, hc12⟩ := ((HV.out.later hB BB.out).pl).at_ hil
  have hbe := belP_at (k := k) (x0 := x0) (x1 := x1) (x3 := x3) hi hp
  have HBE := Lib.hid hbe; clear hbe hp h1 hpr
  subst hi
  go_wp2_with fail
  refine (parN_any _ g o n i b off hil hl2 hA HH.out).mono ?_
  rintro e w' ⟨rfl, hw⟩
  rw [hw]; clear hw hA
  have hbw : b < w1.heap.size := by omega
  go_upto_region 4 with fail
  clear q2 ql hc0 hc1 hc2 hc3 hc4 hc5 hc6 hc7 hc8 hc9 hc10 hc11 hc12
  generalize hW : w1.alloc (.cells #[.int .i64 p.size, .int .i64 p.owner, .int .i64 p.site, .int .i64 p.stage, .int .i64 p.since, .int .i64 p.ext, .int .i64 p.ls, .int .i64 p.ln, .int .i64 p.lt, .int .i64 p.lp, .int .i64 p.lu, .int .i64 p.who, .int .i64 p.fee] 55) = w2
  have b2 : Below w1.heap.size w1 w2 := by rw [← hW]; exact balloc _ _
  have k2 : Has w2 w1.heap.size 55 #[.int .i64 p.size, .int .i64 p.owner, .int .i64 p.site, .int .i64 p.stage, .int .i64 p.since, .int .i64 p.ext, .int .i64 p.ls, .int .i64 p.ln, .int .i64 p.lt, .int .i64 p.lp, .int .i64 p.lu, .int .i64 p.who, .int .i64 p.fee] := by rw [← hW]; exact has_new _ _ _
  clear hW
  have hs2 := b2.size
  have kk := bthen BB.out b2; clear BB; have BB := Lib.hid kk; clear kk
  have kk := has_call K.out b2; clear K; have K := Lib.hid kk; clear kk
  have K2 := Lib.hid k2; clear k2 b2
  have p0 := has_cell K2.out 0 rfl; have p1 := has_cell K2.out 1 rfl; have p2 := has_cell K2.out 2 rfl; have p3 := has_cell K2.out 3 rfl; have p4 := has_cell K2.out 4 rfl; have p5 := has_cell K2.out 5 rfl; have p6 := has_cell K2.out 6 rfl; have p7 := has_cell K2.out 7 rfl; have p8 := has_cell K2.out 8 rfl; have p9 := has_cell K2.out 9 rfl; have p10 := has_cell K2.out 10 rfl; have p11 := has_cell K2.out 11 rfl; have p12 := has_cell K2.out 12 rfl; have pl := has_lt K2.out
  go_wp2_with fail
  clear p0 p1 p2 p3 p4 p5 p6 p7 p8 p9 p10 p11 p12 pl
  refine (keptI_any w2 p).mono ?_
  rintro e w3 ⟨rfl, hb⟩
  have kk := bthen BB.out hb; clear BB; have BB := Lib.hid kk; clear kk
  have kk := has_call K.out hb; clear K; have K := Lib.hid kk; clear kk
  have kk := has_call K2.out hb; clear K2; have K2 := Lib.hid kk; clear kk
  have hs3 := hb.size; clear hb
  have p0 := has_cell K2.out 0 rfl; have p2 := has_cell K2.out 2 rfl; have p3 := has_cell K2.out 3 rfl; have pl := has_lt K2.out; have q1 := has_cell K.out 1 rfl; have q3 := has_cell K.out 3 rfl; have ql := has_lt K.out
  cases e1 : keptB p <;> cases e2 : (p.site == (k : Int)) <;> cases e3 : (p.size == x1) <;> cases e4 : (p.stage == 2) <;> cases x3
  all_goals (go_wp2_with fail)
  all_goals (go_ret; exact ⟨rbool (by rw [HBE.out]; simp [e1, e2, e3, e4]), BB.out⟩)
def badB (P : List Pc) (k : Nat) (b : Bx) : Bool := !(b.par == 0) && !belB P k b
set_option maxHeartbeats 2000000 in
theorem badI_any (w : World) (g o B g1 g2 : Nat) (n : Net) (k : Nat) (x0 x1 x2 : Int) (x3 : Bool) (H : NetIn w g o n) (hB : B ≤ w.heap.size) (hV : NetV w B n) (h1 : g1 < w.heap.size) (h2 : g2 < w.heap.size) (c1 : w.cell? ⟨g1, 0, none⟩ = some (.pointer (some ⟨g, o, none⟩))) (c2 : w.cell? ⟨g2, 0, none⟩ = some (.int .i64 (k : Int))) :
    Calls Tryz.prog 88 #[.agg #[.int .i64 x0, .int .i64 x1, .int .i64 x2, .bool x3], .pointer (some ⟨g1, 0, none⟩), .pointer (some ⟨g2, 0, none⟩)] w fun e w' => e = .returned (.bool (badB n.pc k ⟨x0, x1, x2, x3⟩)) ∧ Below w.heap.size w w' := by
  have HV := Lib.hid hV; have HH := Lib.hid H; clear hV H
  go_enter Tryz.func88, Tryz.ntmps88
  go_upto_region 1 with fail
  generalize hW : w.alloc (.cells #[.int .i64 x0, .int .i64 x1, .int .i64 x2, .bool x3] 125) = w1
  have b1 : Below w.heap.size w w1 := by rw [← hW]; exact balloc _ _
  have k1 : Has w1 w.heap.size 125 #[.int .i64 x0, .int .i64 x1, .int .i64 x2, .bool x3] := by rw [← hW]; exact has_new _ _ _
  clear hW
  have hs1 := b1.size
  have d1 := (bold b1 g1 0 h1).trans c1; have d2 := (bold b1 g2 0 h2).trans c2
  have q0 := has_cell k1 0 rfl; have q1 := has_cell k1 1 rfl; have q2 := has_cell k1 2 rfl; have q3 := has_cell k1 3 rfl; have ql := has_lt k1
  have BB := Lib.hid b1; clear k1 c1 c2
  by_cases e : x2 = 0
  · have e0 : (x2 != 0) = false := by simpa using e
    have hq : badB n.pc k ⟨x0, x1, x2, x3⟩ = false := by unfold badB; simp [e]
    have HQ := Lib.hid hq; clear hq e b1
    go_wp2_with fail
    go_ret
    exact ⟨rbool HQ.out.symm, BB.out⟩
  · have e0 : (x2 != 0) = true := by simpa using e
    have hq : badB n.pc k ⟨x0, x1, x2, x3⟩ = !belB n.pc k ⟨x0, x1, x2, x3⟩ := by unfold badB; simp [e]
    have HQ := Lib.hid hq; clear hq e
    have hbe := belI_any w1 g o B n k x0 x1 x2 x3 (HH.out.later b1) (by omega) (HV.out.later hB b1)
    have HBE := Lib.hid hbe; clear hbe b1
    go_wp2_with fail
    refine (HBE.out).mono ?_
    rintro e w2 ⟨rfl, hb2⟩
    go_wp2_with fail
    go_ret
    exact ⟨rbool HQ.out.symm, bthen BB.out hb2⟩
set_option maxHeartbeats 1000000 in
theorem badX_any (w : World) (g o B g1 g2 : Nat) (n : Net) (k : Nat) (A : Option Addr) (c : Nat) (L : List Bx) (lb : L.length ≤ maxLen) (hS : XL w B A L) (H : NetIn w g o n) (hB : B ≤ w.heap.size) (hV : NetV w B n) (h1 : g1 < w.heap.size) (h2 : g2 < w.heap.size) (c1 : w.cell? ⟨g1, 0, none⟩ = some (.pointer (some ⟨g, o, none⟩))) (c2 : w.cell? ⟨g2, 0, none⟩ = some (.int .i64 (k : Int))) :
    Calls Tryz.prog 123 #[.slice A L.length c, .func (.func 88) #[] #[.pointer (some ⟨g1, 0, none⟩), .pointer (some ⟨g2, 0, none⟩)]] w fun e w' => e = .returned (.int .i64 (fIdx (badB n.pc k) L 0)) ∧ Below w.heap.size w w' := by
  unfold maxLen at lb
  have HS := Lib.hid hS; have HV := Lib.hid hV; have HH := Lib.hid H; clear hS hV H
  have HC1 := Lib.hid c1; have HC2 := Lib.hid c2; clear c1 c2
  go_enter Tryz.func123, Tryz.ntmps123
  go_wp2
  go_loopw [8] (fun i wr => ∃ j : Nat, j ≤ L.length ∧ i = .int .i64 j ∧ fIdx (badB n.pc k) L 0 = fIdx (badB n.pc k) (L.drop j) j ∧ Below w.heap.size w wr) (fun i _ => L.length - (intOf i).toNat)
  case atStart => exact ⟨0, Nat.zero_le _, rfl, by simp, Below.refl _ _⟩
  case round =>
    obtain ⟨j, hk, rfl, hno, hb⟩ := hrel
    have HN := Lib.hid hno; clear hno
    have hsz := hb.size
    by_cases hlt : j < L.length
    · obtain ⟨b, off, x, rfl, hbB, hx, hc0, hc1, hc2, hc3⟩ := (HS.out.later hB hb).at_ hlt
      have hst := fIdx_drop (badB n.pc k) L j x hx
      have hbad := badI_any wr g o B g1 g2 n k x.low x.size x.par x.jam (HH.out.later hb) (by omega) (HV.out.later hB hb) (by omega) (by omega) ((bold hb g1 0 h1).trans HC1.out) ((bold hb g2 0 h2).trans HC2.out)
      obtain ⟨x0, x1, x2, x3⟩ := x
      dsimp only at hc0 hc1 hc2 hc3 hbad
      clear hx
      have HST := Lib.hid hst; have HBD := Lib.hid hbad; clear hst hbad
      go_wp2_with fail
      refine (HBD.out).mono ?_
      rintro e w2 ⟨rfl, hb2⟩
      have hst := HST.out
      clear HBD
      generalize badB n.pc k ⟨x0, x1, x2, x3⟩ = q at *
      cases q
      · rw [if_neg (by simp)] at hst
        have HST2 := Lib.hid hst; clear hst HST
        go_wp2
        go_roundw
        case rel => exact ⟨j + 1, by omega, by go_num, by rw [HN.out, HST2.out], bthen hb hb2⟩
        case measure => simp [intOf]; omega
      · rw [if_pos rfl] at hst
        have HST2 := Lib.hid hst; clear hst HST
        go_wp2
        go_ret
        exact ⟨ret_int (by rw [HN.out, HST2.out]), bthen hb hb2⟩
    · go_wp2
      go_ret
      have hkl : j = L.length := by omega
      subst hkl
      exact ⟨ret_int (by rw [HN.out, List.drop_length]; rfl), hb⟩
theorem anyBad_any (w : World) (g o B g1 g2 : Nat) (n : Net) (k : Nat) (A : Option Addr) (c : Nat) (L : List Bx) (lb : L.length ≤ maxLen) (hS : XL w B A L) (H : NetIn w g o n) (hB : B ≤ w.heap.size) (hV : NetV w B n) (h1 : g1 < w.heap.size) (h2 : g2 < w.heap.size) (c1 : w.cell? ⟨g1, 0, none⟩ = some (.pointer (some ⟨g, o, none⟩))) (c2 : w.cell? ⟨g2, 0, none⟩ = some (.int .i64 (k : Int))) :
    Calls Tryz.prog 87 #[.slice A L.length c, .func (.func 88) #[] #[.pointer (some ⟨g1, 0, none⟩), .pointer (some ⟨g2, 0, none⟩)]] w fun e w' => e = .returned (.bool (L.any (badB n.pc k))) ∧ Below w.heap.size w w' := by
  have hq : L.any (badB n.pc k) = decide (0 ≤ fIdx (badB n.pc k) L 0) := by
    rcases fIdx_cases (badB n.pc k) L 0 with ⟨h1, h2⟩ | ⟨j, x, h1, h2, h3⟩
    · have : ¬ 0 ≤ fIdx (badB n.pc k) L 0 := by omega
      rw [decide_eq_false this, List.any_eq_false]
      exact fun x hx => by rw [h2 x hx]; simp
    · rw [decide_eq_true (by omega), List.any_eq_true]
      exact ⟨x, List.mem_of_getElem? h2, h3⟩
  have HQ := Lib.hid hq; clear hq
  have hx := badX_any w g o B g1 g2 n k A c L lb hS H hB hV h1 h2 c1 c2
  have HX := Lib.hid hx; clear hx hS H hV c1 c2
  go_enter Tryz.func87, Tryz.ntmps87
  go_wp2_with fail
  refine (HX.out).mono ?_
  rintro e w1 ⟨rfl, hb⟩
  by_cases h0 : 0 ≤ fIdx (badB n.pc k) L 0
  · have HR := Lib.hid (HQ.out.trans (decide_eq_true h0))
    generalize fIdx (badB n.pc k) L 0 = r at *
    go_wp2_with fail
    go_ret
    exact ⟨rbool (by rw [HR.out] <;> simp <;> omega), hb⟩
  · have HR := Lib.hid (HQ.out.trans (decide_eq_false h0))
    generalize fIdx (badB n.pc k) L 0 = r at *
    go_wp2_with fail
    go_ret
    exact ⟨rbool (by rw [HR.out] <;> simp <;> omega), hb⟩
end Go.Proofs.YtjpkpfmpjgeeiaaGreat
