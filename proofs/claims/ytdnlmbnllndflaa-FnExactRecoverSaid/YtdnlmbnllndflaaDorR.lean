/- Chapter 4: the walk of the law FnExactRecover. -/
import Derived.Test.YtdnlmbnllndflaaDorQ
namespace Go.Proofs.Ytdnlmbnllndflaa
open Go.RowKit
set_option linter.unusedVariables false
def Cutrec (xk : Int) (xs : Int) (xl : Bool) (xo : Bool) (xf : Bool) (q1 : Int) (q2 : Bool) (w0 : World) (p0 p1 p2 : Value) (W : World) : Prop := ∃ g : Nat, p0 = .pointer (some ⟨g, 0, none⟩) ∧ p1 = .int .i64 q1 ∧ p2 = .bool q2 ∧ Has W g 30 #[.int .i64 xk, .int .i64 xs, .bool xl, .bool xo, .bool xf] ∧ Below w0.heap.size w0 W
set_option maxRecDepth 100000 in
set_option maxHeartbeats 40000000 in
theorem recLaw_walk (w : World) (k s : Int) (l o f : Bool) (a b c d : Int) : Calls Try.prog 5 #[.agg #[.int .i64 k, .int .i64 s, .bool l, .bool o, .bool f], .agg #[.int .i64 a, .int .i64 b, .int .i64 c, .int .i64 d]] w fun e w' => e = .returned (.bool true) ∧ Below w.heap.size w w' := by
  obtain ⟨xk, xs, xl, xo, xf, q1, q2, hV⟩ : ∃ (xk : Int) (xs : Int) (xl : Bool) (xo : Bool) (xf : Bool) (q1 : Int) (q2 : Bool), drI (recD ⟨k, s, l, o, f⟩ a b c d) = .tuple #[.agg #[.int .i64 xk, .int .i64 xs, .bool xl, .bool xo, .bool xf], .int .i64 q1, .bool q2] := ⟨_, _, _, _, _, _, _, rfl⟩
  have HV := Lib.hid hV; clear hV
  have nq1 : (q1 != q1) = false := by simp
  have nq2 : (q2 != q2) = false := by simp
  go_enter Try.func5, Try.ntmps5
  go_upto_region 1 with fail
  generalize hX : (w.alloc (.cells #[.int .i64 k, .int .i64 s, .bool l, .bool o, .bool f] 23)) = w1
  have hb : Below w.heap.size w w1 := by rw [← hX]; exact balloc _ _
  have hk : Has w1 w.heap.size 23 #[.int .i64 k, .int .i64 s, .bool l, .bool o, .bool f] := by rw [← hX]; exact has_new _ _ _
  have hzw1 : w1.heap.size = w.heap.size + 1 := by rw [← hX]; simp
  clear hX
  have zb := hb; clear hb
  have za := hk; clear hk
  generalize hX : (w1.alloc (.cells #[.int .i64 a, .int .i64 b, .int .i64 c, .int .i64 d] 25)) = w2
  have hb : Below w1.heap.size w1 w2 := by rw [← hX]; exact balloc _ _
  have hk : Has w2 w1.heap.size 25 #[.int .i64 a, .int .i64 b, .int .i64 c, .int .i64 d] := by rw [← hX]; exact has_new _ _ _
  have hzw2 : w2.heap.size = w.heap.size + 2 := by rw [← hX]; simp [hzw1]
  clear hX
  rw [hzw1] at hk
  replace za := has_call za hb
  replace zb := bthen zb hb; clear hb
  have zf := hk; clear hk
  clear hzw1 hzw2
  have hgl := has_lt za; have hhl := has_lt zf
  have ZAH := Lib.hid za; clear za
  have ZFH := Lib.hid zf; clear zf
  have ZB := Lib.hid zb; clear zb
  go_cut [5, 6, 7] (fun p0 p1 p2 W => Cutrec xk xs xl xo xf q1 q2 w2 p0 p1 p2 W)
  case first =>
    have S00 : (fun W : World => (W.cell? ⟨w.heap.size, 0, none⟩ = some (.int .i64 k) ∧ W.cell? ⟨w.heap.size, 1, none⟩ = some (.int .i64 s) ∧ W.cell? ⟨w.heap.size, 2, none⟩ = some (.bool l) ∧ W.cell? ⟨w.heap.size, 3, none⟩ = some (.bool o) ∧ W.cell? ⟨w.heap.size, 4, none⟩ = some (.bool f) ∧ W.cell? ⟨w.heap.size + 1, 0, none⟩ = some (.int .i64 a) ∧ W.cell? ⟨w.heap.size + 1, 1, none⟩ = some (.int .i64 b) ∧ W.cell? ⟨w.heap.size + 1, 2, none⟩ = some (.int .i64 c) ∧ W.cell? ⟨w.heap.size + 1, 3, none⟩ = some (.int .i64 d)) ∧ Below w2.heap.size w2 W) w2 := ⟨⟨has_cell ZAH.out 0 rfl, has_cell ZAH.out 1 rfl, has_cell ZAH.out 2 rfl, has_cell ZAH.out 3 rfl, has_cell ZAH.out 4 rfl, has_cell ZFH.out 0 rfl, has_cell ZFH.out 1 rfl, has_cell ZFH.out 2 rfl, has_cell ZFH.out 3 rfl⟩, Below.refl _ _⟩
    have S0 : (fun W : World => (W.cell? ⟨w.heap.size, 0, none⟩ = some (.int .i64 k) ∧ W.cell? ⟨w.heap.size, 1, none⟩ = some (.int .i64 s) ∧ W.cell? ⟨w.heap.size, 2, none⟩ = some (.bool l) ∧ W.cell? ⟨w.heap.size, 3, none⟩ = some (.bool o) ∧ W.cell? ⟨w.heap.size, 4, none⟩ = some (.bool f) ∧ W.cell? ⟨w.heap.size + 1, 0, none⟩ = some (.int .i64 a) ∧ W.cell? ⟨w.heap.size + 1, 1, none⟩ = some (.int .i64 b) ∧ W.cell? ⟨w.heap.size + 1, 2, none⟩ = some (.int .i64 c) ∧ W.cell? ⟨w.heap.size + 1, 3, none⟩ = some (.int .i64 d)) ∧ Below w2.heap.size w2 W) w2.drew := ⟨⟨has_cell ZAH.out 0 rfl, has_cell ZAH.out 1 rfl, has_cell ZAH.out 2 rfl, has_cell ZAH.out 3 rfl, has_cell ZAH.out 4 rfl, has_cell ZFH.out 0 rfl, has_cell ZFH.out 1 rfl, has_cell ZFH.out 2 rfl, has_cell ZFH.out 3 rfl⟩, (Below.refl _ _).drew⟩
    go_region_held3 (fun W : World => (W.cell? ⟨w.heap.size, 0, none⟩ = some (.int .i64 k) ∧ W.cell? ⟨w.heap.size, 1, none⟩ = some (.int .i64 s) ∧ W.cell? ⟨w.heap.size, 2, none⟩ = some (.bool l) ∧ W.cell? ⟨w.heap.size, 3, none⟩ = some (.bool o) ∧ W.cell? ⟨w.heap.size, 4, none⟩ = some (.bool f) ∧ W.cell? ⟨w.heap.size + 1, 0, none⟩ = some (.int .i64 a) ∧ W.cell? ⟨w.heap.size + 1, 1, none⟩ = some (.int .i64 b) ∧ W.cell? ⟨w.heap.size + 1, 2, none⟩ = some (.int .i64 c) ∧ W.cell? ⟨w.heap.size + 1, 3, none⟩ = some (.int .i64 d)) ∧ Below w2.heap.size w2 W) (first | (with_reducible assumption) | (with_reducible refine keep9 ?_ (balloc _ _)); (with_reducible assumption) | (with_reducible refine keep9 ?_ (balloc _ _).drew); (with_reducible assumption) | (with_reducible refine keep9w hgl hhl ?_ (bset5 (by first | exact Nat.le_refl _ | exact S1.2.size | exact S2.2.size | exact S3.2.size) _ _ _ _ _ (Below.refl _ _))); (with_reducible assumption)) (first
      | (go_at_call 8; refine (toDoor_any _ k s l o f).mono ?_; rintro e u1 ⟨rfl, hb1⟩; have S1 := keep9 (by with_reducible assumption) hb1; (first | (replace mz := has_call mz hb1) | (have mz : Has u1 _ 30 #[.int .i64 0, .int .i64 0, .bool false, .bool false, .bool false] := (by with_reducible exact has_call (has_new _ _ _) hb1)) | (have mz : Has u1 _ 30 #[.int .i64 0, .int .i64 0, .bool false, .bool false, .bool false] := (by with_reducible exact has_call (has_drew (has_new _ _ _)) hb1)) | skip))
      | (go_at_call 9; refine (toFaults_any _ a b c d).mono ?_; rintro e u2 ⟨rfl, hb2⟩; have S2 := keep9 (by with_reducible assumption) hb2; (first | (replace mz := has_call mz hb2) | (have mz : Has u2 _ 30 #[.int .i64 0, .int .i64 0, .bool false, .bool false, .bool false] := (by with_reducible exact has_call (has_new _ _ _) hb2)) | (have mz : Has u2 _ 30 #[.int .i64 0, .int .i64 0, .bool false, .bool false, .bool false] := (by with_reducible exact has_call (has_drew (has_new _ _ _)) hb2)) | skip))
      | (go_at_call 15; refine (recS_any _ k s l o f a b c d).mono ?_; rintro e u3 ⟨rfl, hb3⟩; rw [HV.out]; have S3 := keep9 (by with_reducible assumption) hb3; (first | (replace mz := has_call mz hb3) | (have mz : Has u3 _ 30 #[.int .i64 0, .int .i64 0, .bool false, .bool false, .bool false] := (by with_reducible exact has_call (has_new _ _ _) hb3)) | (have mz : Has u3 _ 30 #[.int .i64 0, .int .i64 0, .bool false, .bool false, .bool false] := (by with_reducible exact has_call (has_drew (has_new _ _ _)) hb3)) | skip); (first | (have z0 := has_cell mz 0 rfl; have f0 := has_free mz 0; have z1 := has_cell mz 1 rfl; have f1 := has_free mz 1; have z2 := has_cell mz 2 rfl; have f2 := has_free mz 2; have z3 := has_cell mz 3 rfl; have f3 := has_free mz 3; have z4 := has_cell mz 4 rfl; have f4 := has_free mz 4; have ltz := has_lt mz; have MZ := Lib.hid mz) | skip)))
    all_goals (go_wp2_with fail)
    all_goals (go_meet; first | exact ⟨_, rfl, rfl, rfl, hset5 MZ.out _ _ _ _ _, bset5 (by first | exact Nat.le_refl _ | exact S1.2.size | exact S2.2.size | exact S3.2.size) _ _ _ _ _ S3.2⟩ | exact ⟨_, rfl, rfl, rfl, has_new _ _ _, S3.2.alloc S3.2.size _⟩)
  case rest =>
    rename World => w3
    obtain ⟨g1, rfl, rfl, rfl, hk, hb⟩ := hcut
    have za := ZAH.out; clear ZAH
    have zf := ZFH.out; clear ZFH
    have zb := ZB.out; clear ZB hgl hhl
    replace za := has_call za hb
    replace zf := has_call zf hb
    replace zb := bthen zb hb; clear hb
    have zr1 := hk; clear hk
    have ZAH := Lib.hid za; clear za
    have ZFH := Lib.hid zf; clear zf
    have ZR1H := Lib.hid zr1; clear zr1
    have ZB := Lib.hid zb; clear zb
    go_upto_region 2 with fail
    have za := ZAH.out; clear ZAH
    have zf := ZFH.out; clear ZFH
    have zr1 := ZR1H.out; clear ZR1H
    have zb := ZB.out; clear ZB
    have hgl := has_lt za; have hhl := has_lt zf
    have ZAH := Lib.hid za; clear za
    have ZFH := Lib.hid zf; clear zf
    have ZR1H := Lib.hid zr1; clear zr1
    have ZB := Lib.hid zb; clear zb
    go_cut [8, 9, 10] (fun p0 p1 p2 W => Cutrec xk xs xl xo xf q1 q2 w3 p0 p1 p2 W)
    case first =>
      have S00 : (fun W : World => (W.cell? ⟨w.heap.size, 0, none⟩ = some (.int .i64 k) ∧ W.cell? ⟨w.heap.size, 1, none⟩ = some (.int .i64 s) ∧ W.cell? ⟨w.heap.size, 2, none⟩ = some (.bool l) ∧ W.cell? ⟨w.heap.size, 3, none⟩ = some (.bool o) ∧ W.cell? ⟨w.heap.size, 4, none⟩ = some (.bool f) ∧ W.cell? ⟨w.heap.size + 1, 0, none⟩ = some (.int .i64 a) ∧ W.cell? ⟨w.heap.size + 1, 1, none⟩ = some (.int .i64 b) ∧ W.cell? ⟨w.heap.size + 1, 2, none⟩ = some (.int .i64 c) ∧ W.cell? ⟨w.heap.size + 1, 3, none⟩ = some (.int .i64 d)) ∧ Below w3.heap.size w3 W) w3 := ⟨⟨has_cell ZAH.out 0 rfl, has_cell ZAH.out 1 rfl, has_cell ZAH.out 2 rfl, has_cell ZAH.out 3 rfl, has_cell ZAH.out 4 rfl, has_cell ZFH.out 0 rfl, has_cell ZFH.out 1 rfl, has_cell ZFH.out 2 rfl, has_cell ZFH.out 3 rfl⟩, Below.refl _ _⟩
      have S0 : (fun W : World => (W.cell? ⟨w.heap.size, 0, none⟩ = some (.int .i64 k) ∧ W.cell? ⟨w.heap.size, 1, none⟩ = some (.int .i64 s) ∧ W.cell? ⟨w.heap.size, 2, none⟩ = some (.bool l) ∧ W.cell? ⟨w.heap.size, 3, none⟩ = some (.bool o) ∧ W.cell? ⟨w.heap.size, 4, none⟩ = some (.bool f) ∧ W.cell? ⟨w.heap.size + 1, 0, none⟩ = some (.int .i64 a) ∧ W.cell? ⟨w.heap.size + 1, 1, none⟩ = some (.int .i64 b) ∧ W.cell? ⟨w.heap.size + 1, 2, none⟩ = some (.int .i64 c) ∧ W.cell? ⟨w.heap.size + 1, 3, none⟩ = some (.int .i64 d)) ∧ Below w3.heap.size w3 W) w3.drew := ⟨⟨has_cell ZAH.out 0 rfl, has_cell ZAH.out 1 rfl, has_cell ZAH.out 2 rfl, has_cell ZAH.out 3 rfl, has_cell ZAH.out 4 rfl, has_cell ZFH.out 0 rfl, has_cell ZFH.out 1 rfl, has_cell ZFH.out 2 rfl, has_cell ZFH.out 3 rfl⟩, (Below.refl _ _).drew⟩
      go_region_held3 (fun W : World => (W.cell? ⟨w.heap.size, 0, none⟩ = some (.int .i64 k) ∧ W.cell? ⟨w.heap.size, 1, none⟩ = some (.int .i64 s) ∧ W.cell? ⟨w.heap.size, 2, none⟩ = some (.bool l) ∧ W.cell? ⟨w.heap.size, 3, none⟩ = some (.bool o) ∧ W.cell? ⟨w.heap.size, 4, none⟩ = some (.bool f) ∧ W.cell? ⟨w.heap.size + 1, 0, none⟩ = some (.int .i64 a) ∧ W.cell? ⟨w.heap.size + 1, 1, none⟩ = some (.int .i64 b) ∧ W.cell? ⟨w.heap.size + 1, 2, none⟩ = some (.int .i64 c) ∧ W.cell? ⟨w.heap.size + 1, 3, none⟩ = some (.int .i64 d)) ∧ Below w3.heap.size w3 W) (first | (with_reducible assumption) | (with_reducible refine keep9 ?_ (balloc _ _)); (with_reducible assumption) | (with_reducible refine keep9 ?_ (balloc _ _).drew); (with_reducible assumption) | (with_reducible refine keep9w hgl hhl ?_ (bset5 (by first | exact Nat.le_refl _ | exact S1.2.size | exact S2.2.size | exact S3.2.size) _ _ _ _ _ (Below.refl _ _))); (with_reducible assumption)) (first
        | (go_at_call 8; refine (toDoor_any _ k s l o f).mono ?_; rintro e u1 ⟨rfl, hb1⟩; have S1 := keep9 (by with_reducible assumption) hb1; (first | (replace mz := has_call mz hb1) | (have mz : Has u1 _ 30 #[.int .i64 0, .int .i64 0, .bool false, .bool false, .bool false] := (by with_reducible exact has_call (has_new _ _ _) hb1)) | (have mz : Has u1 _ 30 #[.int .i64 0, .int .i64 0, .bool false, .bool false, .bool false] := (by with_reducible exact has_call (has_drew (has_new _ _ _)) hb1)) | skip))
        | (go_at_call 9; refine (toFaults_any _ a b c d).mono ?_; rintro e u2 ⟨rfl, hb2⟩; have S2 := keep9 (by with_reducible assumption) hb2; (first | (replace mz := has_call mz hb2) | (have mz : Has u2 _ 30 #[.int .i64 0, .int .i64 0, .bool false, .bool false, .bool false] := (by with_reducible exact has_call (has_new _ _ _) hb2)) | (have mz : Has u2 _ 30 #[.int .i64 0, .int .i64 0, .bool false, .bool false, .bool false] := (by with_reducible exact has_call (has_drew (has_new _ _ _)) hb2)) | skip))
        | (go_at_call 16; refine (recI_any _ k s l o f a b c d).mono ?_; rintro e u3 ⟨rfl, hb3⟩; rw [HV.out]; have S3 := keep9 (by with_reducible assumption) hb3; (first | (replace mz := has_call mz hb3) | (have mz : Has u3 _ 30 #[.int .i64 0, .int .i64 0, .bool false, .bool false, .bool false] := (by with_reducible exact has_call (has_new _ _ _) hb3)) | (have mz : Has u3 _ 30 #[.int .i64 0, .int .i64 0, .bool false, .bool false, .bool false] := (by with_reducible exact has_call (has_drew (has_new _ _ _)) hb3)) | skip); (first | (have z0 := has_cell mz 0 rfl; have f0 := has_free mz 0; have z1 := has_cell mz 1 rfl; have f1 := has_free mz 1; have z2 := has_cell mz 2 rfl; have f2 := has_free mz 2; have z3 := has_cell mz 3 rfl; have f3 := has_free mz 3; have z4 := has_cell mz 4 rfl; have f4 := has_free mz 4; have ltz := has_lt mz; have MZ := Lib.hid mz) | skip)))
      all_goals (go_wp2_with fail)
      all_goals (go_meet; first | exact ⟨_, rfl, rfl, rfl, hset5 MZ.out _ _ _ _ _, bset5 (by first | exact Nat.le_refl _ | exact S1.2.size | exact S2.2.size | exact S3.2.size) _ _ _ _ _ S3.2⟩ | exact ⟨_, rfl, rfl, rfl, has_new _ _ _, S3.2.alloc S3.2.size _⟩)
    case rest =>
      rename World => w4
      obtain ⟨g2, rfl, rfl, rfl, hk, hb⟩ := hcut
      have za := ZAH.out; clear ZAH
      have zf := ZFH.out; clear ZFH
      have zr1 := ZR1H.out; clear ZR1H
      have zb := ZB.out; clear ZB hgl hhl
      replace za := has_call za hb
      replace zf := has_call zf hb
      replace zr1 := has_call zr1 hb
      replace zb := bthen zb hb; clear hb
      have zr2 := hk; clear hk
      clear za
      clear zf
      have zr1c0 := has_cell zr1 0 rfl; have zr1c1 := has_cell zr1 1 rfl; have zr1c2 := has_cell zr1 2 rfl; have zr1c3 := has_cell zr1 3 rfl; have zr1c4 := has_cell zr1 4 rfl
      have zr1lt := has_lt zr1
      have zr2c0 := has_cell zr2 0 rfl; have zr2c1 := has_cell zr2 1 rfl; have zr2c2 := has_cell zr2 2 rfl; have zr2c3 := has_cell zr2 3 rfl; have zr2c4 := has_cell zr2 4 rfl
      have zr2lt := has_lt zr2
      have ZR1H := Lib.hid zr1; clear zr1
      have ZR2H := Lib.hid zr2; clear zr2
      have ZB := Lib.hid zb; clear zb
      go_wp2_with fail
      clear zr1c0 zr1c1 zr1c2 zr1c3 zr1c4 zr1lt zr2c0 zr2c1 zr2c2 zr2c3 zr2c4 zr2lt
      have zr1 := ZR1H.out; clear ZR1H
      have zr2 := ZR2H.out; clear ZR2H
      have zb := ZB.out; clear ZB
      refine (eqDoor_any _ xk xs xl xo xf).mono ?_
      rintro e w5 ⟨rfl, hb⟩
      replace zr1 := has_call zr1 hb
      replace zr2 := has_call zr2 hb
      replace zb := bthen zb hb; clear hb
      have zr1c0 := has_cell zr1 0 rfl; have zr1c1 := has_cell zr1 1 rfl; have zr1c2 := has_cell zr1 2 rfl; have zr1c3 := has_cell zr1 3 rfl; have zr1c4 := has_cell zr1 4 rfl
      have zr1lt := has_lt zr1
      have zr2c0 := has_cell zr2 0 rfl; have zr2c1 := has_cell zr2 1 rfl; have zr2c2 := has_cell zr2 2 rfl; have zr2c3 := has_cell zr2 3 rfl; have zr2c4 := has_cell zr2 4 rfl
      have zr2lt := has_lt zr2
      have ZR1H := Lib.hid zr1; clear zr1
      have ZR2H := Lib.hid zr2; clear zr2
      have ZB := Lib.hid zb; clear zb
      go_wp2_with fail
      clear zr1c0 zr1c1 zr1c2 zr1c3 zr1c4 zr1lt zr2c0 zr2c1 zr2c2 zr2c3 zr2c4 zr2lt
      have zr1 := ZR1H.out; clear ZR1H
      have zr2 := ZR2H.out; clear ZR2H
      have zb := ZB.out; clear ZB
      go_ret
      exact ⟨rfl, zb⟩
end Go.Proofs.Ytdnlmbnllndflaa
