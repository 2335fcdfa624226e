/- Chapter 4: the walks of the laws FnExactSignsOf and FnExactRecover. -/
import Derived.Test.YtdnlmbnllndflaaDorI
import Derived.Deep.RegionHeld3
import Derived.Deep.DeepCutAuto
namespace Go.Proofs.Ytdnlmbnllndflaa
open Go.RowKit
set_option linter.unusedVariables false
/-- the cells of two blocks -/
def CellsOf (w0 : World) (g h : Nat) (x0 x1 x2 x3 x4 y0 y1 y2 y3 : Value) (W : World) : Prop :=
  (W.cell? ⟨g, 0, none⟩ = some x0 ∧ W.cell? ⟨g, 1, none⟩ = some x1 ∧ W.cell? ⟨g, 2, none⟩ = some x2 ∧ W.cell? ⟨g, 3, none⟩ = some x3 ∧ W.cell? ⟨g, 4, none⟩ = some x4 ∧ W.cell? ⟨h, 0, none⟩ = some y0 ∧ W.cell? ⟨h, 1, none⟩ = some y1 ∧ W.cell? ⟨h, 2, none⟩ = some y2 ∧ W.cell? ⟨h, 3, none⟩ = some y3) ∧ Below w0.heap.size w0 W
theorem keep9 {w0 W W' : World} {g h : Nat} {x0 x1 x2 x3 x4 y0 y1 y2 y3 : Value} (k : ((W.cell? ⟨g, 0, none⟩ = some x0 ∧ W.cell? ⟨g, 1, none⟩ = some x1 ∧ W.cell? ⟨g, 2, none⟩ = some x2 ∧ W.cell? ⟨g, 3, none⟩ = some x3 ∧ W.cell? ⟨g, 4, none⟩ = some x4 ∧ W.cell? ⟨h, 0, none⟩ = some y0 ∧ W.cell? ⟨h, 1, none⟩ = some y1 ∧ W.cell? ⟨h, 2, none⟩ = some y2 ∧ W.cell? ⟨h, 3, none⟩ = some y3) ∧ Below w0.heap.size w0 W)) (hb : Below W.heap.size W W') : ((W'.cell? ⟨g, 0, none⟩ = some x0 ∧ W'.cell? ⟨g, 1, none⟩ = some x1 ∧ W'.cell? ⟨g, 2, none⟩ = some x2 ∧ W'.cell? ⟨g, 3, none⟩ = some x3 ∧ W'.cell? ⟨g, 4, none⟩ = some x4 ∧ W'.cell? ⟨h, 0, none⟩ = some y0 ∧ W'.cell? ⟨h, 1, none⟩ = some y1 ∧ W'.cell? ⟨h, 2, none⟩ = some y2 ∧ W'.cell? ⟨h, 3, none⟩ = some y3) ∧ Below w0.heap.size w0 W') :=
  ⟨⟨ccall k.1.1 hb, ccall k.1.2.1 hb, ccall k.1.2.2.1 hb, ccall k.1.2.2.2.1 hb, ccall k.1.2.2.2.2.1 hb, ccall k.1.2.2.2.2.2.1 hb, ccall k.1.2.2.2.2.2.2.1 hb, ccall k.1.2.2.2.2.2.2.2.1 hb, ccall k.1.2.2.2.2.2.2.2.2 hb⟩, bthen k.2 hb⟩
theorem cfar {W W' : World} {q : Addr} {v : Value} {B : Nat} (h : W.cell? q = some v) (hb : Below B W W') (hq : q.block < B) : W'.cell? q = some v := (hb.cell hq).trans h
theorem keep9w {w0 W W' : World} {g h : Nat} {x0 x1 x2 x3 x4 y0 y1 y2 y3 : Value} (hg : g < w0.heap.size) (hh : h < w0.heap.size) (k : ((W.cell? ⟨g, 0, none⟩ = some x0 ∧ W.cell? ⟨g, 1, none⟩ = some x1 ∧ W.cell? ⟨g, 2, none⟩ = some x2 ∧ W.cell? ⟨g, 3, none⟩ = some x3 ∧ W.cell? ⟨g, 4, none⟩ = some x4 ∧ W.cell? ⟨h, 0, none⟩ = some y0 ∧ W.cell? ⟨h, 1, none⟩ = some y1 ∧ W.cell? ⟨h, 2, none⟩ = some y2 ∧ W.cell? ⟨h, 3, none⟩ = some y3) ∧ Below w0.heap.size w0 W)) (hb : Below w0.heap.size W W') : ((W'.cell? ⟨g, 0, none⟩ = some x0 ∧ W'.cell? ⟨g, 1, none⟩ = some x1 ∧ W'.cell? ⟨g, 2, none⟩ = some x2 ∧ W'.cell? ⟨g, 3, none⟩ = some x3 ∧ W'.cell? ⟨g, 4, none⟩ = some x4 ∧ W'.cell? ⟨h, 0, none⟩ = some y0 ∧ W'.cell? ⟨h, 1, none⟩ = some y1 ∧ W'.cell? ⟨h, 2, none⟩ = some y2 ∧ W'.cell? ⟨h, 3, none⟩ = some y3) ∧ Below w0.heap.size w0 W') :=
  ⟨⟨cfar k.1.1 hb hg, cfar k.1.2.1 hb hg, cfar k.1.2.2.1 hb hg, cfar k.1.2.2.2.1 hb hg, cfar k.1.2.2.2.2.1 hb hg, cfar k.1.2.2.2.2.2.1 hb hh, cfar k.1.2.2.2.2.2.2.1 hb hh, cfar k.1.2.2.2.2.2.2.2.1 hb hh, cfar k.1.2.2.2.2.2.2.2.2 hb hh⟩, k.2.trans hb⟩
theorem bset4 {w W : World} {B r : Nat} (hr : B ≤ r) (a b c d : Value) (hb : Below B w W) : Below B w ((((W.setCell ⟨r, 0, none⟩ a).setCell ⟨r, 1, none⟩ b).setCell ⟨r, 2, none⟩ c).setCell ⟨r, 3, none⟩ d) :=
  (((hb.setCell hr _).setCell hr _).setCell hr _).setCell hr _
theorem bset5 {w W : World} {B r : Nat} (hr : B ≤ r) (a b c d e : Value) (hb : Below B w W) : Below B w (((((W.setCell ⟨r, 0, none⟩ a).setCell ⟨r, 1, none⟩ b).setCell ⟨r, 2, none⟩ c).setCell ⟨r, 3, none⟩ d).setCell ⟨r, 4, none⟩ e) :=
  ((((hb.setCell hr _).setCell hr _).setCell hr _).setCell hr _).setCell hr _
theorem hset4 {W : World} {r : Nat} {T : TypeId} {x0 x1 x2 x3 : Value} (h : Has W r T #[x0, x1, x2, x3]) (a b c d : Value) : Has ((((W.setCell ⟨r, 0, none⟩ a).setCell ⟨r, 1, none⟩ b).setCell ⟨r, 2, none⟩ c).setCell ⟨r, 3, none⟩ d) r T #[a, b, c, d] := by
  simpa using has_set (has_set (has_set (has_set h 0 a) 1 b) 2 c) 3 d
theorem hset5 {W : World} {r : Nat} {T : TypeId} {x0 x1 x2 x3 x4 : Value} (h : Has W r T #[x0, x1, x2, x3, x4]) (a b c d e : Value) : Has (((((W.setCell ⟨r, 0, none⟩ a).setCell ⟨r, 1, none⟩ b).setCell ⟨r, 2, none⟩ c).setCell ⟨r, 3, none⟩ d).setCell ⟨r, 4, none⟩ e) r T #[a, b, c, d, e] := by
  simpa using has_set (has_set (has_set (has_set (has_set h 0 a) 1 b) 2 c) 3 d) 4 e
def Cutsgs (x1 : Bool) (x2 : Bool) (x3 : Bool) (x4 : Bool) (q1 : Bool) (w0 : World) (p0 p1 : Value) (W : World) : Prop := ∃ g : Nat, p0 = .pointer (some ⟨g, 0, none⟩) ∧ p1 = .bool q1 ∧ Has W g 27 #[.bool x1, .bool x2, .bool x3, .bool x4] ∧ Below w0.heap.size w0 W
set_option maxRecDepth 100000 in
set_option maxHeartbeats 8000000 in
theorem sgsLaw_walk (w : World) (k s : Int) (l o f : Bool) (a b c d : Int) : Calls Try.prog 3 #[.agg #[.int .i64 k, .int .i64 s, .bool l, .bool o, .bool f], .agg #[.int .i64 a, .int .i64 b, .int .i64 c, .int .i64 d]] w fun e w' => e = .returned (.bool true) ∧ Below w.heap.size w w' := by
  obtain ⟨x1, x2, x3, x4, q1, hV⟩ : ∃ (x1 : Bool) (x2 : Bool) (x3 : Bool) (x4 : Bool) (q1 : Bool), sgT (signsD ⟨k, s, l, o, f⟩ a b c d) = .tuple #[.agg #[.bool x1, .bool x2, .bool x3, .bool x4], .bool q1] := ⟨_, _, _, _, _, rfl⟩
  have HV := Lib.hid hV; clear hV
  have nq1 : (q1 != q1) = false := by simp
  go_enter Try.func3, Try.ntmps3
  go_upto_region 1 with fail
  generalize hX : (w.alloc (.cells #[.int .i64 k, .int .i64 s, .bool l, .bool o, .bool f] 23)) = w1
  have hb : Below w.heap.size w w1 := by rw [← hX]; exact balloc _ _
  have hk : Has w1 w.heap.size 23 #[.int .i64 k, .int .i64 s, .bool l, .bool o, .bool f] := by rw [← hX]; exact has_new _ _ _
  have hzw1 : w1.heap.size = w.heap.size + 1 := by rw [← hX]; simp
  clear hX
  have zb := hb; clear hb
  have za := hk; clear hk
  generalize hX : (w1.alloc (.cells #[.int .i64 a, .int .i64 b, .int .i64 c, .int .i64 d] 25)) = w2
  have hb : Below w1.heap.size w1 w2 := by rw [← hX]; exact balloc _ _
  have hk : Has w2 w1.heap.size 25 #[.int .i64 a, .int .i64 b, .int .i64 c, .int .i64 d] := by rw [← hX]; exact has_new _ _ _
  have hzw2 : w2.heap.size = w.heap.size + 2 := by rw [← hX]; simp [hzw1]
  clear hX
  rw [hzw1] at hk
  replace za := has_call za hb
  replace zb := bthen zb hb; clear hb
  have zf := hk; clear hk
  clear hzw1 hzw2
  have hgl := has_lt za; have hhl := has_lt zf
  have ZAH := Lib.hid za; clear za
  have ZFH := Lib.hid zf; clear zf
  have ZB := Lib.hid zb; clear zb
  go_cut [5, 6] (fun p0 p1 W => Cutsgs x1 x2 x3 x4 q1 w2 p0 p1 W)
  case first =>
    have S00 : (fun W : World => (W.cell? ⟨w.heap.size, 0, none⟩ = some (.int .i64 k) ∧ W.cell? ⟨w.heap.size, 1, none⟩ = some (.int .i64 s) ∧ W.cell? ⟨w.heap.size, 2, none⟩ = some (.bool l) ∧ W.cell? ⟨w.heap.size, 3, none⟩ = some (.bool o) ∧ W.cell? ⟨w.heap.size, 4, none⟩ = some (.bool f) ∧ W.cell? ⟨w.heap.size + 1, 0, none⟩ = some (.int .i64 a) ∧ W.cell? ⟨w.heap.size + 1, 1, none⟩ = some (.int .i64 b) ∧ W.cell? ⟨w.heap.size + 1, 2, none⟩ = some (.int .i64 c) ∧ W.cell? ⟨w.heap.size + 1, 3, none⟩ = some (.int .i64 d)) ∧ Below w2.heap.size w2 W) w2 := ⟨⟨has_cell ZAH.out 0 rfl, has_cell ZAH.out 1 rfl, has_cell ZAH.out 2 rfl, has_cell ZAH.out 3 rfl, has_cell ZAH.out 4 rfl, has_cell ZFH.out 0 rfl, has_cell ZFH.out 1 rfl, has_cell ZFH.out 2 rfl, has_cell ZFH.out 3 rfl⟩, Below.refl _ _⟩
    have S0 : (fun W : World => (W.cell? ⟨w.heap.size, 0, none⟩ = some (.int .i64 k) ∧ W.cell? ⟨w.heap.size, 1, none⟩ = some (.int .i64 s) ∧ W.cell? ⟨w.heap.size, 2, none⟩ = some (.bool l) ∧ W.cell? ⟨w.heap.size, 3, none⟩ = some (.bool o) ∧ W.cell? ⟨w.heap.size, 4, none⟩ = some (.bool f) ∧ W.cell? ⟨w.heap.size + 1, 0, none⟩ = some (.int .i64 a) ∧ W.cell? ⟨w.heap.size + 1, 1, none⟩ = some (.int .i64 b) ∧ W.cell? ⟨w.heap.size + 1, 2, none⟩ = some (.int .i64 c) ∧ W.cell? ⟨w.heap.size + 1, 3, none⟩ = some (.int .i64 d)) ∧ Below w2.heap.size w2 W) w2.drew := ⟨⟨has_cell ZAH.out 0 rfl, has_cell ZAH.out 1 rfl, has_cell ZAH.out 2 rfl, has_cell ZAH.out 3 rfl, has_cell ZAH.out 4 rfl, has_cell ZFH.out 0 rfl, has_cell ZFH.out 1 rfl, has_cell ZFH.out 2 rfl, has_cell ZFH.out 3 rfl⟩, (Below.refl _ _).drew⟩
    go_region_held3 (fun W : World => (W.cell? ⟨w.heap.size, 0, none⟩ = some (.int .i64 k) ∧ W.cell? ⟨w.heap.size, 1, none⟩ = some (.int .i64 s) ∧ W.cell? ⟨w.heap.size, 2, none⟩ = some (.bool l) ∧ W.cell? ⟨w.heap.size, 3, none⟩ = some (.bool o) ∧ W.cell? ⟨w.heap.size, 4, none⟩ = some (.bool f) ∧ W.cell? ⟨w.heap.size + 1, 0, none⟩ = some (.int .i64 a) ∧ W.cell? ⟨w.heap.size + 1, 1, none⟩ = some (.int .i64 b) ∧ W.cell? ⟨w.heap.size + 1, 2, none⟩ = some (.int .i64 c) ∧ W.cell? ⟨w.heap.size + 1, 3, none⟩ = some (.int .i64 d)) ∧ Below w2.heap.size w2 W) (first | (with_reducible assumption) | (with_reducible refine keep9 ?_ (balloc _ _)); (with_reducible assumption) | (with_reducible refine keep9 ?_ (balloc _ _).drew); (with_reducible assumption) | (with_reducible refine keep9w hgl hhl ?_ (bset4 (by first | exact Nat.le_refl _ | exact S1.2.size | exact S2.2.size | exact S3.2.size) _ _ _ _ (Below.refl _ _))); (with_reducible assumption)) (first
      | (go_at_call 8; refine (toDoor_any _ k s l o f).mono ?_; rintro e u1 ⟨rfl, hb1⟩; have S1 := keep9 (by with_reducible assumption) hb1; (first | (replace mz := has_call mz hb1) | (have mz : Has u1 _ 27 #[.bool false, .bool false, .bool false, .bool false] := (by with_reducible exact has_call (has_new _ _ _) hb1)) | (have mz : Has u1 _ 27 #[.bool false, .bool false, .bool false, .bool false] := (by with_reducible exact has_call (has_drew (has_new _ _ _)) hb1)) | skip))
      | (go_at_call 9; refine (toFaults_any _ a b c d).mono ?_; rintro e u2 ⟨rfl, hb2⟩; have S2 := keep9 (by with_reducible assumption) hb2; (first | (replace mz := has_call mz hb2) | (have mz : Has u2 _ 27 #[.bool false, .bool false, .bool false, .bool false] := (by with_reducible exact has_call (has_new _ _ _) hb2)) | (have mz : Has u2 _ 27 #[.bool false, .bool false, .bool false, .bool false] := (by with_reducible exact has_call (has_drew (has_new _ _ _)) hb2)) | skip))
      | (go_at_call 7; refine (signsS_any _ k s l o f a b c d).mono ?_; rintro e u3 ⟨rfl, hb3⟩; rw [HV.out]; have S3 := keep9 (by with_reducible assumption) hb3; (first | (replace mz := has_call mz hb3) | (have mz : Has u3 _ 27 #[.bool false, .bool false, .bool false, .bool false] := (by with_reducible exact has_call (has_new _ _ _) hb3)) | (have mz : Has u3 _ 27 #[.bool false, .bool false, .bool false, .bool false] := (by with_reducible exact has_call (has_drew (has_new _ _ _)) hb3)) | skip); (first | (have z0 := has_cell mz 0 rfl; have f0 := has_free mz 0; have z1 := has_cell mz 1 rfl; have f1 := has_free mz 1; have z2 := has_cell mz 2 rfl; have f2 := has_free mz 2; have z3 := has_cell mz 3 rfl; have f3 := has_free mz 3; have ltz := has_lt mz; have MZ := Lib.hid mz) | skip)))
    all_goals (go_wp2_with fail)
    all_goals (go_meet; first | exact ⟨_, rfl, rfl, hset4 MZ.out _ _ _ _, bset4 (by first | exact Nat.le_refl _ | exact S1.2.size | exact S2.2.size | exact S3.2.size) _ _ _ _ S3.2⟩ | exact ⟨_, rfl, rfl, has_new _ _ _, S3.2.alloc S3.2.size _⟩)
  case rest =>
    rename World => w3
    obtain ⟨g1, rfl, rfl, hk, hb⟩ := hcut
    have za := ZAH.out; clear ZAH
    have zf := ZFH.out; clear ZFH
    have zb := ZB.out; clear ZB hgl hhl
    replace za := has_call za hb
    replace zf := has_call zf hb
    replace zb := bthen zb hb; clear hb
    have zr1 := hk; clear hk
    have ZAH := Lib.hid za; clear za
    have ZFH := Lib.hid zf; clear zf
    have ZR1H := Lib.hid zr1; clear zr1
    have ZB := Lib.hid zb; clear zb
    go_upto_region 2 with fail
    have za := ZAH.out; clear ZAH
    have zf := ZFH.out; clear ZFH
    have zr1 := ZR1H.out; clear ZR1H
    have zb := ZB.out; clear ZB
    have hgl := has_lt za; have hhl := has_lt zf
    have ZAH := Lib.hid za; clear za
    have ZFH := Lib.hid zf; clear zf
    have ZR1H := Lib.hid zr1; clear zr1
    have ZB := Lib.hid zb; clear zb
    go_cut [7, 8] (fun p0 p1 W => Cutsgs x1 x2 x3 x4 q1 w3 p0 p1 W)
    case first =>
      have S00 : (fun W : World => (W.cell? ⟨w.heap.size, 0, none⟩ = some (.int .i64 k) ∧ W.cell? ⟨w.heap.size, 1, none⟩ = some (.int .i64 s) ∧ W.cell? ⟨w.heap.size, 2, none⟩ = some (.bool l) ∧ W.cell? ⟨w.heap.size, 3, none⟩ = some (.bool o) ∧ W.cell? ⟨w.heap.size, 4, none⟩ = some (.bool f) ∧ W.cell? ⟨w.heap.size + 1, 0, none⟩ = some (.int .i64 a) ∧ W.cell? ⟨w.heap.size + 1, 1, none⟩ = some (.int .i64 b) ∧ W.cell? ⟨w.heap.size + 1, 2, none⟩ = some (.int .i64 c) ∧ W.cell? ⟨w.heap.size + 1, 3, none⟩ = some (.int .i64 d)) ∧ Below w3.heap.size w3 W) w3 := ⟨⟨has_cell ZAH.out 0 rfl, has_cell ZAH.out 1 rfl, has_cell ZAH.out 2 rfl, has_cell ZAH.out 3 rfl, has_cell ZAH.out 4 rfl, has_cell ZFH.out 0 rfl, has_cell ZFH.out 1 rfl, has_cell ZFH.out 2 rfl, has_cell ZFH.out 3 rfl⟩, Below.refl _ _⟩
      have S0 : (fun W : World => (W.cell? ⟨w.heap.size, 0, none⟩ = some (.int .i64 k) ∧ W.cell? ⟨w.heap.size, 1, none⟩ = some (.int .i64 s) ∧ W.cell? ⟨w.heap.size, 2, none⟩ = some (.bool l) ∧ W.cell? ⟨w.heap.size, 3, none⟩ = some (.bool o) ∧ W.cell? ⟨w.heap.size, 4, none⟩ = some (.bool f) ∧ W.cell? ⟨w.heap.size + 1, 0, none⟩ = some (.int .i64 a) ∧ W.cell? ⟨w.heap.size + 1, 1, none⟩ = some (.int .i64 b) ∧ W.cell? ⟨w.heap.size + 1, 2, none⟩ = some (.int .i64 c) ∧ W.cell? ⟨w.heap.size + 1, 3, none⟩ = some (.int .i64 d)) ∧ Below w3.heap.size w3 W) w3.drew := ⟨⟨has_cell ZAH.out 0 rfl, has_cell ZAH.out 1 rfl, has_cell ZAH.out 2 rfl, has_cell ZAH.out 3 rfl, has_cell ZAH.out 4 rfl, has_cell ZFH.out 0 rfl, has_cell ZFH.out 1 rfl, has_cell ZFH.out 2 rfl, has_cell ZFH.out 3 rfl⟩, (Below.refl _ _).drew⟩
      go_region_held3 (fun W : World => (W.cell? ⟨w.heap.size, 0, none⟩ = some (.int .i64 k) ∧ W.cell? ⟨w.heap.size, 1, none⟩ = some (.int .i64 s) ∧ W.cell? ⟨w.heap.size, 2, none⟩ = some (.bool l) ∧ W.cell? ⟨w.heap.size, 3, none⟩ = some (.bool o) ∧ W.cell? ⟨w.heap.size, 4, none⟩ = some (.bool f) ∧ W.cell? ⟨w.heap.size + 1, 0, none⟩ = some (.int .i64 a) ∧ W.cell? ⟨w.heap.size + 1, 1, none⟩ = some (.int .i64 b) ∧ W.cell? ⟨w.heap.size + 1, 2, none⟩ = some (.int .i64 c) ∧ W.cell? ⟨w.heap.size + 1, 3, none⟩ = some (.int .i64 d)) ∧ Below w3.heap.size w3 W) (first | (with_reducible assumption) | (with_reducible refine keep9 ?_ (balloc _ _)); (with_reducible assumption) | (with_reducible refine keep9 ?_ (balloc _ _).drew); (with_reducible assumption) | (with_reducible refine keep9w hgl hhl ?_ (bset4 (by first | exact Nat.le_refl _ | exact S1.2.size | exact S2.2.size | exact S3.2.size) _ _ _ _ (Below.refl _ _))); (with_reducible assumption)) (first
        | (go_at_call 8; refine (toDoor_any _ k s l o f).mono ?_; rintro e u1 ⟨rfl, hb1⟩; have S1 := keep9 (by with_reducible assumption) hb1; (first | (replace mz := has_call mz hb1) | (have mz : Has u1 _ 27 #[.bool false, .bool false, .bool false, .bool false] := (by with_reducible exact has_call (has_new _ _ _) hb1)) | (have mz : Has u1 _ 27 #[.bool false, .bool false, .bool false, .bool false] := (by with_reducible exact has_call (has_drew (has_new _ _ _)) hb1)) | skip))
        | (go_at_call 9; refine (toFaults_any _ a b c d).mono ?_; rintro e u2 ⟨rfl, hb2⟩; have S2 := keep9 (by with_reducible assumption) hb2; (first | (replace mz := has_call mz hb2) | (have mz : Has u2 _ 27 #[.bool false, .bool false, .bool false, .bool false] := (by with_reducible exact has_call (has_new _ _ _) hb2)) | (have mz : Has u2 _ 27 #[.bool false, .bool false, .bool false, .bool false] := (by with_reducible exact has_call (has_drew (has_new _ _ _)) hb2)) | skip))
        | (go_at_call 10; refine (signsI_any _ k s l o f a b c d).mono ?_; rintro e u3 ⟨rfl, hb3⟩; rw [HV.out]; have S3 := keep9 (by with_reducible assumption) hb3; (first | (replace mz := has_call mz hb3) | (have mz : Has u3 _ 27 #[.bool false, .bool false, .bool false, .bool false] := (by with_reducible exact has_call (has_new _ _ _) hb3)) | (have mz : Has u3 _ 27 #[.bool false, .bool false, .bool false, .bool false] := (by with_reducible exact has_call (has_drew (has_new _ _ _)) hb3)) | skip); (first | (have z0 := has_cell mz 0 rfl; have f0 := has_free mz 0; have z1 := has_cell mz 1 rfl; have f1 := has_free mz 1; have z2 := has_cell mz 2 rfl; have f2 := has_free mz 2; have z3 := has_cell mz 3 rfl; have f3 := has_free mz 3; have ltz := has_lt mz; have MZ := Lib.hid mz) | skip)))
      all_goals (go_wp2_with fail)
      all_goals (go_meet; first | exact ⟨_, rfl, rfl, hset4 MZ.out _ _ _ _, bset4 (by first | exact Nat.le_refl _ | exact S1.2.size | exact S2.2.size | exact S3.2.size) _ _ _ _ S3.2⟩ | exact ⟨_, rfl, rfl, has_new _ _ _, S3.2.alloc S3.2.size _⟩)
    case rest =>
      rename World => w4
      obtain ⟨g2, rfl, rfl, hk, hb⟩ := hcut
      have za := ZAH.out; clear ZAH
      have zf := ZFH.out; clear ZFH
      have zr1 := ZR1H.out; clear ZR1H
      have zb := ZB.out; clear ZB hgl hhl
      replace za := has_call za hb
      replace zf := has_call zf hb
      replace zr1 := has_call zr1 hb
      replace zb := bthen zb hb; clear hb
      have zr2 := hk; clear hk
      clear za
      clear zf
      have zr1c0 := has_cell zr1 0 rfl; have zr1c1 := has_cell zr1 1 rfl; have zr1c2 := has_cell zr1 2 rfl; have zr1c3 := has_cell zr1 3 rfl
      have zr1lt := has_lt zr1
      have zr2c0 := has_cell zr2 0 rfl; have zr2c1 := has_cell zr2 1 rfl; have zr2c2 := has_cell zr2 2 rfl; have zr2c3 := has_cell zr2 3 rfl
      have zr2lt := has_lt zr2
      have ZR1H := Lib.hid zr1; clear zr1
      have ZR2H := Lib.hid zr2; clear zr2
      have ZB := Lib.hid zb; clear zb
      go_wp2_with fail
      clear zr1c0 zr1c1 zr1c2 zr1c3 zr1lt zr2c0 zr2c1 zr2c2 zr2c3 zr2lt
      have zr1 := ZR1H.out; clear ZR1H
      have zr2 := ZR2H.out; clear ZR2H
      have zb := ZB.out; clear ZB
      refine (eqSigns_any _ x1 x2 x3 x4).mono ?_
      rintro e w5 ⟨rfl, hb⟩
      replace zr1 := has_call zr1 hb
      replace zr2 := has_call zr2 hb
      replace zb := bthen zb hb; clear hb
      have zr1c0 := has_cell zr1 0 rfl; have zr1c1 := has_cell zr1 1 rfl; have zr1c2 := has_cell zr1 2 rfl; have zr1c3 := has_cell zr1 3 rfl
      have zr1lt := has_lt zr1
      have zr2c0 := has_cell zr2 0 rfl; have zr2c1 := has_cell zr2 1 rfl; have zr2c2 := has_cell zr2 2 rfl; have zr2c3 := has_cell zr2 3 rfl
      have zr2lt := has_lt zr2
      have ZR1H := Lib.hid zr1; clear zr1
      have ZR2H := Lib.hid zr2; clear zr2
      have ZB := Lib.hid zb; clear zb
      go_wp2_with fail
      clear zr1c0 zr1c1 zr1c2 zr1c3 zr1lt zr2c0 zr2c1 zr2c2 zr2c3 zr2lt
      have zr1 := ZR1H.out; clear ZR1H
      have zr2 := ZR2H.out; clear ZR2H
      have zb := ZB.out; clear ZB
      go_ret
      exact ⟨rfl, zb⟩
end Go.Proofs.Ytdnlmbnllndflaa
