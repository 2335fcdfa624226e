/- Chapter 4: contracts of the steps of a door, the program. -/
import Derived.Test.YtaeonangkbhmgaaDorB
namespace Go.Proofs.Ytaeonangkbhmgaa
open Go.RowKit
set_option linter.unusedVariables false
set_option maxRecDepth 100000 in
set_option maxHeartbeats 2000000 in
theorem isCutI_any (w : World) (k s : Int) (l o f : Bool) : Calls Try.prog 47 #[.agg #[.int .i64 k, .int .i64 s, .bool l, .bool o, .bool f]] w fun e w' => e = .returned (.bool (isCutD ⟨k, s, l, o, f⟩)) ∧ Below w.heap.size w w' := by
  go_enter Try.func47, Try.ntmps47
  go_wp2_with (first
    | (go_at_call 12; refine (doorI_any _ _ _ _ _ _).mono ?_; rintro e w1 ⟨rfl, hb⟩; have m := has_call (has_new w _ _) hb; have e0 := has_cell m 0 rfl; have e1 := has_cell m 1 rfl; have e2 := has_cell m 2 rfl; have e3 := has_cell m 3 rfl; have e4 := has_cell m 4 rfl; have lt := has_lt m; have HM := Lib.hid hb; clear hb m))
  all_goals (go_ret; first
    | exact ⟨rbool (by clear HM; simp_all [isCutD, Dr.ok, bne]), bthen (balloc _ _) HM.out⟩)
set_option maxRecDepth 100000 in
set_option maxHeartbeats 8000000 in
theorem begI_any (w : World) (k s : Int) (l o f : Bool) (x : Int) : Calls Try.prog 9 #[.agg #[.int .i64 k, .int .i64 s, .bool l, .bool o, .bool f], .int .i64 x] w fun e w' => e = .returned (drB (begD ⟨k, s, l, o, f⟩ x)) ∧ Below w.heap.size w w' := by
  go_enter Try.func9, Try.ntmps9
  go_wp2_with fail
  generalize hW0 : ((w.alloc _).alloc _) = w0
  have b0 : Below w.heap.size w w0 := by rw [← hW0]; exact bthen (balloc _ _) (balloc _ _)
  have k0 : Has w0 w.heap.size 27 #[.int .i64 k, .int .i64 s, .bool l, .bool o, .bool f] := by rw [← hW0]; exact has_alloc (has_new _ _ _) _
  have k1 : Has w0 (w.heap.size + 1) 27 #[.int .i64 0, .int .i64 0, .bool false, .bool false, .bool false] := by rw [← hW0]; have := has_new (w.alloc (.cells #[.int .i64 k, .int .i64 s, .bool l, .bool o, .bool f] 27)) 27 #[.int .i64 0, .int .i64 0, .bool false, .bool false, .bool false]; simpa using this
  clear hW0
  refine (doorI_any _ k s l o f).mono ?_
  rintro e w1 ⟨rfl, hb1⟩
  have m0 := has_call k0 hb1; have m1 := has_call k1 hb1
  have C1 := Lib.hid (bthen b0 hb1); clear hb1 b0 k0 k1
  have e0 := has_cell m0 0 rfl; have e1 := has_cell m0 1 rfl; have e2 := has_cell m0 2 rfl; have e3 := has_cell m0 3 rfl; have e4 := has_cell m0 4 rfl
  have r0 := has_cell m1 0 rfl; have r1 := has_cell m1 1 rfl; have r2 := has_cell m1 2 rfl; have r3 := has_cell m1 3 rfl; have r4 := has_cell m1 4 rfl
  have f0 := has_free m0 0; have f1 := has_free m0 1; have f2 := has_free m0 2; have f3 := has_free m0 3; have f4 := has_free m0 4
  have g0 := has_free m1 0; have g1 := has_free m1 1; have g2 := has_free m1 2; have g3 := has_free m1 3; have g4 := has_free m1 4
  have lt := has_lt m0; have lt1 := has_lt m1; clear m0 m1
  go_wp2_with (first
    | (go_at_call 35; refine (kindI_any _ _).mono ?_; rintro e w2 ⟨rfl, hw⟩; rw [hw]; clear hw)
    | (go_at_call 36; refine (doneI_any _ _ _).mono ?_; rintro e w2 ⟨rfl, hw⟩; rw [hw]; clear hw))
  all_goals
    first
    | (refine bodyPost_ret (v := drB (begD ⟨k, s, l, o, f⟩ x)) ?_ rfl ⟨rfl, ?_⟩
       · clear C1; simp_all [results, Try.results9, go_sem, drB, Dr.A, Dr.ok, begD] <;> (unfold wrap64; omega)
       · repeat (first | (with_reducible exact C1.out) | (with_reducible refine Below.setCell ?_ (by first | exact Nat.le_refl _ | exact Nat.le_succ _) _)))
set_option maxRecDepth 100000 in
set_option maxHeartbeats 8000000 in
theorem advI_any (w : World) (k s : Int) (l o f : Bool) : Calls Try.prog 10 #[.agg #[.int .i64 k, .int .i64 s, .bool l, .bool o, .bool f]] w fun e w' => e = .returned (drB (advD ⟨k, s, l, o, f⟩)) ∧ Below w.heap.size w w' := by
  go_enter Try.func10, Try.ntmps10
  go_wp2_with fail
  generalize hW0 : ((w.alloc _).alloc _) = w0
  have b0 : Below w.heap.size w w0 := by rw [← hW0]; exact bthen (balloc _ _) (balloc _ _)
  have k0 : Has w0 w.heap.size 27 #[.int .i64 k, .int .i64 s, .bool l, .bool o, .bool f] := by rw [← hW0]; exact has_alloc (has_new _ _ _) _
  have k1 : Has w0 (w.heap.size + 1) 27 #[.int .i64 0, .int .i64 0, .bool false, .bool false, .bool false] := by rw [← hW0]; have := has_new (w.alloc (.cells #[.int .i64 k, .int .i64 s, .bool l, .bool o, .bool f] 27)) 27 #[.int .i64 0, .int .i64 0, .bool false, .bool false, .bool false]; simpa using this
  clear hW0
  refine (doorI_any _ k s l o f).mono ?_
  rintro e w1 ⟨rfl, hb1⟩
  have m0 := has_call k0 hb1; have m1 := has_call k1 hb1
  have C1 := Lib.hid (bthen b0 hb1); clear hb1 b0 k0 k1
  have e0 := has_cell m0 0 rfl; have e1 := has_cell m0 1 rfl; have e2 := has_cell m0 2 rfl; have e3 := has_cell m0 3 rfl; have e4 := has_cell m0 4 rfl
  have r0 := has_cell m1 0 rfl; have r1 := has_cell m1 1 rfl; have r2 := has_cell m1 2 rfl; have r3 := has_cell m1 3 rfl; have r4 := has_cell m1 4 rfl
  have f0 := has_free m0 0; have f1 := has_free m0 1; have f2 := has_free m0 2; have f3 := has_free m0 3; have f4 := has_free m0 4
  have g0 := has_free m1 0; have g1 := has_free m1 1; have g2 := has_free m1 2; have g3 := has_free m1 3; have g4 := has_free m1 4
  have lt := has_lt m0; have lt1 := has_lt m1; clear m0 m1
  go_wp2_with fail
  all_goals
    first
    | (exfalso; clear C1; have := fit_of (k := k) (s := s) (l := l) (o := o) (f := f); simp_all; done)
    | (refine bodyPost_ret (v := drB (advD ⟨k, s, l, o, f⟩)) ?_ rfl ⟨rfl, ?_⟩
       · clear C1; simp_all [results, Try.results10, go_sem, drB, Dr.A, Dr.ok, advD] <;> (unfold wrap64; omega)
       · repeat (first | (with_reducible exact C1.out) | (with_reducible refine Below.setCell ?_ (by first | exact Nat.le_refl _ | exact Nat.le_succ _) _)))
set_option maxRecDepth 100000 in
set_option maxHeartbeats 8000000 in
theorem relI_any (w : World) (k s : Int) (l o f : Bool) : Calls Try.prog 13 #[.agg #[.int .i64 k, .int .i64 s, .bool l, .bool o, .bool f]] w fun e w' => e = .returned (drB (relD ⟨k, s, l, o, f⟩)) ∧ Below w.heap.size w w' := by
  go_enter Try.func13, Try.ntmps13
  go_wp2_with fail
  generalize hW0 : ((w.alloc _).alloc _) = w0
  have b0 : Below w.heap.size w w0 := by rw [← hW0]; exact bthen (balloc _ _) (balloc _ _)
  have k0 : Has w0 w.heap.size 27 #[.int .i64 k, .int .i64 s, .bool l, .bool o, .bool f] := by rw [← hW0]; exact has_alloc (has_new _ _ _) _
  have k1 : Has w0 (w.heap.size + 1) 27 #[.int .i64 0, .int .i64 0, .bool false, .bool false, .bool false] := by rw [← hW0]; have := has_new (w.alloc (.cells #[.int .i64 k, .int .i64 s, .bool l, .bool o, .bool f] 27)) 27 #[.int .i64 0, .int .i64 0, .bool false, .bool false, .bool false]; simpa using this
  clear hW0
  refine (doorI_any _ k s l o f).mono ?_
  rintro e w1 ⟨rfl, hb1⟩
  have m0 := has_call k0 hb1; have m1 := has_call k1 hb1
  have C1 := Lib.hid (bthen b0 hb1); clear hb1 b0 k0 k1
  have e0 := has_cell m0 0 rfl; have e1 := has_cell m0 1 rfl; have e2 := has_cell m0 2 rfl; have e3 := has_cell m0 3 rfl; have e4 := has_cell m0 4 rfl
  have r0 := has_cell m1 0 rfl; have r1 := has_cell m1 1 rfl; have r2 := has_cell m1 2 rfl; have r3 := has_cell m1 3 rfl; have r4 := has_cell m1 4 rfl
  have f0 := has_free m0 0; have f1 := has_free m0 1; have f2 := has_free m0 2; have f3 := has_free m0 3; have f4 := has_free m0 4
  have g0 := has_free m1 0; have g1 := has_free m1 1; have g2 := has_free m1 2; have g3 := has_free m1 3; have g4 := has_free m1 4
  have lt := has_lt m0; have lt1 := has_lt m1; clear m0 m1
  go_wp2_with fail
  all_goals
    first
    | (refine bodyPost_ret (v := drB (relD ⟨k, s, l, o, f⟩)) ?_ rfl ⟨rfl, ?_⟩
       · clear C1; simp_all [results, Try.results13, go_sem, drB, Dr.A, Dr.ok, relD] <;> (unfold wrap64; omega)
       · repeat (first | (with_reducible exact C1.out) | (with_reducible refine Below.setCell ?_ (by first | exact Nat.le_refl _ | exact Nat.le_succ _) _)))
set_option maxRecDepth 100000 in
set_option maxHeartbeats 8000000 in
theorem cutI_any (w : World) (k s : Int) (l o f : Bool) : Calls Try.prog 55 #[.agg #[.int .i64 k, .int .i64 s, .bool l, .bool o, .bool f]] w fun e w' => e = .returned (.agg (cutD ⟨k, s, l, o, f⟩).A) ∧ Below w.heap.size w w' := by
  go_enter Try.func55, Try.ntmps55
  go_wp2_with fail
  generalize hW0 : ((w.alloc _).alloc _) = w0
  have b0 : Below w.heap.size w w0 := by rw [← hW0]; exact bthen (balloc _ _) (balloc _ _)
  have k0 : Has w0 w.heap.size 27 #[.int .i64 k, .int .i64 s, .bool l, .bool o, .bool f] := by rw [← hW0]; exact has_alloc (has_new _ _ _) _
  have k1 : Has w0 (w.heap.size + 1) 27 #[.int .i64 0, .int .i64 0, .bool false, .bool false, .bool false] := by rw [← hW0]; have := has_new (w.alloc (.cells #[.int .i64 k, .int .i64 s, .bool l, .bool o, .bool f] 27)) 27 #[.int .i64 0, .int .i64 0, .bool false, .bool false, .bool false]; simpa using this
  clear hW0
  refine (doorI_any _ k s l o f).mono ?_
  rintro e w1 ⟨rfl, hb1⟩
  have m0 := has_call k0 hb1; have m1 := has_call k1 hb1
  have C1 := Lib.hid (bthen b0 hb1); clear hb1 b0 k0 k1
  have e0 := has_cell m0 0 rfl; have e1 := has_cell m0 1 rfl; have e2 := has_cell m0 2 rfl; have e3 := has_cell m0 3 rfl; have e4 := has_cell m0 4 rfl
  have r0 := has_cell m1 0 rfl; have r1 := has_cell m1 1 rfl; have r2 := has_cell m1 2 rfl; have r3 := has_cell m1 3 rfl; have r4 := has_cell m1 4 rfl
  have f0 := has_free m0 0; have f1 := has_free m0 1; have f2 := has_free m0 2; have f3 := has_free m0 3; have f4 := has_free m0 4
  have g0 := has_free m1 0; have g1 := has_free m1 1; have g2 := has_free m1 2; have g3 := has_free m1 3; have g4 := has_free m1 4
  have lt := has_lt m0; have lt1 := has_lt m1; clear m0 m1
  go_wp2_with fail
  all_goals
    first
    | (refine bodyPost_ret (v := .agg (cutD ⟨k, s, l, o, f⟩).A) ?_ rfl ⟨rfl, ?_⟩
       · clear C1; simp_all [results, Try.results55, go_sem, drB, Dr.A, Dr.ok, cutD] <;> (unfold wrap64; omega)
       · repeat (first | (with_reducible exact C1.out) | (with_reducible refine Below.setCell ?_ (by first | exact Nat.le_refl _ | exact Nat.le_succ _) _)))
set_option maxRecDepth 100000 in
set_option maxHeartbeats 8000000 in
theorem handI_any (w : World) (k s : Int) (l o f : Bool) (x : Int) : Calls Try.prog 56 #[.agg #[.int .i64 k, .int .i64 s, .bool l, .bool o, .bool f], .int .i64 x] w fun e w' => e = .returned (drB (handD ⟨k, s, l, o, f⟩ x)) ∧ Below w.heap.size w w' := by
  go_enter Try.func56, Try.ntmps56
  go_wp2_with fail
  generalize hW0 : ((w.alloc _).alloc _) = w0
  have b0 : Below w.heap.size w w0 := by rw [← hW0]; exact bthen (balloc _ _) (balloc _ _)
  have k0 : Has w0 w.heap.size 27 #[.int .i64 k, .int .i64 s, .bool l, .bool o, .bool f] := by rw [← hW0]; exact has_alloc (has_new _ _ _) _
  have k1 : Has w0 (w.heap.size + 1) 27 #[.int .i64 0, .int .i64 0, .bool false, .bool false, .bool false] := by rw [← hW0]; have := has_new (w.alloc (.cells #[.int .i64 k, .int .i64 s, .bool l, .bool o, .bool f] 27)) 27 #[.int .i64 0, .int .i64 0, .bool false, .bool false, .bool false]; simpa using this
  clear hW0
  refine (isCutI_any _ k s l o f).mono ?_
  rintro e w1 ⟨rfl, hb1⟩
  have m0 := has_call k0 hb1; have m1 := has_call k1 hb1
  have C1 := Lib.hid (bthen b0 hb1); clear hb1 b0 k0 k1
  have e0 := has_cell m0 0 rfl; have e1 := has_cell m0 1 rfl; have e2 := has_cell m0 2 rfl; have e3 := has_cell m0 3 rfl; have e4 := has_cell m0 4 rfl
  have r0 := has_cell m1 0 rfl; have r1 := has_cell m1 1 rfl; have r2 := has_cell m1 2 rfl; have r3 := has_cell m1 3 rfl; have r4 := has_cell m1 4 rfl
  have f0 := has_free m0 0; have f1 := has_free m0 1; have f2 := has_free m0 2; have f3 := has_free m0 3; have f4 := has_free m0 4
  have g0 := has_free m1 0; have g1 := has_free m1 1; have g2 := has_free m1 2; have g3 := has_free m1 3; have g4 := has_free m1 4
  have lt := has_lt m0; have lt1 := has_lt m1; clear m0 m1
  go_wp2_with fail
  all_goals
    first
    | (refine bodyPost_ret (v := drB (handD ⟨k, s, l, o, f⟩ x)) ?_ rfl ⟨rfl, ?_⟩
       · clear C1; simp_all [results, Try.results56, go_sem, drB, Dr.A, Dr.ok, handD] <;> (unfold wrap64; omega)
       · repeat (first | (with_reducible exact C1.out) | (with_reducible refine Below.setCell ?_ (by first | exact Nat.le_refl _ | exact Nat.le_succ _) _)))
end Go.Proofs.Ytaeonangkbhmgaa
