/- Chapter 4: contracts of one act, both sides. -/
import Derived.Test.YtaeonangkbhmgaaDorF
namespace Go.Proofs.Ytaeonangkbhmgaa
open Go.RowKit
set_option linter.unusedVariables false
def actD (d : Dr) (a : Int) : Dr :=
  if a = 1 then (advD d).1 else if a = 2 then (relD d).1 else if a = 3 then cutD d else if a = 4 then (handD d 1).1 else if a = 5 then (handD d 2).1 else if a = 6 then (handD d 3).1
  else if a = 7 then (recD d 0 0 0 0).1 else if a = 8 then (begD d 1).1 else if a = 9 then (begD d 2).1 else d
set_option maxRecDepth 100000 in
set_option maxHeartbeats 2000000 in
theorem actI_1 (w : World) (k s : Int) (l o f : Bool) : Calls Try.prog 42 #[.agg #[.int .i64 k, .int .i64 s, .bool l, .bool o, .bool f], .int .i64 1] w fun e w' => e = .returned (.agg (actD ⟨k, s, l, o, f⟩ 1).A) ∧ Below w.heap.size w w' := by
  obtain ⟨k', s', l', o', f', q, hX⟩ : ∃ k' s' l' o' f' q, advD ⟨k, s, l, o, f⟩ = (⟨k', s', l', o', f'⟩, q) := ⟨_, _, _, _, _, _, rfl⟩
  have HV := Lib.hid (show drB (advD ⟨k, s, l, o, f⟩) = .tuple #[.agg #[.int .i64 k', .int .i64 s', .bool l', .bool o', .bool f'], .bool q] by rw [hX]; rfl)
  have HE := Lib.hid (show actD ⟨k, s, l, o, f⟩ 1 = ⟨k', s', l', o', f'⟩ by show (advD ⟨k, s, l, o, f⟩).1 = _; rw [hX])
  clear hX
  go_enter Try.func42, Try.ntmps42
  go_wp2_with fail
  generalize hX : (w.alloc (.cells #[.int .i64 k, .int .i64 s, .bool l, .bool o, .bool f] 27)) = w1
  have hb : Below w.heap.size w w1 := by rw [← hX]; exact balloc _ _
  have hk : Has w1 w.heap.size 27 #[.int .i64 k, .int .i64 s, .bool l, .bool o, .bool f] := by rw [← hX]; exact has_new _ _ _
  have hzw1 : w1.heap.size = w.heap.size + 1 := by rw [← hX]; simp
  clear hX
  have zb := hb; clear hb
  have za := hk; clear hk
  generalize hX : (w1.alloc (.cells #[.int .i64 0, .int .i64 0, .bool false, .bool false, .bool false] 27)) = w2
  have hb : Below w1.heap.size w1 w2 := by rw [← hX]; exact balloc _ _
  have hk : Has w2 w1.heap.size 27 #[.int .i64 0, .int .i64 0, .bool false, .bool false, .bool false] := by rw [← hX]; exact has_new _ _ _
  have hzw2 : w2.heap.size = w.heap.size + 2 := by rw [← hX]; simp [hzw1]
  clear hX
  rw [hzw1] at hk
  replace za := has_call za hb
  replace zb := bthen zb hb; clear hb
  have zr := hk; clear hk
  clear hzw1 hzw2
  refine (advI_any _ k s l o f).mono ?_
  rintro e w3 ⟨rfl, hb⟩
  rw [HV.out]
  replace za := has_call za hb
  replace zr := has_call zr hb
  replace zb := bthen zb hb; clear hb
  have zac0 := has_cell za 0 rfl; have zac1 := has_cell za 1 rfl; have zac2 := has_cell za 2 rfl; have zac3 := has_cell za 3 rfl; have zac4 := has_cell za 4 rfl
  have zaf0 := has_free za 0; have zaf1 := has_free za 1; have zaf2 := has_free za 2; have zaf3 := has_free za 3; have zaf4 := has_free za 4
  have zalt := has_lt za
  have zrc0 := has_cell zr 0 rfl; have zrc1 := has_cell zr 1 rfl; have zrc2 := has_cell zr 2 rfl; have zrc3 := has_cell zr 3 rfl; have zrc4 := has_cell zr 4 rfl
  have zrf0 := has_free zr 0; have zrf1 := has_free zr 1; have zrf2 := has_free zr 2; have zrf3 := has_free zr 3; have zrf4 := has_free zr 4
  have zrlt := has_lt zr
  have ZAH := Lib.hid za; clear za
  have ZRH := Lib.hid zr; clear zr
  have ZB := Lib.hid zb; clear zb
  go_wp2_with fail
  refine bodyPost_ret (v := .agg #[.int .i64 k', .int .i64 s', .bool l', .bool o', .bool f']) (by simp [results, Try.results42, go_sem, zac0, zac1, zac2, zac3, zac4, zaf0, zaf1, zaf2, zaf3, zaf4, zalt, zrc0, zrc1, zrc2, zrc3, zrc4, zrf0, zrf1, zrf2, zrf3, zrf4, zrlt]) rfl ⟨retv (by rw [HE.out]; rfl), ?_⟩
  repeat (first | (with_reducible exact ZB.out) | (with_reducible refine Below.alloc ?_ (by have h9 := ZB.out.size; simp <;> omega) _) | (with_reducible refine Below.drew ?_) | (with_reducible refine Below.setCell ?_ (by first | exact Nat.le_refl _ | exact Nat.le_add_right _ _ | (simp <;> omega)) _))
set_option maxRecDepth 100000 in
set_option maxHeartbeats 2000000 in
theorem actI_2 (w : World) (k s : Int) (l o f : Bool) : Calls Try.prog 42 #[.agg #[.int .i64 k, .int .i64 s, .bool l, .bool o, .bool f], .int .i64 2] w fun e w' => e = .returned (.agg (actD ⟨k, s, l, o, f⟩ 2).A) ∧ Below w.heap.size w w' := by
  obtain ⟨k', s', l', o', f', q, hX⟩ : ∃ k' s' l' o' f' q, relD ⟨k, s, l, o, f⟩ = (⟨k', s', l', o', f'⟩, q) := ⟨_, _, _, _, _, _, rfl⟩
  have HV := Lib.hid (show drB (relD ⟨k, s, l, o, f⟩) = .tuple #[.agg #[.int .i64 k', .int .i64 s', .bool l', .bool o', .bool f'], .bool q] by rw [hX]; rfl)
  have HE := Lib.hid (show actD ⟨k, s, l, o, f⟩ 2 = ⟨k', s', l', o', f'⟩ by show (relD ⟨k, s, l, o, f⟩).1 = _; rw [hX])
  clear hX
  go_enter Try.func42, Try.ntmps42
  go_wp2_with fail
  generalize hX : (w.alloc (.cells #[.int .i64 k, .int .i64 s, .bool l, .bool o, .bool f] 27)) = w1
  have hb : Below w.heap.size w w1 := by rw [← hX]; exact balloc _ _
  have hk : Has w1 w.heap.size 27 #[.int .i64 k, .int .i64 s, .bool l, .bool o, .bool f] := by rw [← hX]; exact has_new _ _ _
  have hzw1 : w1.heap.size = w.heap.size + 1 := by rw [← hX]; simp
  clear hX
  have zb := hb; clear hb
  have za := hk; clear hk
  generalize hX : (w1.alloc (.cells #[.int .i64 0, .int .i64 0, .bool false, .bool false, .bool false] 27)) = w2
  have hb : Below w1.heap.size w1 w2 := by rw [← hX]; exact balloc _ _
  have hk : Has w2 w1.heap.size 27 #[.int .i64 0, .int .i64 0, .bool false, .bool false, .bool false] := by rw [← hX]; exact has_new _ _ _
  have hzw2 : w2.heap.size = w.heap.size + 2 := by rw [← hX]; simp [hzw1]
  clear hX
  rw [hzw1] at hk
  replace za := has_call za hb
  replace zb := bthen zb hb; clear hb
  have zr := hk; clear hk
  clear hzw1 hzw2
  refine (relI_any _ k s l o f).mono ?_
  rintro e w3 ⟨rfl, hb⟩
  rw [HV.out]
  replace za := has_call za hb
  replace zr := has_call zr hb
  replace zb := bthen zb hb; clear hb
  have zac0 := has_cell za 0 rfl; have zac1 := has_cell za 1 rfl; have zac2 := has_cell za 2 rfl; have zac3 := has_cell za 3 rfl; have zac4 := has_cell za 4 rfl
  have zaf0 := has_free za 0; have zaf1 := has_free za 1; have zaf2 := has_free za 2; have zaf3 := has_free za 3; have zaf4 := has_free za 4
  have zalt := has_lt za
  have zrc0 := has_cell zr 0 rfl; have zrc1 := has_cell zr 1 rfl; have zrc2 := has_cell zr 2 rfl; have zrc3 := has_cell zr 3 rfl; have zrc4 := has_cell zr 4 rfl
  have zrf0 := has_free zr 0; have zrf1 := has_free zr 1; have zrf2 := has_free zr 2; have zrf3 := has_free zr 3; have zrf4 := has_free zr 4
  have zrlt := has_lt zr
  have ZAH := Lib.hid za; clear za
  have ZRH := Lib.hid zr; clear zr
  have ZB := Lib.hid zb; clear zb
  go_wp2_with fail
  refine bodyPost_ret (v := .agg #[.int .i64 k', .int .i64 s', .bool l', .bool o', .bool f']) (by simp [results, Try.results42, go_sem, zac0, zac1, zac2, zac3, zac4, zaf0, zaf1, zaf2, zaf3, zaf4, zalt, zrc0, zrc1, zrc2, zrc3, zrc4, zrf0, zrf1, zrf2, zrf3, zrf4, zrlt]) rfl ⟨retv (by rw [HE.out]; rfl), ?_⟩
  repeat (first | (with_reducible exact ZB.out) | (with_reducible refine Below.alloc ?_ (by have h9 := ZB.out.size; simp <;> omega) _) | (with_reducible refine Below.drew ?_) | (with_reducible refine Below.setCell ?_ (by first | exact Nat.le_refl _ | exact Nat.le_add_right _ _ | (simp <;> omega)) _))
set_option maxRecDepth 100000 in
set_option maxHeartbeats 2000000 in
theorem actI_3 (w : World) (k s : Int) (l o f : Bool) : Calls Try.prog 42 #[.agg #[.int .i64 k, .int .i64 s, .bool l, .bool o, .bool f], .int .i64 3] w fun e w' => e = .returned (.agg (actD ⟨k, s, l, o, f⟩ 3).A) ∧ Below w.heap.size w w' := by
  obtain ⟨k', s', l', o', f', hX⟩ : ∃ k' s' l' o' f', cutD ⟨k, s, l, o, f⟩ = ⟨k', s', l', o', f'⟩ := ⟨_, _, _, _, _, rfl⟩
  have HV := Lib.hid (show Value.agg (cutD ⟨k, s, l, o, f⟩).A = .agg #[.int .i64 k', .int .i64 s', .bool l', .bool o', .bool f'] by rw [hX]; rfl)
  have HE := Lib.hid (show actD ⟨k, s, l, o, f⟩ 3 = ⟨k', s', l', o', f'⟩ by show cutD ⟨k, s, l, o, f⟩ = _; rw [hX])
  clear hX
  go_enter Try.func42, Try.ntmps42
  go_wp2_with fail
  generalize hX : (w.alloc (.cells #[.int .i64 k, .int .i64 s, .bool l, .bool o, .bool f] 27)) = w1
  have hb : Below w.heap.size w w1 := by rw [← hX]; exact balloc _ _
  have hk : Has w1 w.heap.size 27 #[.int .i64 k, .int .i64 s, .bool l, .bool o, .bool f] := by rw [← hX]; exact has_new _ _ _
  have hzw1 : w1.heap.size = w.heap.size + 1 := by rw [← hX]; simp
  clear hX
  have zb := hb; clear hb
  have za := hk; clear hk
  generalize hX : (w1.alloc (.cells #[.int .i64 0, .int .i64 0, .bool false, .bool false, .bool false] 27)) = w2
  have hb : Below w1.heap.size w1 w2 := by rw [← hX]; exact balloc _ _
  have hk : Has w2 w1.heap.size 27 #[.int .i64 0, .int .i64 0, .bool false, .bool false, .bool false] := by rw [← hX]; exact has_new _ _ _
  have hzw2 : w2.heap.size = w.heap.size + 2 := by rw [← hX]; simp [hzw1]
  clear hX
  rw [hzw1] at hk
  replace za := has_call za hb
  replace zb := bthen zb hb; clear hb
  have zr := hk; clear hk
  clear hzw1 hzw2
  refine (cutI_any _ k s l o f).mono ?_
  rintro e w3 ⟨rfl, hb⟩
  rw [HV.out]
  replace za := has_call za hb
  replace zr := has_call zr hb
  replace zb := bthen zb hb; clear hb
  have zac0 := has_cell za 0 rfl; have zac1 := has_cell za 1 rfl; have zac2 := has_cell za 2 rfl; have zac3 := has_cell za 3 rfl; have zac4 := has_cell za 4 rfl
  have zaf0 := has_free za 0; have zaf1 := has_free za 1; have zaf2 := has_free za 2; have zaf3 := has_free za 3; have zaf4 := has_free za 4
  have zalt := has_lt za
  have zrc0 := has_cell zr 0 rfl; have zrc1 := has_cell zr 1 rfl; have zrc2 := has_cell zr 2 rfl; have zrc3 := has_cell zr 3 rfl; have zrc4 := has_cell zr 4 rfl
  have zrf0 := has_free zr 0; have zrf1 := has_free zr 1; have zrf2 := has_free zr 2; have zrf3 := has_free zr 3; have zrf4 := has_free zr 4
  have zrlt := has_lt zr
  have ZAH := Lib.hid za; clear za
  have ZRH := Lib.hid zr; clear zr
  have ZB := Lib.hid zb; clear zb
  go_wp2_with fail
  refine bodyPost_ret (v := .agg #[.int .i64 k', .int .i64 s', .bool l', .bool o', .bool f']) (by simp [results, Try.results42, go_sem, zac0, zac1, zac2, zac3, zac4, zaf0, zaf1, zaf2, zaf3, zaf4, zalt, zrc0, zrc1, zrc2, zrc3, zrc4, zrf0, zrf1, zrf2, zrf3, zrf4, zrlt]) rfl ⟨retv (by rw [HE.out]; rfl), ?_⟩
  repeat (first | (with_reducible exact ZB.out) | (with_reducible refine Below.alloc ?_ (by have h9 := ZB.out.size; simp <;> omega) _) | (with_reducible refine Below.drew ?_) | (with_reducible refine Below.setCell ?_ (by first | exact Nat.le_refl _ | exact Nat.le_add_right _ _ | (simp <;> omega)) _))
set_option maxRecDepth 100000 in
set_option maxHeartbeats 2000000 in
theorem actI_4 (w : World) (k s : Int) (l o f : Bool) : Calls Try.prog 42 #[.agg #[.int .i64 k, .int .i64 s, .bool l, .bool o, .bool f], .int .i64 4] w fun e w' => e = .returned (.agg (actD ⟨k, s, l, o, f⟩ 4).A) ∧ Below w.heap.size w w' := by
  obtain ⟨k', s', l', o', f', q, hX⟩ : ∃ k' s' l' o' f' q, handD ⟨k, s, l, o, f⟩ 1 = (⟨k', s', l', o', f'⟩, q) := ⟨_, _, _, _, _, _, rfl⟩
  have HV := Lib.hid (show drB (handD ⟨k, s, l, o, f⟩ 1) = .tuple #[.agg #[.int .i64 k', .int .i64 s', .bool l', .bool o', .bool f'], .bool q] by rw [hX]; rfl)
  have HE := Lib.hid (show actD ⟨k, s, l, o, f⟩ 4 = ⟨k', s', l', o', f'⟩ by show (handD ⟨k, s, l, o, f⟩ 1).1 = _; rw [hX])
  clear hX
  go_enter Try.func42, Try.ntmps42
  go_wp2_with fail
  generalize hX : (w.alloc (.cells #[.int .i64 k, .int .i64 s, .bool l, .bool o, .bool f] 27)) = w1
  have hb : Below w.heap.size w w1 := by rw [← hX]; exact balloc _ _
  have hk : Has w1 w.heap.size 27 #[.int .i64 k, .int .i64 s, .bool l, .bool o, .bool f] := by rw [← hX]; exact has_new _ _ _
  have hzw1 : w1.heap.size = w.heap.size + 1 := by rw [← hX]; simp
  clear hX
  have zb := hb; clear hb
  have za := hk; clear hk
  generalize hX : (w1.alloc (.cells #[.int .i64 0, .int .i64 0, .bool false, .bool false, .bool false] 27)) = w2
  have hb : Below w1.heap.size w1 w2 := by rw [← hX]; exact balloc _ _
  have hk : Has w2 w1.heap.size 27 #[.int .i64 0, .int .i64 0, .bool false, .bool false, .bool false] := by rw [← hX]; exact has_new _ _ _
  have hzw2 : w2.heap.size = w.heap.size + 2 := by rw [← hX]; simp [hzw1]
  clear hX
  rw [hzw1] at hk
  replace za := has_call za hb
  replace zb := bthen zb hb; clear hb
  have zr := hk; clear hk
  clear hzw1 hzw2
  refine (handI_any _ k s l o f 1).mono ?_
  rintro e w3 ⟨rfl, hb⟩
  rw [HV.out]
  replace za := has_call za hb
  replace zr := has_call zr hb
  replace zb := bthen zb hb; clear hb
  have zac0 := has_cell za 0 rfl; have zac1 := has_cell za 1 rfl; have zac2 := has_cell za 2 rfl; have zac3 := has_cell za 3 rfl; have zac4 := has_cell za 4 rfl
  have zaf0 := has_free za 0; have zaf1 := has_free za 1; have zaf2 := has_free za 2; have zaf3 := has_free za 3; have zaf4 := has_free za 4
  have zalt := has_lt za
  have zrc0 := has_cell zr 0 rfl; have zrc1 := has_cell zr 1 rfl; have zrc2 := has_cell zr 2 rfl; have zrc3 := has_cell zr 3 rfl; have zrc4 := has_cell zr 4 rfl
  have zrf0 := has_free zr 0; have zrf1 := has_free zr 1; have zrf2 := has_free zr 2; have zrf3 := has_free zr 3; have zrf4 := has_free zr 4
  have zrlt := has_lt zr
  have ZAH := Lib.hid za; clear za
  have ZRH := Lib.hid zr; clear zr
  have ZB := Lib.hid zb; clear zb
  go_wp2_with fail
  refine bodyPost_ret (v := .agg #[.int .i64 k', .int .i64 s', .bool l', .bool o', .bool f']) (by simp [results, Try.results42, go_sem, zac0, zac1, zac2, zac3, zac4, zaf0, zaf1, zaf2, zaf3, zaf4, zalt, zrc0, zrc1, zrc2, zrc3, zrc4, zrf0, zrf1, zrf2, zrf3, zrf4, zrlt]) rfl ⟨retv (by rw [HE.out]; rfl), ?_⟩
  repeat (first | (with_reducible exact ZB.out) | (with_reducible refine Below.alloc ?_ (by have h9 := ZB.out.size; simp <;> omega) _) | (with_reducible refine Below.drew ?_) | (with_reducible refine Below.setCell ?_ (by first | exact Nat.le_refl _ | exact Nat.le_add_right _ _ | (simp <;> omega)) _))
set_option maxRecDepth 100000 in
set_option maxHeartbeats 2000000 in
theorem actI_5 (w : World) (k s : Int) (l o f : Bool) : Calls Try.prog 42 #[.agg #[.int .i64 k, .int .i64 s, .bool l, .bool o, .bool f], .int .i64 5] w fun e w' => e = .returned (.agg (actD ⟨k, s, l, o, f⟩ 5).A) ∧ Below w.heap.size w w' := by
  obtain ⟨k', s', l', o', f', q, hX⟩ : ∃ k' s' l' o' f' q, handD ⟨k, s, l, o, f⟩ 2 = (⟨k', s', l', o', f'⟩, q) := ⟨_, _, _, _, _, _, rfl⟩
  have HV := Lib.hid (show drB (handD ⟨k, s, l, o, f⟩ 2) = .tuple #[.agg #[.int .i64 k', .int .i64 s', .bool l', .bool o', .bool f'], .bool q] by rw [hX]; rfl)
  have HE := Lib.hid (show actD ⟨k, s, l, o, f⟩ 5 = ⟨k', s', l', o', f'⟩ by show (handD ⟨k, s, l, o, f⟩ 2).1 = _; rw [hX])
  clear hX
  go_enter Try.func42, Try.ntmps42
  go_wp2_with fail
  generalize hX : (w.alloc (.cells #[.int .i64 k, .int .i64 s, .bool l, .bool o, .bool f] 27)) = w1
  have hb : Below w.heap.size w w1 := by rw [← hX]; exact balloc _ _
  have hk : Has w1 w.heap.size 27 #[.int .i64 k, .int .i64 s, .bool l, .bool o, .bool f] := by rw [← hX]; exact has_new _ _ _
  have hzw1 : w1.heap.size = w.heap.size + 1 := by rw [← hX]; simp
  clear hX
  have zb := hb; clear hb
  have za := hk; clear hk
  generalize hX : (w1.alloc (.cells #[.int .i64 0, .int .i64 0, .bool false, .bool false, .bool false] 27)) = w2
  have hb : Below w1.heap.size w1 w2 := by rw [← hX]; exact balloc _ _
  have hk : Has w2 w1.heap.size 27 #[.int .i64 0, .int .i64 0, .bool false, .bool false, .bool false] := by rw [← hX]; exact has_new _ _ _
  have hzw2 : w2.heap.size = w.heap.size + 2 := by rw [← hX]; simp [hzw1]
  clear hX
  rw [hzw1] at hk
  replace za := has_call za hb
  replace zb := bthen zb hb; clear hb
  have zr := hk; clear hk
  clear hzw1 hzw2
  refine (handI_any _ k s l o f 2).mono ?_
  rintro e w3 ⟨rfl, hb⟩
  rw [HV.out]
  replace za := has_call za hb
  replace zr := has_call zr hb
  replace zb := bthen zb hb; clear hb
  have zac0 := has_cell za 0 rfl; have zac1 := has_cell za 1 rfl; have zac2 := has_cell za 2 rfl; have zac3 := has_cell za 3 rfl; have zac4 := has_cell za 4 rfl
  have zaf0 := has_free za 0; have zaf1 := has_free za 1; have zaf2 := has_free za 2; have zaf3 := has_free za 3; have zaf4 := has_free za 4
  have zalt := has_lt za
  have zrc0 := has_cell zr 0 rfl; have zrc1 := has_cell zr 1 rfl; have zrc2 := has_cell zr 2 rfl; have zrc3 := has_cell zr 3 rfl; have zrc4 := has_cell zr 4 rfl
  have zrf0 := has_free zr 0; have zrf1 := has_free zr 1; have zrf2 := has_free zr 2; have zrf3 := has_free zr 3; have zrf4 := has_free zr 4
  have zrlt := has_lt zr
  have ZAH := Lib.hid za; clear za
  have ZRH := Lib.hid zr; clear zr
  have ZB := Lib.hid zb; clear zb
  go_wp2_with fail
  refine bodyPost_ret (v := .agg #[.int .i64 k', .int .i64 s', .bool l', .bool o', .bool f']) (by simp [results, Try.results42, go_sem, zac0, zac1, zac2, zac3, zac4, zaf0, zaf1, zaf2, zaf3, zaf4, zalt, zrc0, zrc1, zrc2, zrc3, zrc4, zrf0, zrf1, zrf2, zrf3, zrf4, zrlt]) rfl ⟨retv (by rw [HE.out]; rfl), ?_⟩
  repeat (first | (with_reducible exact ZB.out) | (with_reducible refine Below.alloc ?_ (by have h9 := ZB.out.size; simp <;> omega) _) | (with_reducible refine Below.drew ?_) | (with_reducible refine Below.setCell ?_ (by first | exact Nat.le_refl _ | exact Nat.le_add_right _ _ | (simp <;> omega)) _))
set_option maxRecDepth 100000 in
set_option maxHeartbeats 2000000 in
theorem actI_6 (w : World) (k s : Int) (l o f : Bool) : Calls Try.prog 42 #[.agg #[.int .i64 k, .int .i64 s, .bool l, .bool o, .bool f], .int .i64 6] w fun e w' => e = .returned (.agg (actD ⟨k, s, l, o, f⟩ 6).A) ∧ Below w.heap.size w w' := by
  obtain ⟨k', s', l', o', f', q, hX⟩ : ∃ k' s' l' o' f' q, handD ⟨k, s, l, o, f⟩ 3 = (⟨k', s', l', o', f'⟩, q) := ⟨_, _, _, _, _, _, rfl⟩
  have HV := Lib.hid (show drB (handD ⟨k, s, l, o, f⟩ 3) = .tuple #[.agg #[.int .i64 k', .int .i64 s', .bool l', .bool o', .bool f'], .bool q] by rw [hX]; rfl)
  have HE := Lib.hid (show actD ⟨k, s, l, o, f⟩ 6 = ⟨k', s', l', o', f'⟩ by show (handD ⟨k, s, l, o, f⟩ 3).1 = _; rw [hX])
  clear hX
  go_enter Try.func42, Try.ntmps42
  go_wp2_with fail
  generalize hX : (w.alloc (.cells #[.int .i64 k, .int .i64 s, .bool l, .bool o, .bool f] 27)) = w1
  have hb : Below w.heap.size w w1 := by rw [← hX]; exact balloc _ _
  have hk : Has w1 w.heap.size 27 #[.int .i64 k, .int .i64 s, .bool l, .bool o, .bool f] := by rw [← hX]; exact has_new _ _ _
  have hzw1 : w1.heap.size = w.heap.size + 1 := by rw [← hX]; simp
  clear hX
  have zb := hb; clear hb
  have za := hk; clear hk
  generalize hX : (w1.alloc (.cells #[.int .i64 0, .int .i64 0, .bool false, .bool false, .bool false] 27)) = w2
  have hb : Below w1.heap.size w1 w2 := by rw [← hX]; exact balloc _ _
  have hk : Has w2 w1.heap.size 27 #[.int .i64 0, .int .i64 0, .bool false, .bool false, .bool false] := by rw [← hX]; exact has_new _ _ _
  have hzw2 : w2.heap.size = w.heap.size + 2 := by rw [← hX]; simp [hzw1]
  clear hX
  rw [hzw1] at hk
  replace za := has_call za hb
  replace zb := bthen zb hb; clear hb
  have zr := hk; clear hk
  clear hzw1 hzw2
  refine (handI_any _ k s l o f 3).mono ?_
  rintro e w3 ⟨rfl, hb⟩
  rw [HV.out]
  replace za := has_call za hb
  replace zr := has_call zr hb
  replace zb := bthen zb hb; clear hb
  have zac0 := has_cell za 0 rfl; have zac1 := has_cell za 1 rfl; have zac2 := has_cell za 2 rfl; have zac3 := has_cell za 3 rfl; have zac4 := has_cell za 4 rfl
  have zaf0 := has_free za 0; have zaf1 := has_free za 1; have zaf2 := has_free za 2; have zaf3 := has_free za 3; have zaf4 := has_free za 4
  have zalt := has_lt za
  have zrc0 := has_cell zr 0 rfl; have zrc1 := has_cell zr 1 rfl; have zrc2 := has_cell zr 2 rfl; have zrc3 := has_cell zr 3 rfl; have zrc4 := has_cell zr 4 rfl
  have zrf0 := has_free zr 0; have zrf1 := has_free zr 1; have zrf2 := has_free zr 2; have zrf3 := has_free zr 3; have zrf4 := has_free zr 4
  have zrlt := has_lt zr
  have ZAH := Lib.hid za; clear za
  have ZRH := Lib.hid zr; clear zr
  have ZB := Lib.hid zb; clear zb
  go_wp2_with fail
  refine bodyPost_ret (v := .agg #[.int .i64 k', .int .i64 s', .bool l', .bool o', .bool f']) (by simp [results, Try.results42, go_sem, zac0, zac1, zac2, zac3, zac4, zaf0, zaf1, zaf2, zaf3, zaf4, zalt, zrc0, zrc1, zrc2, zrc3, zrc4, zrf0, zrf1, zrf2, zrf3, zrf4, zrlt]) rfl ⟨retv (by rw [HE.out]; rfl), ?_⟩
  repeat (first | (with_reducible exact ZB.out) | (with_reducible refine Below.alloc ?_ (by have h9 := ZB.out.size; simp <;> omega) _) | (with_reducible refine Below.drew ?_) | (with_reducible refine Below.setCell ?_ (by first | exact Nat.le_refl _ | exact Nat.le_add_right _ _ | (simp <;> omega)) _))
set_option maxRecDepth 100000 in
set_option maxHeartbeats 2000000 in
theorem actI_7 (w : World) (k s : Int) (l o f : Bool) : Calls Try.prog 42 #[.agg #[.int .i64 k, .int .i64 s, .bool l, .bool o, .bool f], .int .i64 7] w fun e w' => e = .returned (.agg (actD ⟨k, s, l, o, f⟩ 7).A) ∧ Below w.heap.size w w' := by
  obtain ⟨k', s', l', o', f', q, r, hX⟩ : ∃ k' s' l' o' f' q r, recD ⟨k, s, l, o, f⟩ 0 0 0 0 = (⟨k', s', l', o', f'⟩, q, r) := ⟨_, _, _, _, _, _, _, rfl⟩
  have HV := Lib.hid (show drI (recD ⟨k, s, l, o, f⟩ 0 0 0 0) = .tuple #[.agg #[.int .i64 k', .int .i64 s', .bool l', .bool o', .bool f'], .int .i64 q, .bool r] by rw [hX]; rfl)
  have HE := Lib.hid (show actD ⟨k, s, l, o, f⟩ 7 = ⟨k', s', l', o', f'⟩ by show (recD ⟨k, s, l, o, f⟩ 0 0 0 0).1 = _; rw [hX])
  clear hX
  go_enter Try.func42, Try.ntmps42
  go_wp2_with fail
  generalize hX : (w.alloc (.cells #[.int .i64 k, .int .i64 s, .bool l, .bool o, .bool f] 27)) = w1
  have hb : Below w.heap.size w w1 := by rw [← hX]; exact balloc _ _
  have hk : Has w1 w.heap.size 27 #[.int .i64 k, .int .i64 s, .bool l, .bool o, .bool f] := by rw [← hX]; exact has_new _ _ _
  have hzw1 : w1.heap.size = w.heap.size + 1 := by rw [← hX]; simp
  clear hX
  have zb := hb; clear hb
  have za := hk; clear hk
  generalize hX : (w1.alloc (.cells #[.int .i64 0, .int .i64 0, .bool false, .bool false, .bool false] 27)) = w2
  have hb : Below w1.heap.size w1 w2 := by rw [← hX]; exact balloc _ _
  have hk : Has w2 w1.heap.size 27 #[.int .i64 0, .int .i64 0, .bool false, .bool false, .bool false] := by rw [← hX]; exact has_new _ _ _
  have hzw2 : w2.heap.size = w.heap.size + 2 := by rw [← hX]; simp [hzw1]
  clear hX
  rw [hzw1] at hk
  replace za := has_call za hb
  replace zb := bthen zb hb; clear hb
  have zr := hk; clear hk
  clear hzw1 hzw2
  refine (recI_any _ k s l o f 0 0 0 0).mono ?_
  rintro e w3 ⟨rfl, hb⟩
  rw [HV.out]
  replace za := has_call za hb
  replace zr := has_call zr hb
  replace zb := bthen zb hb; clear hb
  have zac0 := has_cell za 0 rfl; have zac1 := has_cell za 1 rfl; have zac2 := has_cell za 2 rfl; have zac3 := has_cell za 3 rfl; have zac4 := has_cell za 4 rfl
  have zaf0 := has_free za 0; have zaf1 := has_free za 1; have zaf2 := has_free za 2; have zaf3 := has_free za 3; have zaf4 := has_free za 4
  have zalt := has_lt za
  have zrc0 := has_cell zr 0 rfl; have zrc1 := has_cell zr 1 rfl; have zrc2 := has_cell zr 2 rfl; have zrc3 := has_cell zr 3 rfl; have zrc4 := has_cell zr 4 rfl
  have zrf0 := has_free zr 0; have zrf1 := has_free zr 1; have zrf2 := has_free zr 2; have zrf3 := has_free zr 3; have zrf4 := has_free zr 4
  have zrlt := has_lt zr
  have ZAH := Lib.hid za; clear za
  have ZRH := Lib.hid zr; clear zr
  have ZB := Lib.hid zb; clear zb
  go_wp2_with fail
  refine bodyPost_ret (v := .agg #[.int .i64 k', .int .i64 s', .bool l', .bool o', .bool f']) (by simp [results, Try.results42, go_sem, zac0, zac1, zac2, zac3, zac4, zaf0, zaf1, zaf2, zaf3, zaf4, zalt, zrc0, zrc1, zrc2, zrc3, zrc4, zrf0, zrf1, zrf2, zrf3, zrf4, zrlt]) rfl ⟨retv (by rw [HE.out]; rfl), ?_⟩
  repeat (first | (with_reducible exact ZB.out) | (with_reducible refine Below.alloc ?_ (by have h9 := ZB.out.size; simp <;> omega) _) | (with_reducible refine Below.drew ?_) | (with_reducible refine Below.setCell ?_ (by first | exact Nat.le_refl _ | exact Nat.le_add_right _ _ | (simp <;> omega)) _))
set_option maxRecDepth 100000 in
set_option maxHeartbeats 2000000 in
theorem actI_8 (w : World) (k s : Int) (l o f : Bool) : Calls Try.prog 42 #[.agg #[.int .i64 k, .int .i64 s, .bool l, .bool o, .bool f], .int .i64 8] w fun e w' => e = .returned (.agg (actD ⟨k, s, l, o, f⟩ 8).A) ∧ Below w.heap.size w w' := by
  obtain ⟨k', s', l', o', f', q, hX⟩ : ∃ k' s' l' o' f' q, begD ⟨k, s, l, o, f⟩ 1 = (⟨k', s', l', o', f'⟩, q) := ⟨_, _, _, _, _, _, rfl⟩
  have HV := Lib.hid (show drB (begD ⟨k, s, l, o, f⟩ 1) = .tuple #[.agg #[.int .i64 k', .int .i64 s', .bool l', .bool o', .bool f'], .bool q] by rw [hX]; rfl)
  have HE := Lib.hid (show actD ⟨k, s, l, o, f⟩ 8 = ⟨k', s', l', o', f'⟩ by show (begD ⟨k, s, l, o, f⟩ 1).1 = _; rw [hX])
  clear hX
  go_enter Try.func42, Try.ntmps42
  go_wp2_with fail
  generalize hX : (w.alloc (.cells #[.int .i64 k, .int .i64 s, .bool l, .bool o, .bool f] 27)) = w1
  have hb : Below w.heap.size w w1 := by rw [← hX]; exact balloc _ _
  have hk : Has w1 w.heap.size 27 #[.int .i64 k, .int .i64 s, .bool l, .bool o, .bool f] := by rw [← hX]; exact has_new _ _ _
  have hzw1 : w1.heap.size = w.heap.size + 1 := by rw [← hX]; simp
  clear hX
  have zb := hb; clear hb
  have za := hk; clear hk
  generalize hX : (w1.alloc (.cells #[.int .i64 0, .int .i64 0, .bool false, .bool false, .bool false] 27)) = w2
  have hb : Below w1.heap.size w1 w2 := by rw [← hX]; exact balloc _ _
  have hk : Has w2 w1.heap.size 27 #[.int .i64 0, .int .i64 0, .bool false, .bool false, .bool false] := by rw [← hX]; exact has_new _ _ _
  have hzw2 : w2.heap.size = w.heap.size + 2 := by rw [← hX]; simp [hzw1]
  clear hX
  rw [hzw1] at hk
  replace za := has_call za hb
  replace zb := bthen zb hb; clear hb
  have zr := hk; clear hk
  clear hzw1 hzw2
  refine (begI_any _ k s l o f 1).mono ?_
  rintro e w3 ⟨rfl, hb⟩
  rw [HV.out]
  replace za := has_call za hb
  replace zr := has_call zr hb
  replace zb := bthen zb hb; clear hb
  have zac0 := has_cell za 0 rfl; have zac1 := has_cell za 1 rfl; have zac2 := has_cell za 2 rfl; have zac3 := has_cell za 3 rfl; have zac4 := has_cell za 4 rfl
  have zaf0 := has_free za 0; have zaf1 := has_free za 1; have zaf2 := has_free za 2; have zaf3 := has_free za 3; have zaf4 := has_free za 4
  have zalt := has_lt za
  have zrc0 := has_cell zr 0 rfl; have zrc1 := has_cell zr 1 rfl; have zrc2 := has_cell zr 2 rfl; have zrc3 := has_cell zr 3 rfl; have zrc4 := has_cell zr 4 rfl
  have zrf0 := has_free zr 0; have zrf1 := has_free zr 1; have zrf2 := has_free zr 2; have zrf3 := has_free zr 3; have zrf4 := has_free zr 4
  have zrlt := has_lt zr
  have ZAH := Lib.hid za; clear za
  have ZRH := Lib.hid zr; clear zr
  have ZB := Lib.hid zb; clear zb
  go_wp2_with fail
  refine bodyPost_ret (v := .agg #[.int .i64 k', .int .i64 s', .bool l', .bool o', .bool f']) (by simp [results, Try.results42, go_sem, zac0, zac1, zac2, zac3, zac4, zaf0, zaf1, zaf2, zaf3, zaf4, zalt, zrc0, zrc1, zrc2, zrc3, zrc4, zrf0, zrf1, zrf2, zrf3, zrf4, zrlt]) rfl ⟨retv (by rw [HE.out]; rfl), ?_⟩
  repeat (first | (with_reducible exact ZB.out) | (with_reducible refine Below.alloc ?_ (by have h9 := ZB.out.size; simp <;> omega) _) | (with_reducible refine Below.drew ?_) | (with_reducible refine Below.setCell ?_ (by first | exact Nat.le_refl _ | exact Nat.le_add_right _ _ | (simp <;> omega)) _))
set_option maxRecDepth 100000 in
set_option maxHeartbeats 2000000 in
theorem actI_9 (w : World) (k s : Int) (l o f : Bool) : Calls Try.prog 42 #[.agg #[.int .i64 k, .int .i64 s, .bool l, .bool o, .bool f], .int .i64 9] w fun e w' => e = .returned (.agg (actD ⟨k, s, l, o, f⟩ 9).A) ∧ Below w.heap.size w w' := by
  obtain ⟨k', s', l', o', f', q, hX⟩ : ∃ k' s' l' o' f' q, begD ⟨k, s, l, o, f⟩ 2 = (⟨k', s', l', o', f'⟩, q) := ⟨_, _, _, _, _, _, rfl⟩
  have HV := Lib.hid (show drB (begD ⟨k, s, l, o, f⟩ 2) = .tuple #[.agg #[.int .i64 k', .int .i64 s', .bool l', .bool o', .bool f'], .bool q] by rw [hX]; rfl)
  have HE := Lib.hid (show actD ⟨k, s, l, o, f⟩ 9 = ⟨k', s', l', o', f'⟩ by show (begD ⟨k, s, l, o, f⟩ 2).1 = _; rw [hX])
  clear hX
  go_enter Try.func42, Try.ntmps42
  go_wp2_with fail
  generalize hX : (w.alloc (.cells #[.int .i64 k, .int .i64 s, .bool l, .bool o, .bool f] 27)) = w1
  have hb : Below w.heap.size w w1 := by rw [← hX]; exact balloc _ _
  have hk : Has w1 w.heap.size 27 #[.int .i64 k, .int .i64 s, .bool l, .bool o, .bool f] := by rw [← hX]; exact has_new _ _ _
  have hzw1 : w1.heap.size = w.heap.size + 1 := by rw [← hX]; simp
  clear hX
  have zb := hb; clear hb
  have za := hk; clear hk
  generalize hX : (w1.alloc (.cells #[.int .i64 0, .int .i64 0, .bool false, .bool false, .bool false] 27)) = w2
  have hb : Below w1.heap.size w1 w2 := by rw [← hX]; exact balloc _ _
  have hk : Has w2 w1.heap.size 27 #[.int .i64 0, .int .i64 0, .bool false, .bool false, .bool false] := by rw [← hX]; exact has_new _ _ _
  have hzw2 : w2.heap.size = w.heap.size + 2 := by rw [← hX]; simp [hzw1]
  clear hX
  rw [hzw1] at hk
  replace za := has_call za hb
  replace zb := bthen zb hb; clear hb
  have zr := hk; clear hk
  clear hzw1 hzw2
  refine (begI_any _ k s l o f 2).mono ?_
  rintro e w3 ⟨rfl, hb⟩
  rw [HV.out]
  replace za := has_call za hb
  replace zr := has_call zr hb
  replace zb := bthen zb hb; clear hb
  have zac0 := has_cell za 0 rfl; have zac1 := has_cell za 1 rfl; have zac2 := has_cell za 2 rfl; have zac3 := has_cell za 3 rfl; have zac4 := has_cell za 4 rfl
  have zaf0 := has_free za 0; have zaf1 := has_free za 1; have zaf2 := has_free za 2; have zaf3 := has_free za 3; have zaf4 := has_free za 4
  have zalt := has_lt za
  have zrc0 := has_cell zr 0 rfl; have zrc1 := has_cell zr 1 rfl; have zrc2 := has_cell zr 2 rfl; have zrc3 := has_cell zr 3 rfl; have zrc4 := has_cell zr 4 rfl
  have zrf0 := has_free zr 0; have zrf1 := has_free zr 1; have zrf2 := has_free zr 2; have zrf3 := has_free zr 3; have zrf4 := has_free zr 4
  have zrlt := has_lt zr
  have ZAH := Lib.hid za; clear za
  have ZRH := Lib.hid zr; clear zr
  have ZB := Lib.hid zb; clear zb
  go_wp2_with fail
  refine bodyPost_ret (v := .agg #[.int .i64 k', .int .i64 s', .bool l', .bool o', .bool f']) (by simp [results, Try.results42, go_sem, zac0, zac1, zac2, zac3, zac4, zaf0, zaf1, zaf2, zaf3, zaf4, zalt, zrc0, zrc1, zrc2, zrc3, zrc4, zrf0, zrf1, zrf2, zrf3, zrf4, zrlt]) rfl ⟨retv (by rw [HE.out]; rfl), ?_⟩
  repeat (first | (with_reducible exact ZB.out) | (with_reducible refine Below.alloc ?_ (by have h9 := ZB.out.size; simp <;> omega) _) | (with_reducible refine Below.drew ?_) | (with_reducible refine Below.setCell ?_ (by first | exact Nat.le_refl _ | exact Nat.le_add_right _ _ | (simp <;> omega)) _))
theorem actI_any (w : World) (k s : Int) (l o f : Bool) (a : Int) (h : inR a 1 9 = true) : Calls Try.prog 42 #[.agg #[.int .i64 k, .int .i64 s, .bool l, .bool o, .bool f], .int .i64 a] w fun e w' => e = .returned (.agg (actD ⟨k, s, l, o, f⟩ a).A) ∧ Below w.heap.size w w' := by
  have hc : a = 1 ∨ a = 2 ∨ a = 3 ∨ a = 4 ∨ a = 5 ∨ a = 6 ∨ a = 7 ∨ a = 8 ∨ a = 9 := by have := inR_iff.1 h; omega
  rcases hc with rfl | rfl | rfl | rfl | rfl | rfl | rfl | rfl | rfl
  · exact actI_1 w k s l o f
  · exact actI_2 w k s l o f
  · exact actI_3 w k s l o f
  · exact actI_4 w k s l o f
  · exact actI_5 w k s l o f
  · exact actI_6 w k s l o f
  · exact actI_7 w k s l o f
  · exact actI_8 w k s l o f
  · exact actI_9 w k s l o f
set_option maxRecDepth 100000 in
set_option maxHeartbeats 2000000 in
theorem actS_1 (w : World) (k s : Int) (l o f : Bool) : Calls Try.prog 44 #[.agg #[.int .i64 k, .int .i64 s, .bool l, .bool o, .bool f], .int .i64 1] w fun e w' => e = .returned (.agg (actD ⟨k, s, l, o, f⟩ 1).A) ∧ Below w.heap.size w w' := by
  obtain ⟨k', s', l', o', f', q, hX⟩ : ∃ k' s' l' o' f' q, advD ⟨k, s, l, o, f⟩ = (⟨k', s', l', o', f'⟩, q) := ⟨_, _, _, _, _, _, rfl⟩
  have HV := Lib.hid (show drB (advD ⟨k, s, l, o, f⟩) = .tuple #[.agg #[.int .i64 k', .int .i64 s', .bool l', .bool o', .bool f'], .bool q] by rw [hX]; rfl)
  have HE := Lib.hid (show actD ⟨k, s, l, o, f⟩ 1 = ⟨k', s', l', o', f'⟩ by show (advD ⟨k, s, l, o, f⟩).1 = _; rw [hX])
  clear hX
  go_enter Try.func44, Try.ntmps44
  go_wp2_with fail
  generalize hX : (w.alloc (.cells #[.int .i64 k, .int .i64 s, .bool l, .bool o, .bool f] 27)) = w1
  have hb : Below w.heap.size w w1 := by rw [← hX]; exact balloc _ _
  have hk : Has w1 w.heap.size 27 #[.int .i64 k, .int .i64 s, .bool l, .bool o, .bool f] := by rw [← hX]; exact has_new _ _ _
  have hzw1 : w1.heap.size = w.heap.size + 1 := by rw [← hX]; simp
  clear hX
  have zb := hb; clear hb
  have za := hk; clear hk
  generalize hX : (w1.alloc (.cells #[.int .i64 0, .int .i64 0, .bool false, .bool false, .bool false] 27)) = w2
  have hb : Below w1.heap.size w1 w2 := by rw [← hX]; exact balloc _ _
  have hk : Has w2 w1.heap.size 27 #[.int .i64 0, .int .i64 0, .bool false, .bool false, .bool false] := by rw [← hX]; exact has_new _ _ _
  have hzw2 : w2.heap.size = w.heap.size + 2 := by rw [← hX]; simp [hzw1]
  clear hX
  rw [hzw1] at hk
  replace za := has_call za hb
  replace zb := bthen zb hb; clear hb
  have zr := hk; clear hk
  clear hzw1 hzw2
  refine (advS_any _ k s l o f).mono ?_
  rintro e w3 ⟨rfl, hb⟩
  rw [HV.out]
  replace za := has_call za hb
  replace zr := has_call zr hb
  replace zb := bthen zb hb; clear hb
  have zac0 := has_cell za 0 rfl; have zac1 := has_cell za 1 rfl; have zac2 := has_cell za 2 rfl; have zac3 := has_cell za 3 rfl; have zac4 := has_cell za 4 rfl
  have zaf0 := has_free za 0; have zaf1 := has_free za 1; have zaf2 := has_free za 2; have zaf3 := has_free za 3; have zaf4 := has_free za 4
  have zalt := has_lt za
  have zrc0 := has_cell zr 0 rfl; have zrc1 := has_cell zr 1 rfl; have zrc2 := has_cell zr 2 rfl; have zrc3 := has_cell zr 3 rfl; have zrc4 := has_cell zr 4 rfl
  have zrf0 := has_free zr 0; have zrf1 := has_free zr 1; have zrf2 := has_free zr 2; have zrf3 := has_free zr 3; have zrf4 := has_free zr 4
  have zrlt := has_lt zr
  have ZAH := Lib.hid za; clear za
  have ZRH := Lib.hid zr; clear zr
  have ZB := Lib.hid zb; clear zb
  go_wp2_with fail
  refine bodyPost_ret (v := .agg #[.int .i64 k', .int .i64 s', .bool l', .bool o', .bool f']) (by simp [results, Try.results44, go_sem, zac0, zac1, zac2, zac3, zac4, zaf0, zaf1, zaf2, zaf3, zaf4, zalt, zrc0, zrc1, zrc2, zrc3, zrc4, zrf0, zrf1, zrf2, zrf3, zrf4, zrlt]) rfl ⟨retv (by rw [HE.out]; rfl), ?_⟩
  repeat (first | (with_reducible exact ZB.out) | (with_reducible refine Below.alloc ?_ (by have h9 := ZB.out.size; simp <;> omega) _) | (with_reducible refine Below.drew ?_) | (with_reducible refine Below.setCell ?_ (by first | exact Nat.le_refl _ | exact Nat.le_add_right _ _ | (simp <;> omega)) _))
set_option maxRecDepth 100000 in
set_option maxHeartbeats 2000000 in
theorem actS_2 (w : World) (k s : Int) (l o f : Bool) : Calls Try.prog 44 #[.agg #[.int .i64 k, .int .i64 s, .bool l, .bool o, .bool f], .int .i64 2] w fun e w' => e = .returned (.agg (actD ⟨k, s, l, o, f⟩ 2).A) ∧ Below w.heap.size w w' := by
  obtain ⟨k', s', l', o', f', q, hX⟩ : ∃ k' s' l' o' f' q, relD ⟨k, s, l, o, f⟩ = (⟨k', s', l', o', f'⟩, q) := ⟨_, _, _, _, _, _, rfl⟩
  have HV := Lib.hid (show drB (relD ⟨k, s, l, o, f⟩) = .tuple #[.agg #[.int .i64 k', .int .i64 s', .bool l', .bool o', .bool f'], .bool q] by rw [hX]; rfl)
  have HE := Lib.hid (show actD ⟨k, s, l, o, f⟩ 2 = ⟨k', s', l', o', f'⟩ by show (relD ⟨k, s, l, o, f⟩).1 = _; rw [hX])
  clear hX
  go_enter Try.func44, Try.ntmps44
  go_wp2_with fail
  generalize hX : (w.alloc (.cells #[.int .i64 k, .int .i64 s, .bool l, .bool o, .bool f] 27)) = w1
  have hb : Below w.heap.size w w1 := by rw [← hX]; exact balloc _ _
  have hk : Has w1 w.heap.size 27 #[.int .i64 k, .int .i64 s, .bool l, .bool o, .bool f] := by rw [← hX]; exact has_new _ _ _
  have hzw1 : w1.heap.size = w.heap.size + 1 := by rw [← hX]; simp
  clear hX
  have zb := hb; clear hb
  have za := hk; clear hk
  generalize hX : (w1.alloc (.cells #[.int .i64 0, .int .i64 0, .bool false, .bool false, .bool false] 27)) = w2
  have hb : Below w1.heap.size w1 w2 := by rw [← hX]; exact balloc _ _
  have hk : Has w2 w1.heap.size 27 #[.int .i64 0, .int .i64 0, .bool false, .bool false, .bool false] := by rw [← hX]; exact has_new _ _ _
  have hzw2 : w2.heap.size = w.heap.size + 2 := by rw [← hX]; simp [hzw1]
  clear hX
  rw [hzw1] at hk
  replace za := has_call za hb
  replace zb := bthen zb hb; clear hb
  have zr := hk; clear hk
  clear hzw1 hzw2
  refine (relS_any _ k s l o f).mono ?_
  rintro e w3 ⟨rfl, hb⟩
  rw [HV.out]
  replace za := has_call za hb
  replace zr := has_call zr hb
  replace zb := bthen zb hb; clear hb
  have zac0 := has_cell za 0 rfl; have zac1 := has_cell za 1 rfl; have zac2 := has_cell za 2 rfl; have zac3 := has_cell za 3 rfl; have zac4 := has_cell za 4 rfl
  have zaf0 := has_free za 0; have zaf1 := has_free za 1; have zaf2 := has_free za 2; have zaf3 := has_free za 3; have zaf4 := has_free za 4
  have zalt := has_lt za
  have zrc0 := has_cell zr 0 rfl; have zrc1 := has_cell zr 1 rfl; have zrc2 := has_cell zr 2 rfl; have zrc3 := has_cell zr 3 rfl; have zrc4 := has_cell zr 4 rfl
  have zrf0 := has_free zr 0; have zrf1 := has_free zr 1; have zrf2 := has_free zr 2; have zrf3 := has_free zr 3; have zrf4 := has_free zr 4
  have zrlt := has_lt zr
  have ZAH := Lib.hid za; clear za
  have ZRH := Lib.hid zr; clear zr
  have ZB := Lib.hid zb; clear zb
  go_wp2_with fail
  refine bodyPost_ret (v := .agg #[.int .i64 k', .int .i64 s', .bool l', .bool o', .bool f']) (by simp [results, Try.results44, go_sem, zac0, zac1, zac2, zac3, zac4, zaf0, zaf1, zaf2, zaf3, zaf4, zalt, zrc0, zrc1, zrc2, zrc3, zrc4, zrf0, zrf1, zrf2, zrf3, zrf4, zrlt]) rfl ⟨retv (by rw [HE.out]; rfl), ?_⟩
  repeat (first | (with_reducible exact ZB.out) | (with_reducible refine Below.alloc ?_ (by have h9 := ZB.out.size; simp <;> omega) _) | (with_reducible refine Below.drew ?_) | (with_reducible refine Below.setCell ?_ (by first | exact Nat.le_refl _ | exact Nat.le_add_right _ _ | (simp <;> omega)) _))
set_option maxRecDepth 100000 in
set_option maxHeartbeats 2000000 in
theorem actS_3 (w : World) (k s : Int) (l o f : Bool) : Calls Try.prog 44 #[.agg #[.int .i64 k, .int .i64 s, .bool l, .bool o, .bool f], .int .i64 3] w fun e w' => e = .returned (.agg (actD ⟨k, s, l, o, f⟩ 3).A) ∧ Below w.heap.size w w' := by
  obtain ⟨k', s', l', o', f', hX⟩ : ∃ k' s' l' o' f', cutD ⟨k, s, l, o, f⟩ = ⟨k', s', l', o', f'⟩ := ⟨_, _, _, _, _, rfl⟩
  have HV := Lib.hid (show Value.agg (cutD ⟨k, s, l, o, f⟩).A = .agg #[.int .i64 k', .int .i64 s', .bool l', .bool o', .bool f'] by rw [hX]; rfl)
  have HE := Lib.hid (show actD ⟨k, s, l, o, f⟩ 3 = ⟨k', s', l', o', f'⟩ by show cutD ⟨k, s, l, o, f⟩ = _; rw [hX])
  clear hX
  go_enter Try.func44, Try.ntmps44
  go_wp2_with fail
  generalize hX : (w.alloc (.cells #[.int .i64 k, .int .i64 s, .bool l, .bool o, .bool f] 27)) = w1
  have hb : Below w.heap.size w w1 := by rw [← hX]; exact balloc _ _
  have hk : Has w1 w.heap.size 27 #[.int .i64 k, .int .i64 s, .bool l, .bool o, .bool f] := by rw [← hX]; exact has_new _ _ _
  have hzw1 : w1.heap.size = w.heap.size + 1 := by rw [← hX]; simp
  clear hX
  have zb := hb; clear hb
  have za := hk; clear hk
  generalize hX : (w1.alloc (.cells #[.int .i64 0, .int .i64 0, .bool false, .bool false, .bool false] 27)) = w2
  have hb : Below w1.heap.size w1 w2 := by rw [← hX]; exact balloc _ _
  have hk : Has w2 w1.heap.size 27 #[.int .i64 0, .int .i64 0, .bool false, .bool false, .bool false] := by rw [← hX]; exact has_new _ _ _
  have hzw2 : w2.heap.size = w.heap.size + 2 := by rw [← hX]; simp [hzw1]
  clear hX
  rw [hzw1] at hk
  replace za := has_call za hb
  replace zb := bthen zb hb; clear hb
  have zr := hk; clear hk
  clear hzw1 hzw2
  refine (cutS_any _ k s l o f).mono ?_
  rintro e w3 ⟨rfl, hb⟩
  rw [HV.out]
  replace za := has_call za hb
  replace zr := has_call zr hb
  replace zb := bthen zb hb; clear hb
  have zac0 := has_cell za 0 rfl; have zac1 := has_cell za 1 rfl; have zac2 := has_cell za 2 rfl; have zac3 := has_cell za 3 rfl; have zac4 := has_cell za 4 rfl
  have zaf0 := has_free za 0; have zaf1 := has_free za 1; have zaf2 := has_free za 2; have zaf3 := has_free za 3; have zaf4 := has_free za 4
  have zalt := has_lt za
  have zrc0 := has_cell zr 0 rfl; have zrc1 := has_cell zr 1 rfl; have zrc2 := has_cell zr 2 rfl; have zrc3 := has_cell zr 3 rfl; have zrc4 := has_cell zr 4 rfl
  have zrf0 := has_free zr 0; have zrf1 := has_free zr 1; have zrf2 := has_free zr 2; have zrf3 := has_free zr 3; have zrf4 := has_free zr 4
  have zrlt := has_lt zr
  have ZAH := Lib.hid za; clear za
  have ZRH := Lib.hid zr; clear zr
  have ZB := Lib.hid zb; clear zb
  go_wp2_with fail
  refine bodyPost_ret (v := .agg #[.int .i64 k', .int .i64 s', .bool l', .bool o', .bool f']) (by simp [results, Try.results44, go_sem, zac0, zac1, zac2, zac3, zac4, zaf0, zaf1, zaf2, zaf3, zaf4, zalt, zrc0, zrc1, zrc2, zrc3, zrc4, zrf0, zrf1, zrf2, zrf3, zrf4, zrlt]) rfl ⟨retv (by rw [HE.out]; rfl), ?_⟩
  repeat (first | (with_reducible exact ZB.out) | (with_reducible refine Below.alloc ?_ (by have h9 := ZB.out.size; simp <;> omega) _) | (with_reducible refine Below.drew ?_) | (with_reducible refine Below.setCell ?_ (by first | exact Nat.le_refl _ | exact Nat.le_add_right _ _ | (simp <;> omega)) _))
set_option maxRecDepth 100000 in
set_option maxHeartbeats 2000000 in
theorem actS_4 (w : World) (k s : Int) (l o f : Bool) : Calls Try.prog 44 #[.agg #[.int .i64 k, .int .i64 s, .bool l, .bool o, .bool f], .int .i64 4] w fun e w' => e = .returned (.agg (actD ⟨k, s, l, o, f⟩ 4).A) ∧ Below w.heap.size w w' := by
  obtain ⟨k', s', l', o', f', q, hX⟩ : ∃ k' s' l' o' f' q, handD ⟨k, s, l, o, f⟩ 1 = (⟨k', s', l', o', f'⟩, q) := ⟨_, _, _, _, _, _, rfl⟩
  have HV := Lib.hid (show drB (handD ⟨k, s, l, o, f⟩ 1) = .tuple #[.agg #[.int .i64 k', .int .i64 s', .bool l', .bool o', .bool f'], .bool q] by rw [hX]; rfl)
  have HE := Lib.hid (show actD ⟨k, s, l, o, f⟩ 4 = ⟨k', s', l', o', f'⟩ by show (handD ⟨k, s, l, o, f⟩ 1).1 = _; rw [hX])
  clear hX
  go_enter Try.func44, Try.ntmps44
  go_wp2_with fail
  generalize hX : (w.alloc (.cells #[.int .i64 k, .int .i64 s, .bool l, .bool o, .bool f] 27)) = w1
  have hb : Below w.heap.size w w1 := by rw [← hX]; exact balloc _ _
  have hk : Has w1 w.heap.size 27 #[.int .i64 k, .int .i64 s, .bool l, .bool o, .bool f] := by rw [← hX]; exact has_new _ _ _
  have hzw1 : w1.heap.size = w.heap.size + 1 := by rw [← hX]; simp
  clear hX
  have zb := hb; clear hb
  have za := hk; clear hk
  generalize hX : (w1.alloc (.cells #[.int .i64 0, .int .i64 0, .bool false, .bool false, .bool false] 27)) = w2
  have hb : Below w1.heap.size w1 w2 := by rw [← hX]; exact balloc _ _
  have hk : Has w2 w1.heap.size 27 #[.int .i64 0, .int .i64 0, .bool false, .bool false, .bool false] := by rw [← hX]; exact has_new _ _ _
  have hzw2 : w2.heap.size = w.heap.size + 2 := by rw [← hX]; simp [hzw1]
  clear hX
  rw [hzw1] at hk
  replace za := has_call za hb
  replace zb := bthen zb hb; clear hb
  have zr := hk; clear hk
  clear hzw1 hzw2
  refine (handS_any _ k s l o f 1).mono ?_
  rintro e w3 ⟨rfl, hb⟩
  rw [HV.out]
  replace za := has_call za hb
  replace zr := has_call zr hb
  replace zb := bthen zb hb; clear hb
  have zac0 := has_cell za 0 rfl; have zac1 := has_cell za 1 rfl; have zac2 := has_cell za 2 rfl; have zac3 := has_cell za 3 rfl; have zac4 := has_cell za 4 rfl
  have zaf0 := has_free za 0; have zaf1 := has_free za 1; have zaf2 := has_free za 2; have zaf3 := has_free za 3; have zaf4 := has_free za 4
  have zalt := has_lt za
  have zrc0 := has_cell zr 0 rfl; have zrc1 := has_cell zr 1 rfl; have zrc2 := has_cell zr 2 rfl; have zrc3 := has_cell zr 3 rfl; have zrc4 := has_cell zr 4 rfl
  have zrf0 := has_free zr 0; have zrf1 := has_free zr 1; have zrf2 := has_free zr 2; have zrf3 := has_free zr 3; have zrf4 := has_free zr 4
  have zrlt := has_lt zr
  have ZAH := Lib.hid za; clear za
  have ZRH := Lib.hid zr; clear zr
  have ZB := Lib.hid zb; clear zb
  go_wp2_with fail
  refine bodyPost_ret (v := .agg #[.int .i64 k', .int .i64 s', .bool l', .bool o', .bool f']) (by simp [results, Try.results44, go_sem, zac0, zac1, zac2, zac3, zac4, zaf0, zaf1, zaf2, zaf3, zaf4, zalt, zrc0, zrc1, zrc2, zrc3, zrc4, zrf0, zrf1, zrf2, zrf3, zrf4, zrlt]) rfl ⟨retv (by rw [HE.out]; rfl), ?_⟩
  repeat (first | (with_reducible exact ZB.out) | (with_reducible refine Below.alloc ?_ (by have h9 := ZB.out.size; simp <;> omega) _) | (with_reducible refine Below.drew ?_) | (with_reducible refine Below.setCell ?_ (by first | exact Nat.le_refl _ | exact Nat.le_add_right _ _ | (simp <;> omega)) _))
set_option maxRecDepth 100000 in
set_option maxHeartbeats 2000000 in
theorem actS_5 (w : World) (k s : Int) (l o f : Bool) : Calls Try.prog 44 #[.agg #[.int .i64 k, .int .i64 s, .bool l, .bool o, .bool f], .int .i64 5] w fun e w' => e = .returned (.agg (actD ⟨k, s, l, o, f⟩ 5).A) ∧ Below w.heap.size w w' := by
  obtain ⟨k', s', l', o', f', q, hX⟩ : ∃ k' s' l' o' f' q, handD ⟨k, s, l, o, f⟩ 2 = (⟨k', s', l', o', f'⟩, q) := ⟨_, _, _, _, _, _, rfl⟩
  have HV := Lib.hid (show drB (handD ⟨k, s, l, o, f⟩ 2) = .tuple #[.agg #[.int .i64 k', .int .i64 s', .bool l', .bool o', .bool f'], .bool q] by rw [hX]; rfl)
  have HE := Lib.hid (show actD ⟨k, s, l, o, f⟩ 5 = ⟨k', s', l', o', f'⟩ by show (handD ⟨k, s, l, o, f⟩ 2).1 = _; rw [hX])
  clear hX
  go_enter Try.func44, Try.ntmps44
  go_wp2_with fail
  generalize hX : (w.alloc (.cells #[.int .i64 k, .int .i64 s, .bool l, .bool o, .bool f] 27)) = w1
  have hb : Below w.heap.size w w1 := by rw [← hX]; exact balloc _ _
  have hk : Has w1 w.heap.size 27 #[.int .i64 k, .int .i64 s, .bool l, .bool o, .bool f] := by rw [← hX]; exact has_new _ _ _
  have hzw1 : w1.heap.size = w.heap.size + 1 := by rw [← hX]; simp
  clear hX
  have zb := hb; clear hb
  have za := hk; clear hk
  generalize hX : (w1.alloc (.cells #[.int .i64 0, .int .i64 0, .bool false, .bool false, .bool false] 27)) = w2
  have hb : Below w1.heap.size w1 w2 := by rw [← hX]; exact balloc _ _
  have hk : Has w2 w1.heap.size 27 #[.int .i64 0, .int .i64 0, .bool false, .bool false, .bool false] := by rw [← hX]; exact has_new _ _ _
  have hzw2 : w2.heap.size = w.heap.size + 2 := by rw [← hX]; simp [hzw1]
  clear hX
  rw [hzw1] at hk
  replace za := has_call za hb
  replace zb := bthen zb hb; clear hb
  have zr := hk; clear hk
  clear hzw1 hzw2
  refine (handS_any _ k s l o f 2).mono ?_
  rintro e w3 ⟨rfl, hb⟩
  rw [HV.out]
  replace za := has_call za hb
  replace zr := has_call zr hb
  replace zb := bthen zb hb; clear hb
  have zac0 := has_cell za 0 rfl; have zac1 := has_cell za 1 rfl; have zac2 := has_cell za 2 rfl; have zac3 := has_cell za 3 rfl; have zac4 := has_cell za 4 rfl
  have zaf0 := has_free za 0; have zaf1 := has_free za 1; have zaf2 := has_free za 2; have zaf3 := has_free za 3; have zaf4 := has_free za 4
  have zalt := has_lt za
  have zrc0 := has_cell zr 0 rfl; have zrc1 := has_cell zr 1 rfl; have zrc2 := has_cell zr 2 rfl; have zrc3 := has_cell zr 3 rfl; have zrc4 := has_cell zr 4 rfl
  have zrf0 := has_free zr 0; have zrf1 := has_free zr 1; have zrf2 := has_free zr 2; have zrf3 := has_free zr 3; have zrf4 := has_free zr 4
  have zrlt := has_lt zr
  have ZAH := Lib.hid za; clear za
  have ZRH := Lib.hid zr; clear zr
  have ZB := Lib.hid zb; clear zb
  go_wp2_with fail
  refine bodyPost_ret (v := .agg #[.int .i64 k', .int .i64 s', .bool l', .bool o', .bool f']) (by simp [results, Try.results44, go_sem, zac0, zac1, zac2, zac3, zac4, zaf0, zaf1, zaf2, zaf3, zaf4, zalt, zrc0, zrc1, zrc2, zrc3, zrc4, zrf0, zrf1, zrf2, zrf3, zrf4, zrlt]) rfl ⟨retv (by rw [HE.out]; rfl), ?_⟩
  repeat (first | (with_reducible exact ZB.out) | (with_reducible refine Below.alloc ?_ (by have h9 := ZB.out.size; simp <;> omega) _) | (with_reducible refine Below.drew ?_) | (with_reducible refine Below.setCell ?_ (by first | exact Nat.le_refl _ | exact Nat.le_add_right _ _ | (simp <;> omega)) _))
set_option maxRecDepth 100000 in
set_option maxHeartbeats 2000000 in
theorem actS_6 (w : World) (k s : Int) (l o f : Bool) : Calls Try.prog 44 #[.agg #[.int .i64 k, .int .i64 s, .bool l, .bool o, .bool f], .int .i64 6] w fun e w' => e = .returned (.agg (actD ⟨k, s, l, o, f⟩ 6).A) ∧ Below w.heap.size w w' := by
  obtain ⟨k', s', l', o', f', q, hX⟩ : ∃ k' s' l' o' f' q, handD ⟨k, s, l, o, f⟩ 3 = (⟨k', s', l', o', f'⟩, q) := ⟨_, _, _, _, _, _, rfl⟩
  have HV := Lib.hid (show drB (handD ⟨k, s, l, o, f⟩ 3) = .tuple #[.agg #[.int .i64 k', .int .i64 s', .bool l', .bool o', .bool f'], .bool q] by rw [hX]; rfl)
  have HE := Lib.hid (show actD ⟨k, s, l, o, f⟩ 6 = ⟨k', s', l', o', f'⟩ by show (handD ⟨k, s, l, o, f⟩ 3).1 = _; rw [hX])
  clear hX
  go_enter Try.func44, Try.ntmps44
  go_wp2_with fail
  generalize hX : (w.alloc (.cells #[.int .i64 k, .int .i64 s, .bool l, .bool o, .bool f] 27)) = w1
  have hb : Below w.heap.size w w1 := by rw [← hX]; exact balloc _ _
  have hk : Has w1 w.heap.size 27 #[.int .i64 k, .int .i64 s, .bool l, .bool o, .bool f] := by rw [← hX]; exact has_new _ _ _
  have hzw1 : w1.heap.size = w.heap.size + 1 := by rw [← hX]; simp
  clear hX
  have zb := hb; clear hb
  have za := hk; clear hk
  generalize hX : (w1.alloc (.cells #[.int .i64 0, .int .i64 0, .bool false, .bool false, .bool false] 27)) = w2
  have hb : Below w1.heap.size w1 w2 := by rw [← hX]; exact balloc _ _
  have hk : Has w2 w1.heap.size 27 #[.int .i64 0, .int .i64 0, .bool false, .bool false, .bool false] := by rw [← hX]; exact has_new _ _ _
  have hzw2 : w2.heap.size = w.heap.size + 2 := by rw [← hX]; simp [hzw1]
  clear hX
  rw [hzw1] at hk
  replace za := has_call za hb
  replace zb := bthen zb hb; clear hb
  have zr := hk; clear hk
  clear hzw1 hzw2
  refine (handS_any _ k s l o f 3).mono ?_
  rintro e w3 ⟨rfl, hb⟩
  rw [HV.out]
  replace za := has_call za hb
  replace zr := has_call zr hb
  replace zb := bthen zb hb; clear hb
  have zac0 := has_cell za 0 rfl; have zac1 := has_cell za 1 rfl; have zac2 := has_cell za 2 rfl; have zac3 := has_cell za 3 rfl; have zac4 := has_cell za 4 rfl
  have zaf0 := has_free za 0; have zaf1 := has_free za 1; have zaf2 := has_free za 2; have zaf3 := has_free za 3; have zaf4 := has_free za 4
  have zalt := has_lt za
  have zrc0 := has_cell zr 0 rfl; have zrc1 := has_cell zr 1 rfl; have zrc2 := has_cell zr 2 rfl; have zrc3 := has_cell zr 3 rfl; have zrc4 := has_cell zr 4 rfl
  have zrf0 := has_free zr 0; have zrf1 := has_free zr 1; have zrf2 := has_free zr 2; have zrf3 := has_free zr 3; have zrf4 := has_free zr 4
  have zrlt := has_lt zr
  have ZAH := Lib.hid za; clear za
  have ZRH := Lib.hid zr; clear zr
  have ZB := Lib.hid zb; clear zb
  go_wp2_with fail
  refine bodyPost_ret (v := .agg #[.int .i64 k', .int .i64 s', .bool l', .bool o', .bool f']) (by simp [results, Try.results44, go_sem, zac0, zac1, zac2, zac3, zac4, zaf0, zaf1, zaf2, zaf3, zaf4, zalt, zrc0, zrc1, zrc2, zrc3, zrc4, zrf0, zrf1, zrf2, zrf3, zrf4, zrlt]) rfl ⟨retv (by rw [HE.out]; rfl), ?_⟩
  repeat (first | (with_reducible exact ZB.out) | (with_reducible refine Below.alloc ?_ (by have h9 := ZB.out.size; simp <;> omega) _) | (with_reducible refine Below.drew ?_) | (with_reducible refine Below.setCell ?_ (by first | exact Nat.le_refl _ | exact Nat.le_add_right _ _ | (simp <;> omega)) _))
set_option maxRecDepth 100000 in
set_option maxHeartbeats 2000000 in
theorem actS_7 (w : World) (k s : Int) (l o f : Bool) : Calls Try.prog 44 #[.agg #[.int .i64 k, .int .i64 s, .bool l, .bool o, .bool f], .int .i64 7] w fun e w' => e = .returned (.agg (actD ⟨k, s, l, o, f⟩ 7).A) ∧ Below w.heap.size w w' := by
  obtain ⟨k', s', l', o', f', q, r, hX⟩ : ∃ k' s' l' o' f' q r, recD ⟨k, s, l, o, f⟩ 0 0 0 0 = (⟨k', s', l', o', f'⟩, q, r) := ⟨_, _, _, _, _, _, _, rfl⟩
  have HV := Lib.hid (show drI (recD ⟨k, s, l, o, f⟩ 0 0 0 0) = .tuple #[.agg #[.int .i64 k', .int .i64 s', .bool l', .bool o', .bool f'], .int .i64 q, .bool r] by rw [hX]; rfl)
  have HE := Lib.hid (show actD ⟨k, s, l, o, f⟩ 7 = ⟨k', s', l', o', f'⟩ by show (recD ⟨k, s, l, o, f⟩ 0 0 0 0).1 = _; rw [hX])
  clear hX
  go_enter Try.func44, Try.ntmps44
  go_wp2_with fail
  generalize hX : (w.alloc (.cells #[.int .i64 k, .int .i64 s, .bool l, .bool o, .bool f] 27)) = w1
  have hb : Below w.heap.size w w1 := by rw [← hX]; exact balloc _ _
  have hk : Has w1 w.heap.size 27 #[.int .i64 k, .int .i64 s, .bool l, .bool o, .bool f] := by rw [← hX]; exact has_new _ _ _
  have hzw1 : w1.heap.size = w.heap.size + 1 := by rw [← hX]; simp
  clear hX
  have zb := hb; clear hb
  have za := hk; clear hk
  generalize hX : (w1.alloc (.cells #[.int .i64 0, .int .i64 0, .bool false, .bool false, .bool false] 27)) = w2
  have hb : Below w1.heap.size w1 w2 := by rw [← hX]; exact balloc _ _
  have hk : Has w2 w1.heap.size 27 #[.int .i64 0, .int .i64 0, .bool false, .bool false, .bool false] := by rw [← hX]; exact has_new _ _ _
  have hzw2 : w2.heap.size = w.heap.size + 2 := by rw [← hX]; simp [hzw1]
  clear hX
  rw [hzw1] at hk
  replace za := has_call za hb
  replace zb := bthen zb hb; clear hb
  have zr := hk; clear hk
  clear hzw1 hzw2
  refine (recS_any _ k s l o f 0 0 0 0).mono ?_
  rintro e w3 ⟨rfl, hb⟩
  rw [HV.out]
  replace za := has_call za hb
  replace zr := has_call zr hb
  replace zb := bthen zb hb; clear hb
  have zac0 := has_cell za 0 rfl; have zac1 := has_cell za 1 rfl; have zac2 := has_cell za 2 rfl; have zac3 := has_cell za 3 rfl; have zac4 := has_cell za 4 rfl
  have zaf0 := has_free za 0; have zaf1 := has_free za 1; have zaf2 := has_free za 2; have zaf3 := has_free za 3; have zaf4 := has_free za 4
  have zalt := has_lt za
  have zrc0 := has_cell zr 0 rfl; have zrc1 := has_cell zr 1 rfl; have zrc2 := has_cell zr 2 rfl; have zrc3 := has_cell zr 3 rfl; have zrc4 := has_cell zr 4 rfl
  have zrf0 := has_free zr 0; have zrf1 := has_free zr 1; have zrf2 := has_free zr 2; have zrf3 := has_free zr 3; have zrf4 := has_free zr 4
  have zrlt := has_lt zr
  have ZAH := Lib.hid za; clear za
  have ZRH := Lib.hid zr; clear zr
  have ZB := Lib.hid zb; clear zb
  go_wp2_with fail
  refine bodyPost_ret (v := .agg #[.int .i64 k', .int .i64 s', .bool l', .bool o', .bool f']) (by simp [results, Try.results44, go_sem, zac0, zac1, zac2, zac3, zac4, zaf0, zaf1, zaf2, zaf3, zaf4, zalt, zrc0, zrc1, zrc2, zrc3, zrc4, zrf0, zrf1, zrf2, zrf3, zrf4, zrlt]) rfl ⟨retv (by rw [HE.out]; rfl), ?_⟩
  repeat (first | (with_reducible exact ZB.out) | (with_reducible refine Below.alloc ?_ (by have h9 := ZB.out.size; simp <;> omega) _) | (with_reducible refine Below.drew ?_) | (with_reducible refine Below.setCell ?_ (by first | exact Nat.le_refl _ | exact Nat.le_add_right _ _ | (simp <;> omega)) _))
set_option maxRecDepth 100000 in
set_option maxHeartbeats 2000000 in
theorem actS_8 (w : World) (k s : Int) (l o f : Bool) : Calls Try.prog 44 #[.agg #[.int .i64 k, .int .i64 s, .bool l, .bool o, .bool f], .int .i64 8] w fun e w' => e = .returned (.agg (actD ⟨k, s, l, o, f⟩ 8).A) ∧ Below w.heap.size w w' := by
  obtain ⟨k', s', l', o', f', q, hX⟩ : ∃ k' s' l' o' f' q, begD ⟨k, s, l, o, f⟩ 1 = (⟨k', s', l', o', f'⟩, q) := ⟨_, _, _, _, _, _, rfl⟩
  have HV := Lib.hid (show drB (begD ⟨k, s, l, o, f⟩ 1) = .tuple #[.agg #[.int .i64 k', .int .i64 s', .bool l', .bool o', .bool f'], .bool q] by rw [hX]; rfl)
  have HE := Lib.hid (show actD ⟨k, s, l, o, f⟩ 8 = ⟨k', s', l', o', f'⟩ by show (begD ⟨k, s, l, o, f⟩ 1).1 = _; rw [hX])
  clear hX
  go_enter Try.func44, Try.ntmps44
  go_wp2_with fail
  generalize hX : (w.alloc (.cells #[.int .i64 k, .int .i64 s, .bool l, .bool o, .bool f] 27)) = w1
  have hb : Below w.heap.size w w1 := by rw [← hX]; exact balloc _ _
  have hk : Has w1 w.heap.size 27 #[.int .i64 k, .int .i64 s, .bool l, .bool o, .bool f] := by rw [← hX]; exact has_new _ _ _
  have hzw1 : w1.heap.size = w.heap.size + 1 := by rw [← hX]; simp
  clear hX
  have zb := hb; clear hb
  have za := hk; clear hk
  generalize hX : (w1.alloc (.cells #[.int .i64 0, .int .i64 0, .bool false, .bool false, .bool false] 27)) = w2
  have hb : Below w1.heap.size w1 w2 := by rw [← hX]; exact balloc _ _
  have hk : Has w2 w1.heap.size 27 #[.int .i64 0, .int .i64 0, .bool false, .bool false, .bool false] := by rw [← hX]; exact has_new _ _ _
  have hzw2 : w2.heap.size = w.heap.size + 2 := by rw [← hX]; simp [hzw1]
  clear hX
  rw [hzw1] at hk
  replace za := has_call za hb
  replace zb := bthen zb hb; clear hb
  have zr := hk; clear hk
  clear hzw1 hzw2
  refine (begS_any _ k s l o f 1).mono ?_
  rintro e w3 ⟨rfl, hb⟩
  rw [HV.out]
  replace za := has_call za hb
  replace zr := has_call zr hb
  replace zb := bthen zb hb; clear hb
  have zac0 := has_cell za 0 rfl; have zac1 := has_cell za 1 rfl; have zac2 := has_cell za 2 rfl; have zac3 := has_cell za 3 rfl; have zac4 := has_cell za 4 rfl
  have zaf0 := has_free za 0; have zaf1 := has_free za 1; have zaf2 := has_free za 2; have zaf3 := has_free za 3; have zaf4 := has_free za 4
  have zalt := has_lt za
  have zrc0 := has_cell zr 0 rfl; have zrc1 := has_cell zr 1 rfl; have zrc2 := has_cell zr 2 rfl; have zrc3 := has_cell zr 3 rfl; have zrc4 := has_cell zr 4 rfl
  have zrf0 := has_free zr 0; have zrf1 := has_free zr 1; have zrf2 := has_free zr 2; have zrf3 := has_free zr 3; have zrf4 := has_free zr 4
  have zrlt := has_lt zr
  have ZAH := Lib.hid za; clear za
  have ZRH := Lib.hid zr; clear zr
  have ZB := Lib.hid zb; clear zb
  go_wp2_with fail
  refine bodyPost_ret (v := .agg #[.int .i64 k', .int .i64 s', .bool l', .bool o', .bool f']) (by simp [results, Try.results44, go_sem, zac0, zac1, zac2, zac3, zac4, zaf0, zaf1, zaf2, zaf3, zaf4, zalt, zrc0, zrc1, zrc2, zrc3, zrc4, zrf0, zrf1, zrf2, zrf3, zrf4, zrlt]) rfl ⟨retv (by rw [HE.out]; rfl), ?_⟩
  repeat (first | (with_reducible exact ZB.out) | (with_reducible refine Below.alloc ?_ (by have h9 := ZB.out.size; simp <;> omega) _) | (with_reducible refine Below.drew ?_) | (with_reducible refine Below.setCell ?_ (by first | exact Nat.le_refl _ | exact Nat.le_add_right _ _ | (simp <;> omega)) _))
set_option maxRecDepth 100000 in
set_option maxHeartbeats 2000000 in
theorem actS_9 (w : World) (k s : Int) (l o f : Bool) : Calls Try.prog 44 #[.agg #[.int .i64 k, .int .i64 s, .bool l, .bool o, .bool f], .int .i64 9] w fun e w' => e = .returned (.agg (actD ⟨k, s, l, o, f⟩ 9).A) ∧ Below w.heap.size w w' := by
  obtain ⟨k', s', l', o', f', q, hX⟩ : ∃ k' s' l' o' f' q, begD ⟨k, s, l, o, f⟩ 2 = (⟨k', s', l', o', f'⟩, q) := ⟨_, _, _, _, _, _, rfl⟩
  have HV := Lib.hid (show drB (begD ⟨k, s, l, o, f⟩ 2) = .tuple #[.agg #[.int .i64 k', .int .i64 s', .bool l', .bool o', .bool f'], .bool q] by rw [hX]; rfl)
  have HE := Lib.hid (show actD ⟨k, s, l, o, f⟩ 9 = ⟨k', s', l', o', f'⟩ by show (begD ⟨k, s, l, o, f⟩ 2).1 = _; rw [hX])
  clear hX
  go_enter Try.func44, Try.ntmps44
  go_wp2_with fail
  generalize hX : (w.alloc (.cells #[.int .i64 k, .int .i64 s, .bool l, .bool o, .bool f] 27)) = w1
  have hb : Below w.heap.size w w1 := by rw [← hX]; exact balloc _ _
  have hk : Has w1 w.heap.size 27 #[.int .i64 k, .int .i64 s, .bool l, .bool o, .bool f] := by rw [← hX]; exact has_new _ _ _
  have hzw1 : w1.heap.size = w.heap.size + 1 := by rw [← hX]; simp
  clear hX
  have zb := hb; clear hb
  have za := hk; clear hk
  generalize hX : (w1.alloc (.cells #[.int .i64 0, .int .i64 0, .bool false, .bool false, .bool false] 27)) = w2
  have hb : Below w1.heap.size w1 w2 := by rw [← hX]; exact balloc _ _
  have hk : Has w2 w1.heap.size 27 #[.int .i64 0, .int .i64 0, .bool false, .bool false, .bool false] := by rw [← hX]; exact has_new _ _ _
  have hzw2 : w2.heap.size = w.heap.size + 2 := by rw [← hX]; simp [hzw1]
  clear hX
  rw [hzw1] at hk
  replace za := has_call za hb
  replace zb := bthen zb hb; clear hb
  have zr := hk; clear hk
  clear hzw1 hzw2
  refine (begS_any _ k s l o f 2).mono ?_
  rintro e w3 ⟨rfl, hb⟩
  rw [HV.out]
  replace za := has_call za hb
  replace zr := has_call zr hb
  replace zb := bthen zb hb; clear hb
  have zac0 := has_cell za 0 rfl; have zac1 := has_cell za 1 rfl; have zac2 := has_cell za 2 rfl; have zac3 := has_cell za 3 rfl; have zac4 := has_cell za 4 rfl
  have zaf0 := has_free za 0; have zaf1 := has_free za 1; have zaf2 := has_free za 2; have zaf3 := has_free za 3; have zaf4 := has_free za 4
  have zalt := has_lt za
  have zrc0 := has_cell zr 0 rfl; have zrc1 := has_cell zr 1 rfl; have zrc2 := has_cell zr 2 rfl; have zrc3 := has_cell zr 3 rfl; have zrc4 := has_cell zr 4 rfl
  have zrf0 := has_free zr 0; have zrf1 := has_free zr 1; have zrf2 := has_free zr 2; have zrf3 := has_free zr 3; have zrf4 := has_free zr 4
  have zrlt := has_lt zr
  have ZAH := Lib.hid za; clear za
  have ZRH := Lib.hid zr; clear zr
  have ZB := Lib.hid zb; clear zb
  go_wp2_with fail
  refine bodyPost_ret (v := .agg #[.int .i64 k', .int .i64 s', .bool l', .bool o', .bool f']) (by simp [results, Try.results44, go_sem, zac0, zac1, zac2, zac3, zac4, zaf0, zaf1, zaf2, zaf3, zaf4, zalt, zrc0, zrc1, zrc2, zrc3, zrc4, zrf0, zrf1, zrf2, zrf3, zrf4, zrlt]) rfl ⟨retv (by rw [HE.out]; rfl), ?_⟩
  repeat (first | (with_reducible exact ZB.out) | (with_reducible refine Below.alloc ?_ (by have h9 := ZB.out.size; simp <;> omega) _) | (with_reducible refine Below.drew ?_) | (with_reducible refine Below.setCell ?_ (by first | exact Nat.le_refl _ | exact Nat.le_add_right _ _ | (simp <;> omega)) _))
theorem actS_any (w : World) (k s : Int) (l o f : Bool) (a : Int) (h : inR a 1 9 = true) : Calls Try.prog 44 #[.agg #[.int .i64 k, .int .i64 s, .bool l, .bool o, .bool f], .int .i64 a] w fun e w' => e = .returned (.agg (actD ⟨k, s, l, o, f⟩ a).A) ∧ Below w.heap.size w w' := by
  have hc : a = 1 ∨ a = 2 ∨ a = 3 ∨ a = 4 ∨ a = 5 ∨ a = 6 ∨ a = 7 ∨ a = 8 ∨ a = 9 := by have := inR_iff.1 h; omega
  rcases hc with rfl | rfl | rfl | rfl | rfl | rfl | rfl | rfl | rfl
  · exact actS_1 w k s l o f
  · exact actS_2 w k s l o f
  · exact actS_3 w k s l o f
  · exact actS_4 w k s l o f
  · exact actS_5 w k s l o f
  · exact actS_6 w k s l o f
  · exact actS_7 w k s l o f
  · exact actS_8 w k s l o f
  · exact actS_9 w k s l o f
end Go.Proofs.Ytaeonangkbhmgaa
