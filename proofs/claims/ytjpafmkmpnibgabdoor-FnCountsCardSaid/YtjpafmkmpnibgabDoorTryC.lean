/- Chapter 3: contracts of Try and Resync, both sides, and the walks of their laws. -/
import Derived.Test.YtjpafmkmpnibgabDoorTryB
namespace Go.Proofs.YtjpafmkmpnibgabDoor
open Go.RowKit
set_option linter.unusedVariables false
theorem bset5 {w W : World} {B r : Nat} (hr : B ≤ r) (a b c d e : Value) (hb : Below B w W) : Below B w (((((W.setCell ⟨r, 0, none⟩ a).setCell ⟨r, 1, none⟩ b).setCell ⟨r, 2, none⟩ c).setCell ⟨r, 3, none⟩ d).setCell ⟨r, 4, none⟩ e) :=
  ((((hb.setCell hr _).setCell hr _).setCell hr _).setCell hr _).setCell hr _
theorem hset5 {W : World} {r : Nat} {T : TypeId} {x0 x1 x2 x3 x4 : Value} (h : Has W r T #[x0, x1, x2, x3, x4]) (a b c d e : Value) : Has (((((W.setCell ⟨r, 0, none⟩ a).setCell ⟨r, 1, none⟩ b).setCell ⟨r, 2, none⟩ c).setCell ⟨r, 3, none⟩ d).setCell ⟨r, 4, none⟩ e) r T #[a, b, c, d, e] := by
  simpa using has_set (has_set (has_set (has_set (has_set h 0 a) 1 b) 2 c) 3 d) 4 e

set_option maxRecDepth 100000 in
set_option maxHeartbeats 2000000 in
theorem tryI_any (w : World) (s n t p u now : Int) (c : ByteArray) (hR : Rounds w) : Calls Tryd.prog 11 #[.agg #[.int .i64 s, .int .i64 n, .int .i64 t, .int .i64 p, .int .i64 u], .string c, .int .i64 now] w fun e w' => e = .returned (lkT s (enterK s n t p u (findN (fun m => shownL s m [c]) n (fcnt n 5 1)) 1 now)) ∧ Below w.heap.size w w' := by
  have HR := Lib.hid hR; clear hR
  obtain ⟨n', t', p', u', r, hX⟩ : ∃ n' t' p' u' r, enterK s n t p u (findN (fun m => shownL s m [c]) n (fcnt n 5 1)) 1 now = (n', t', p', u', r) := ⟨_, _, _, _, _, rfl⟩
  have HV := Lib.hid (show lkT s (enterK s n t p u (findN (fun m => shownL s m [c]) n (fcnt n 5 1)) 1 now) = .tuple #[.agg #[.int .i64 s, .int .i64 n', .int .i64 t', .int .i64 p', .int .i64 u'], .int .i64 r] by rw [hX]; rfl)
  have HX := Lib.hid hX; clear hX
  go_enter Tryd.func11, Tryd.ntmps11
  go_wp2_with fail
  generalize hA : w.alloc (.cells #[.int .i64 s, .int .i64 n, .int .i64 t, .int .i64 p, .int .i64 u] 25) = wa
  have ba : Below w.heap.size w wa := by rw [← hA]; exact balloc _ _
  have za : wa.heap.size = w.heap.size + 1 := by rw [← hA]; simp
  clear hA
  generalize hB : wa.alloc (.cells #[.int .i64 0, .int .i64 0, .int .i64 0, .int .i64 0, .int .i64 0] 25) = wb
  have bb : Below wa.heap.size wa wb := by rw [← hB]; exact balloc _ _
  have kb : Has wb wa.heap.size 25 #[.int .i64 0, .int .i64 0, .int .i64 0, .int .i64 0, .int .i64 0] := by rw [← hB]; exact has_new _ _ _
  have zb : wb.heap.size = w.heap.size + 2 := by rw [← hB]; simp [za]
  clear hB
  generalize hC : wb.alloc (.cells #[.int .i64 s, .int .i64 n, .int .i64 t, .int .i64 p, .int .i64 u] 47) = wc
  have bc : Below wb.heap.size wb wc := by rw [← hC]; exact balloc _ _
  have kc : Has wc wb.heap.size 47 #[.int .i64 s, .int .i64 n, .int .i64 t, .int .i64 p, .int .i64 u] := by rw [← hC]; exact has_new _ _ _
  have zc : wc.heap.size = w.heap.size + 3 := by rw [← hC]; simp [zb]
  clear hC
  generalize hD : wc.alloc _ = wd
  have bd : Below wc.heap.size wc wd := by rw [← hD]; exact balloc _ _
  have kd : Has wd wc.heap.size 9 #[.string c] := by rw [← hD]; exact has_new _ _ _
  clear hD
  have kb2 := has_call (has_call kb bc) bd
  have kc2 := has_call kc bd
  have cd := bthen (bthen (bthen ba bb) bc) bd
  rw [za] at kb2; rw [zb] at kc2; rw [zc] at kd
  clear kb kc
  refine (enter_any wd (w.heap.size + 2) (w.heap.size + 3) s n t p u now 5 [c] (HR.out.below cd) kc2 (has_lt kd) (by omega) (fun i a h => by
    rcases i with _ | i
    · simp at h; subst h; exact has_cell kd 0 rfl
    · simp at h) (by omega) (by omega) (by simp)).mono ?_
  rintro e we ⟨rfl, hk, ho⟩
  have hX2 : enterK s n t p u (findN (fun m => shownL s m [c]) n (fcnt n 5 ([c] : List ByteArray).length)) ([c] : List ByteArray).length now = (n', t', p', u', r) := HX.out
  rw [hX2] at hk; rw [hX2]
  clear hX2
  have hk' : Has we (w.heap.size + 2) 47 #[.int .i64 s, .int .i64 n', .int .i64 t', .int .i64 p', .int .i64 u'] := hk
  have kr := has_only kb2 ho (by omega)
  have hsz := cd.size
  have ce := cd.trans (only_below ho hsz (Nat.le_add_right _ 2))
  clear hk kb2 kc2 kd cd ba bb bc bd ho za zb zc hsz
  have e0 := has_cell hk' 0 rfl
  have e1 := has_cell hk' 1 rfl
  have e2 := has_cell hk' 2 rfl
  have e3 := has_cell hk' 3 rfl
  have e4 := has_cell hk' 4 rfl
  have r0 := has_cell kr 0 rfl
  have r1 := has_cell kr 1 rfl
  have r2 := has_cell kr 2 rfl
  have r3 := has_cell kr 3 rfl
  have r4 := has_cell kr 4 rfl
  have f0 := has_free kr 0
  have f1 := has_free kr 1
  have f2 := has_free kr 2
  have f3 := has_free kr 3
  have f4 := has_free kr 4
  have lt := has_lt hk'; have lt1 := has_lt kr
  have X1 := Lib.hid (hset5 kr (.int .i64 s) (.int .i64 n') (.int .i64 t') (.int .i64 p') (.int .i64 u'))
  have CE := Lib.hid ce; clear kr hk' ce
  go_wp2_with fail
  have g0 := has_cell X1.out 0 rfl
  have g1 := has_cell X1.out 1 rfl
  have g2 := has_cell X1.out 2 rfl
  have g3 := has_cell X1.out 3 rfl
  have g4 := has_cell X1.out 4 rfl
  refine bodyPost_ret (v := .tuple #[.agg #[.int .i64 s, .int .i64 n', .int .i64 t', .int .i64 p', .int .i64 u'], .int .i64 r]) (by simp [results, Tryd.results11, go_sem, g0, g1, g2, g3, g4]) rfl ⟨retv HV.out.symm, bset5 (Nat.le_succ _) _ _ _ _ _ CE.out⟩
set_option maxRecDepth 100000 in
set_option maxHeartbeats 2000000 in
theorem resI_any (w : World) (s n t p u now : Int) (c c2 : ByteArray) (hR : Rounds w) : Calls Tryd.prog 19 #[.agg #[.int .i64 s, .int .i64 n, .int .i64 t, .int .i64 p, .int .i64 u], .string c, .string c2, .int .i64 now] w fun e w' => e = .returned (lkT s (enterK s n t p u (findN (fun m => shownL s m [c, c2]) n (fcnt n 40 2)) 2 now)) ∧ Below w.heap.size w w' := by
  have HR := Lib.hid hR; clear hR
  obtain ⟨n', t', p', u', r, hX⟩ : ∃ n' t' p' u' r, enterK s n t p u (findN (fun m => shownL s m [c, c2]) n (fcnt n 40 2)) 2 now = (n', t', p', u', r) := ⟨_, _, _, _, _, rfl⟩
  have HV := Lib.hid (show lkT s (enterK s n t p u (findN (fun m => shownL s m [c, c2]) n (fcnt n 40 2)) 2 now) = .tuple #[.agg #[.int .i64 s, .int .i64 n', .int .i64 t', .int .i64 p', .int .i64 u'], .int .i64 r] by rw [hX]; rfl)
  have HX := Lib.hid hX; clear hX
  go_enter Tryd.func19, Tryd.ntmps19
  go_wp2_with fail
  generalize hA : w.alloc (.cells #[.int .i64 s, .int .i64 n, .int .i64 t, .int .i64 p, .int .i64 u] 25) = wa
  have ba : Below w.heap.size w wa := by rw [← hA]; exact balloc _ _
  have za : wa.heap.size = w.heap.size + 1 := by rw [← hA]; simp
  clear hA
  generalize hB : wa.alloc (.cells #[.int .i64 0, .int .i64 0, .int .i64 0, .int .i64 0, .int .i64 0] 25) = wb
  have bb : Below wa.heap.size wa wb := by rw [← hB]; exact balloc _ _
  have kb : Has wb wa.heap.size 25 #[.int .i64 0, .int .i64 0, .int .i64 0, .int .i64 0, .int .i64 0] := by rw [← hB]; exact has_new _ _ _
  have zb : wb.heap.size = w.heap.size + 2 := by rw [← hB]; simp [za]
  clear hB
  generalize hC : wb.alloc (.cells #[.int .i64 s, .int .i64 n, .int .i64 t, .int .i64 p, .int .i64 u] 47) = wc
  have bc : Below wb.heap.size wb wc := by rw [← hC]; exact balloc _ _
  have kc : Has wc wb.heap.size 47 #[.int .i64 s, .int .i64 n, .int .i64 t, .int .i64 p, .int .i64 u] := by rw [← hC]; exact has_new _ _ _
  have zc : wc.heap.size = w.heap.size + 3 := by rw [← hC]; simp [zb]
  clear hC
  generalize hD : wc.alloc _ = wd
  have bd : Below wc.heap.size wc wd := by rw [← hD]; exact balloc _ _
  have kd : Has wd wc.heap.size 9 #[.string c, .string c2] := by rw [← hD]; exact has_new _ _ _
  clear hD
  have kb2 := has_call (has_call kb bc) bd
  have kc2 := has_call kc bd
  have cd := bthen (bthen (bthen ba bb) bc) bd
  rw [za] at kb2; rw [zb] at kc2; rw [zc] at kd
  clear kb kc
  refine (enter_any wd (w.heap.size + 2) (w.heap.size + 3) s n t p u now 40 [c, c2] (HR.out.below cd) kc2 (has_lt kd) (by omega) (fun i a h => by
    rcases i with _ | i
    · simp at h; subst h; exact has_cell kd 0 rfl
    · rcases i with _ | i
      · simp at h; subst h; exact has_cell kd 1 rfl
      · simp at h) (by omega) (by omega) (by simp)).mono ?_
  rintro e we ⟨rfl, hk, ho⟩
  have hX2 : enterK s n t p u (findN (fun m => shownL s m [c, c2]) n (fcnt n 40 ([c, c2] : List ByteArray).length)) ([c, c2] : List ByteArray).length now = (n', t', p', u', r) := HX.out
  rw [hX2] at hk; rw [hX2]
  clear hX2
  have hk' : Has we (w.heap.size + 2) 47 #[.int .i64 s, .int .i64 n', .int .i64 t', .int .i64 p', .int .i64 u'] := hk
  have kr := has_only kb2 ho (by omega)
  have hsz := cd.size
  have ce := cd.trans (only_below ho hsz (Nat.le_add_right _ 2))
  clear hk kb2 kc2 kd cd ba bb bc bd ho za zb zc hsz
  have e0 := has_cell hk' 0 rfl
  have e1 := has_cell hk' 1 rfl
  have e2 := has_cell hk' 2 rfl
  have e3 := has_cell hk' 3 rfl
  have e4 := has_cell hk' 4 rfl
  have r0 := has_cell kr 0 rfl
  have r1 := has_cell kr 1 rfl
  have r2 := has_cell kr 2 rfl
  have r3 := has_cell kr 3 rfl
  have r4 := has_cell kr 4 rfl
  have f0 := has_free kr 0
  have f1 := has_free kr 1
  have f2 := has_free kr 2
  have f3 := has_free kr 3
  have f4 := has_free kr 4
  have lt := has_lt hk'; have lt1 := has_lt kr
  have X1 := Lib.hid (hset5 kr (.int .i64 s) (.int .i64 n') (.int .i64 t') (.int .i64 p') (.int .i64 u'))
  have CE := Lib.hid ce; clear kr hk' ce
  go_wp2_with fail
  have g0 := has_cell X1.out 0 rfl
  have g1 := has_cell X1.out 1 rfl
  have g2 := has_cell X1.out 2 rfl
  have g3 := has_cell X1.out 3 rfl
  have g4 := has_cell X1.out 4 rfl
  refine bodyPost_ret (v := .tuple #[.agg #[.int .i64 s, .int .i64 n', .int .i64 t', .int .i64 p', .int .i64 u'], .int .i64 r]) (by simp [results, Tryd.results19, go_sem, g0, g1, g2, g3, g4]) rfl ⟨retv HV.out.symm, bset5 (Nat.le_succ _) _ _ _ _ _ CE.out⟩
end Go.Proofs.YtjpafmkmpnibgabDoor
