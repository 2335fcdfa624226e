/- Chapter 3: contracts of the model's Try and Resync. -/
import Derived.Test.YtjpafmkmpnibgabDoorTryC
import Derived.Test.YtjpafmkmpnibgabDoorPair
namespace Go.Proofs.YtjpafmkmpnibgabDoor
open Go.RowKit
set_option linter.unusedVariables false
set_option maxRecDepth 100000 in
set_option maxHeartbeats 4000000 in
theorem tryS_any (w : World) (s n t p u now : Int) (c : ByteArray) : Calls Tryd.prog 12 #[.agg #[.int .i64 s, .int .i64 n, .int .i64 t, .int .i64 p, .int .i64 u], .string c, .int .i64 now] w fun e w' => e = .returned (lkT s (enterK s n t p u (findN (fun m => shownL s m [c]) n (fcnt n 5 1)) 1 now)) ∧ Below w.heap.size w w' := by
  obtain ⟨M, hM⟩ : ∃ M, findN (fun m => shownL s m [c]) n (fcnt n 5 1) = M := ⟨_, rfl⟩
  rw [hM]
  cases hok : lockB s n t p u
  · have HE := Lib.hid (enterK_bad (m := M) (len := 1) (now := now) fun h => by rw [hok] at h; cases h.1)
    go_enter Tryd.func12, Tryd.ntmps12
    go_wp2_with fail
    generalize hW0 : ((w.alloc _).alloc _) = w0
    have b0 : Below w.heap.size w w0 := by rw [← hW0]; exact bthen (balloc _ _) (balloc _ _)
    have k0 : Has w0 w.heap.size 25 #[.int .i64 s, .int .i64 n, .int .i64 t, .int .i64 p, .int .i64 u] := by rw [← hW0]; exact has_alloc (has_new _ _ _) _
    have k1 : Has w0 (w.heap.size + 1) 25 #[.int .i64 0, .int .i64 0, .int .i64 0, .int .i64 0, .int .i64 0] := by rw [← hW0]; have := has_new (w.alloc (.cells #[.int .i64 s, .int .i64 n, .int .i64 t, .int .i64 p, .int .i64 u] 25)) 25 #[.int .i64 0, .int .i64 0, .int .i64 0, .int .i64 0, .int .i64 0]; simpa using this
    clear hW0
    refine (lockS_any _ s n t p u).mono ?_
    rintro e w1 ⟨rfl, hb1⟩
    rw [hok]
    have m0 := has_call k0 hb1; have m1 := has_call k1 hb1
    have C1 := Lib.hid (bthen b0 hb1); clear hb1 b0 k0 k1
    have e0 := has_cell m0 0 rfl
    have e1 := has_cell m0 1 rfl
    have e2 := has_cell m0 2 rfl
    have e3 := has_cell m0 3 rfl
    have e4 := has_cell m0 4 rfl
    have r0 := has_cell m1 0 rfl
    have r1 := has_cell m1 1 rfl
    have r2 := has_cell m1 2 rfl
    have r3 := has_cell m1 3 rfl
    have r4 := has_cell m1 4 rfl
    have f0 := has_free m1 0
    have f1 := has_free m1 1
    have f2 := has_free m1 2
    have f3 := has_free m1 3
    have f4 := has_free m1 4
    have lt := has_lt m0; have lt1 := has_lt m1
    have X1 := Lib.hid (hset5 m1 (.int .i64 s) (.int .i64 n) (.int .i64 t) (.int .i64 p) (.int .i64 u)); have M0 := Lib.hid m0; have M1 := Lib.hid m1
    clear m0 m1
    go_wp2_with fail
    have g0 := has_cell X1.out 0 rfl
    have g1 := has_cell X1.out 1 rfl
    have g2 := has_cell X1.out 2 rfl
    have g3 := has_cell X1.out 3 rfl
    have g4 := has_cell X1.out 4 rfl
    refine bodyPost_ret (v := .tuple #[.agg #[.int .i64 s, .int .i64 n, .int .i64 t, .int .i64 p, .int .i64 u], .int .i64 4]) (by simp [results, Tryd.results12, go_sem, g0, g1, g2, g3, g4]) rfl ⟨retv (by rw [HE.out]; rfl), bset5 (Nat.le_succ _) _ _ _ _ _ C1.out⟩
  have hlk := lockB_iff.1 hok
  obtain ⟨_, ⟨n0, n1⟩, ⟨t0, t1⟩, ⟨p0, p1⟩, u0, u1⟩ := hlk
  cases htm : inR now 0 20000
  · have HE := Lib.hid (enterK_bad (s := s) (n := n) (t := t) (p := p) (u := u) (m := M) (len := 1) (now := now) fun h => by rw [htm] at h; cases h.2)
    go_enter Tryd.func12, Tryd.ntmps12
    go_wp2_with fail
    generalize hW0 : ((w.alloc _).alloc _) = w0
    have b0 : Below w.heap.size w w0 := by rw [← hW0]; exact bthen (balloc _ _) (balloc _ _)
    have k0 : Has w0 w.heap.size 25 #[.int .i64 s, .int .i64 n, .int .i64 t, .int .i64 p, .int .i64 u] := by rw [← hW0]; exact has_alloc (has_new _ _ _) _
    have k1 : Has w0 (w.heap.size + 1) 25 #[.int .i64 0, .int .i64 0, .int .i64 0, .int .i64 0, .int .i64 0] := by rw [← hW0]; have := has_new (w.alloc (.cells #[.int .i64 s, .int .i64 n, .int .i64 t, .int .i64 p, .int .i64 u] 25)) 25 #[.int .i64 0, .int .i64 0, .int .i64 0, .int .i64 0, .int .i64 0]; simpa using this
    clear hW0
    refine (lockS_any _ s n t p u).mono ?_
    rintro e w1 ⟨rfl, hb1⟩
    rw [hok]
    have m0 := has_call k0 hb1; have m1 := has_call k1 hb1
    have C1 := Lib.hid (bthen b0 hb1); clear hb1 b0 k0 k1
    have e0 := has_cell m0 0 rfl
    have e1 := has_cell m0 1 rfl
    have e2 := has_cell m0 2 rfl
    have e3 := has_cell m0 3 rfl
    have e4 := has_cell m0 4 rfl
    have r0 := has_cell m1 0 rfl
    have r1 := has_cell m1 1 rfl
    have r2 := has_cell m1 2 rfl
    have r3 := has_cell m1 3 rfl
    have r4 := has_cell m1 4 rfl
    have f0 := has_free m1 0
    have f1 := has_free m1 1
    have f2 := has_free m1 2
    have f3 := has_free m1 3
    have f4 := has_free m1 4
    have lt := has_lt m0; have lt1 := has_lt m1
    have X1 := Lib.hid (hset5 m1 (.int .i64 s) (.int .i64 n) (.int .i64 t) (.int .i64 p) (.int .i64 u)); have M0 := Lib.hid m0; have M1 := Lib.hid m1
    clear m0 m1
    go_wp2_with (refine (inR_any _ _ _ _).mono ?_; rintro e w' ⟨rfl, hw⟩; rw [hw, htm]; clear hw)
    have g0 := has_cell X1.out 0 rfl
    have g1 := has_cell X1.out 1 rfl
    have g2 := has_cell X1.out 2 rfl
    have g3 := has_cell X1.out 3 rfl
    have g4 := has_cell X1.out 4 rfl
    refine bodyPost_ret (v := .tuple #[.agg #[.int .i64 s, .int .i64 n, .int .i64 t, .int .i64 p, .int .i64 u], .int .i64 4]) (by simp [results, Tryd.results12, go_sem, g0, g1, g2, g3, g4]) rfl ⟨retv (by rw [HE.out]; rfl), bset5 (Nat.le_succ _) _ _ _ _ _ C1.out⟩
  have htb := inR_iff.1 htm
  obtain ⟨nw0, nw1⟩ := htb
  by_cases hw : now < u
  · have HE := Lib.hid (enterK_wait (m := M) (len := 1) hok htm hw)
    go_enter Tryd.func12, Tryd.ntmps12
    go_wp2_with fail
    generalize hW0 : ((w.alloc _).alloc _) = w0
    have b0 : Below w.heap.size w w0 := by rw [← hW0]; exact bthen (balloc _ _) (balloc _ _)
    have k0 : Has w0 w.heap.size 25 #[.int .i64 s, .int .i64 n, .int .i64 t, .int .i64 p, .int .i64 u] := by rw [← hW0]; exact has_alloc (has_new _ _ _) _
    have k1 : Has w0 (w.heap.size + 1) 25 #[.int .i64 0, .int .i64 0, .int .i64 0, .int .i64 0, .int .i64 0] := by rw [← hW0]; have := has_new (w.alloc (.cells #[.int .i64 s, .int .i64 n, .int .i64 t, .int .i64 p, .int .i64 u] 25)) 25 #[.int .i64 0, .int .i64 0, .int .i64 0, .int .i64 0, .int .i64 0]; simpa using this
    clear hW0
    refine (lockS_any _ s n t p u).mono ?_
    rintro e w1 ⟨rfl, hb1⟩
    rw [hok]
    have m0 := has_call k0 hb1; have m1 := has_call k1 hb1
    have C1 := Lib.hid (bthen b0 hb1); clear hb1 b0 k0 k1
    have e0 := has_cell m0 0 rfl
    have e1 := has_cell m0 1 rfl
    have e2 := has_cell m0 2 rfl
    have e3 := has_cell m0 3 rfl
    have e4 := has_cell m0 4 rfl
    have r0 := has_cell m1 0 rfl
    have r1 := has_cell m1 1 rfl
    have r2 := has_cell m1 2 rfl
    have r3 := has_cell m1 3 rfl
    have r4 := has_cell m1 4 rfl
    have f0 := has_free m1 0
    have f1 := has_free m1 1
    have f2 := has_free m1 2
    have f3 := has_free m1 3
    have f4 := has_free m1 4
    have lt := has_lt m0; have lt1 := has_lt m1
    have X1 := Lib.hid (hset5 m1 (.int .i64 s) (.int .i64 n) (.int .i64 t) (.int .i64 p) (.int .i64 u)); have M0 := Lib.hid m0; have M1 := Lib.hid m1
    clear m0 m1
    go_wp2_with (refine (inR_any _ _ _ _).mono ?_; rintro e w' ⟨rfl, hw'⟩; rw [hw', htm]; clear hw')
    have g0 := has_cell X1.out 0 rfl
    have g1 := has_cell X1.out 1 rfl
    have g2 := has_cell X1.out 2 rfl
    have g3 := has_cell X1.out 3 rfl
    have g4 := has_cell X1.out 4 rfl
    refine bodyPost_ret (v := .tuple #[.agg #[.int .i64 s, .int .i64 n, .int .i64 t, .int .i64 p, .int .i64 u], .int .i64 1]) (by simp [results, Tryd.results12, go_sem, g0, g1, g2, g3, g4]) rfl ⟨retv (by rw [HE.out]; rfl), bset5 (Nat.le_succ _) _ _ _ _ _ C1.out⟩
  have hMb : -1 ≤ M ∧ M ≤ 1000001 := by
    rcases findN_bd (fun m => shownL s m [c]) (fcnt n 5 1) n with h | ⟨h, h', _⟩
    · omega
    · rw [hM] at h h'; unfold fcnt at h'; omega
  obtain ⟨hMb0, hMb1⟩ := hMb
  by_cases hm : 0 ≤ M
  · have hee : entK n t p u (M + 1) now = enterK s n t p u M 1 now := by rw [enterK_open (m := M) (len := 1) hok htm hw hm (by omega), entK_yes (by omega)]
    obtain ⟨n', t', p', u', r, hX⟩ : ∃ n' t' p' u' r, enterK s n t p u M 1 now = (n', t', p', u', r) := ⟨_, _, _, _, _, rfl⟩
    have HV := Lib.hid (show lkT s (enterK s n t p u M 1 now) = .tuple #[.agg #[.int .i64 s, .int .i64 n', .int .i64 t', .int .i64 p', .int .i64 u'], .int .i64 r] by rw [hX]; rfl)
    have HT := Lib.hid (show lkT s (entK n t p u (M + 1) now) = .tuple #[.agg #[.int .i64 s, .int .i64 n', .int .i64 t', .int .i64 p', .int .i64 u'], .int .i64 r] by rw [hee, hX]; rfl)
    clear hX hee
    go_enter Tryd.func12, Tryd.ntmps12
    go_wp2_with fail
    generalize hW0 : ((w.alloc _).alloc _) = w0
    have b0 : Below w.heap.size w w0 := by rw [← hW0]; exact bthen (balloc _ _) (balloc _ _)
    have k0 : Has w0 w.heap.size 25 #[.int .i64 s, .int .i64 n, .int .i64 t, .int .i64 p, .int .i64 u] := by rw [← hW0]; exact has_alloc (has_new _ _ _) _
    have k1 : Has w0 (w.heap.size + 1) 25 #[.int .i64 0, .int .i64 0, .int .i64 0, .int .i64 0, .int .i64 0] := by rw [← hW0]; have := has_new (w.alloc (.cells #[.int .i64 s, .int .i64 n, .int .i64 t, .int .i64 p, .int .i64 u] 25)) 25 #[.int .i64 0, .int .i64 0, .int .i64 0, .int .i64 0, .int .i64 0]; simpa using this
    clear hW0
    refine (lockS_any _ s n t p u).mono ?_
    rintro e w1 ⟨rfl, hb1⟩
    rw [hok]
    have m0 := has_call k0 hb1; have m1 := has_call k1 hb1
    have C1 := Lib.hid (bthen b0 hb1); clear hb1 b0 k0 k1
    have e0 := has_cell m0 0 rfl
    have e1 := has_cell m0 1 rfl
    have e2 := has_cell m0 2 rfl
    have e3 := has_cell m0 3 rfl
    have e4 := has_cell m0 4 rfl
    have r0 := has_cell m1 0 rfl
    have r1 := has_cell m1 1 rfl
    have r2 := has_cell m1 2 rfl
    have r3 := has_cell m1 3 rfl
    have r4 := has_cell m1 4 rfl
    have f0 := has_free m1 0
    have f1 := has_free m1 1
    have f2 := has_free m1 2
    have f3 := has_free m1 3
    have f4 := has_free m1 4
    have lt := has_lt m0; have lt1 := has_lt m1
    have X1 := Lib.hid (hset5 m1 (.int .i64 s) (.int .i64 n) (.int .i64 t) (.int .i64 p) (.int .i64 u)); have M0 := Lib.hid m0; have M1 := Lib.hid m1
    clear m0 m1
    go_wp2_with (first | (go_at_call 25; refine (inR_any _ _ _ _).mono ?_; rintro e w' ⟨rfl, hw'⟩; rw [hw', htm]; clear hw') | fail)
    refine (matS_any _ s n t p u c).mono ?_
    rintro e w2 ⟨rfl, hb2⟩
    rw [matV_yes hok, hM]
    have m0 := has_call M0.out hb2; have m1 := has_call M1.out hb2
    have C2 := Lib.hid (bthen C1.out hb2)
    clear hb2 e0 r0 f0 e1 r1 f1 e2 r2 f2 e3 r3 f3 e4 r4 f4 lt lt1
    have e0 := has_cell m0 0 rfl
    have e1 := has_cell m0 1 rfl
    have e2 := has_cell m0 2 rfl
    have e3 := has_cell m0 3 rfl
    have e4 := has_cell m0 4 rfl
    have lt := has_lt m0
    have N1 := Lib.hid m1; clear m0 m1
    go_wp2_with fail
    clear e0 e1 e2 e3 e4 lt
    refine (entS_any _ s n t p u (M + 1) now t0 t1 p0 p1 nw0 nw1).mono ?_
    rintro e w3 ⟨rfl, hb3⟩
    rw [HT.out]
    have C3 := Lib.hid (bthen C2.out hb3); have N3 := Lib.hid (has_call N1.out hb3); clear hb3
    have bz := balloc w3 (.cells #[.int .i64 s, .int .i64 n', .int .i64 t', .int .i64 p', .int .i64 u'] 25)
    have m1 := has_call N3.out bz
    have kx := has_new w3 25 #[.int .i64 s, .int .i64 n', .int .i64 t', .int .i64 p', .int .i64 u']
    have C4 := Lib.hid (bthen C3.out bz)
    have r0 := has_cell m1 0 rfl
    have r1 := has_cell m1 1 rfl
    have r2 := has_cell m1 2 rfl
    have r3 := has_cell m1 3 rfl
    have r4 := has_cell m1 4 rfl
    have f0 := has_free m1 0
    have f1 := has_free m1 1
    have f2 := has_free m1 2
    have f3 := has_free m1 3
    have f4 := has_free m1 4
    have y0 := has_cell kx 0 rfl
    have y1 := has_cell kx 1 rfl
    have y2 := has_cell kx 2 rfl
    have y3 := has_cell kx 3 rfl
    have y4 := has_cell kx 4 rfl
    have lt1 := has_lt m1; have lt2 := has_lt kx
    have X2 := Lib.hid (hset5 m1 (.int .i64 s) (.int .i64 n') (.int .i64 t') (.int .i64 p') (.int .i64 u'))
    clear m1 kx bz
    go_wp2_with fail
    have g0 := has_cell X2.out 0 rfl
    have g1 := has_cell X2.out 1 rfl
    have g2 := has_cell X2.out 2 rfl
    have g3 := has_cell X2.out 3 rfl
    have g4 := has_cell X2.out 4 rfl
    refine bodyPost_ret (v := .tuple #[.agg #[.int .i64 s, .int .i64 n', .int .i64 t', .int .i64 p', .int .i64 u'], .int .i64 r]) (by simp [results, Tryd.results12, go_sem, g0, g1, g2, g3, g4]) rfl ⟨retv HV.out.symm, bset5 (Nat.le_succ _) _ _ _ _ _ C4.out⟩
  · have hee : entK n t p u (-1) now = enterK s n t p u M 1 now := by rw [enterK_wrong (m := M) (len := 1) hok htm hw hm, entK_no (by omega)]
    obtain ⟨n', t', p', u', r, hX⟩ : ∃ n' t' p' u' r, enterK s n t p u M 1 now = (n', t', p', u', r) := ⟨_, _, _, _, _, rfl⟩
    have HV := Lib.hid (show lkT s (enterK s n t p u M 1 now) = .tuple #[.agg #[.int .i64 s, .int .i64 n', .int .i64 t', .int .i64 p', .int .i64 u'], .int .i64 r] by rw [hX]; rfl)
    have HT := Lib.hid (show lkT s (entK n t p u (-1) now) = .tuple #[.agg #[.int .i64 s, .int .i64 n', .int .i64 t', .int .i64 p', .int .i64 u'], .int .i64 r] by rw [hee, hX]; rfl)
    clear hX hee
    go_enter Tryd.func12, Tryd.ntmps12
    go_wp2_with fail
    generalize hW0 : ((w.alloc _).alloc _) = w0
    have b0 : Below w.heap.size w w0 := by rw [← hW0]; exact bthen (balloc _ _) (balloc _ _)
    have k0 : Has w0 w.heap.size 25 #[.int .i64 s, .int .i64 n, .int .i64 t, .int .i64 p, .int .i64 u] := by rw [← hW0]; exact has_alloc (has_new _ _ _) _
    have k1 : Has w0 (w.heap.size + 1) 25 #[.int .i64 0, .int .i64 0, .int .i64 0, .int .i64 0, .int .i64 0] := by rw [← hW0]; have := has_new (w.alloc (.cells #[.int .i64 s, .int .i64 n, .int .i64 t, .int .i64 p, .int .i64 u] 25)) 25 #[.int .i64 0, .int .i64 0, .int .i64 0, .int .i64 0, .int .i64 0]; simpa using this
    clear hW0
    refine (lockS_any _ s n t p u).mono ?_
    rintro e w1 ⟨rfl, hb1⟩
    rw [hok]
    have m0 := has_call k0 hb1; have m1 := has_call k1 hb1
    have C1 := Lib.hid (bthen b0 hb1); clear hb1 b0 k0 k1
    have e0 := has_cell m0 0 rfl
    have e1 := has_cell m0 1 rfl
    have e2 := has_cell m0 2 rfl
    have e3 := has_cell m0 3 rfl
    have e4 := has_cell m0 4 rfl
    have r0 := has_cell m1 0 rfl
    have r1 := has_cell m1 1 rfl
    have r2 := has_cell m1 2 rfl
    have r3 := has_cell m1 3 rfl
    have r4 := has_cell m1 4 rfl
    have f0 := has_free m1 0
    have f1 := has_free m1 1
    have f2 := has_free m1 2
    have f3 := has_free m1 3
    have f4 := has_free m1 4
    have lt := has_lt m0; have lt1 := has_lt m1
    have X1 := Lib.hid (hset5 m1 (.int .i64 s) (.int .i64 n) (.int .i64 t) (.int .i64 p) (.int .i64 u)); have M0 := Lib.hid m0; have M1 := Lib.hid m1
    clear m0 m1
    go_wp2_with (first | (go_at_call 25; refine (inR_any _ _ _ _).mono ?_; rintro e w' ⟨rfl, hw'⟩; rw [hw', htm]; clear hw') | fail)
    refine (matS_any _ s n t p u c).mono ?_
    rintro e w2 ⟨rfl, hb2⟩
    rw [matV_yes hok, hM]
    have m0 := has_call M0.out hb2; have m1 := has_call M1.out hb2
    have C2 := Lib.hid (bthen C1.out hb2)
    clear hb2 e0 r0 f0 e1 r1 f1 e2 r2 f2 e3 r3 f3 e4 r4 f4 lt lt1
    have e0 := has_cell m0 0 rfl
    have e1 := has_cell m0 1 rfl
    have e2 := has_cell m0 2 rfl
    have e3 := has_cell m0 3 rfl
    have e4 := has_cell m0 4 rfl
    have lt := has_lt m0
    have N1 := Lib.hid m1; clear m0 m1
    go_wp2_with fail
    clear e0 e1 e2 e3 e4 lt
    refine (entS_any _ s n t p u (-1) now t0 t1 p0 p1 nw0 nw1).mono ?_
    rintro e w3 ⟨rfl, hb3⟩
    rw [HT.out]
    have C3 := Lib.hid (bthen C2.out hb3); have N3 := Lib.hid (has_call N1.out hb3); clear hb3
    have bz := balloc w3 (.cells #[.int .i64 s, .int .i64 n', .int .i64 t', .int .i64 p', .int .i64 u'] 25)
    have m1 := has_call N3.out bz
    have kx := has_new w3 25 #[.int .i64 s, .int .i64 n', .int .i64 t', .int .i64 p', .int .i64 u']
    have C4 := Lib.hid (bthen C3.out bz)
    have r0 := has_cell m1 0 rfl
    have r1 := has_cell m1 1 rfl
    have r2 := has_cell m1 2 rfl
    have r3 := has_cell m1 3 rfl
    have r4 := has_cell m1 4 rfl
    have f0 := has_free m1 0
    have f1 := has_free m1 1
    have f2 := has_free m1 2
    have f3 := has_free m1 3
    have f4 := has_free m1 4
    have y0 := has_cell kx 0 rfl
    have y1 := has_cell kx 1 rfl
    have y2 := has_cell kx 2 rfl
    have y3 := has_cell kx 3 rfl
    have y4 := has_cell kx 4 rfl
    have lt1 := has_lt m1; have lt2 := has_lt kx
    have X2 := Lib.hid (hset5 m1 (.int .i64 s) (.int .i64 n') (.int .i64 t') (.int .i64 p') (.int .i64 u'))
    clear m1 kx bz
    go_wp2_with fail
    have g0 := has_cell X2.out 0 rfl
    have g1 := has_cell X2.out 1 rfl
    have g2 := has_cell X2.out 2 rfl
    have g3 := has_cell X2.out 3 rfl
    have g4 := has_cell X2.out 4 rfl
    refine bodyPost_ret (v := .tuple #[.agg #[.int .i64 s, .int .i64 n', .int .i64 t', .int .i64 p', .int .i64 u'], .int .i64 r]) (by simp [results, Tryd.results12, go_sem, g0, g1, g2, g3, g4]) rfl ⟨retv HV.out.symm, bset5 (Nat.le_succ _) _ _ _ _ _ C4.out⟩
set_option maxRecDepth 100000 in
set_option maxHeartbeats 4000000 in
theorem resS_any (w : World) (s n t p u now : Int) (c c2 : ByteArray) : Calls Tryd.prog 20 #[.agg #[.int .i64 s, .int .i64 n, .int .i64 t, .int .i64 p, .int .i64 u], .string c, .string c2, .int .i64 now] w fun e w' => e = .returned (lkT s (enterK s n t p u (findN (fun m => shownL s m [c, c2]) n (fcnt n 40 2)) 2 now)) ∧ Below w.heap.size w w' := by
  obtain ⟨M, hM⟩ : ∃ M, findN (fun m => shownL s m [c, c2]) n (fcnt n 40 2) = M := ⟨_, rfl⟩
  rw [hM]
  cases hok : lockB s n t p u
  · have HE := Lib.hid (enterK_bad (m := M) (len := 2) (now := now) fun h => by rw [hok] at h; cases h.1)
    go_enter Tryd.func20, Tryd.ntmps20
    go_wp2_with fail
    generalize hW0 : ((w.alloc _).alloc _) = w0
    have b0 : Below w.heap.size w w0 := by rw [← hW0]; exact bthen (balloc _ _) (balloc _ _)
    have k0 : Has w0 w.heap.size 25 #[.int .i64 s, .int .i64 n, .int .i64 t, .int .i64 p, .int .i64 u] := by rw [← hW0]; exact has_alloc (has_new _ _ _) _
    have k1 : Has w0 (w.heap.size + 1) 25 #[.int .i64 0, .int .i64 0, .int .i64 0, .int .i64 0, .int .i64 0] := by rw [← hW0]; have := has_new (w.alloc (.cells #[.int .i64 s, .int .i64 n, .int .i64 t, .int .i64 p, .int .i64 u] 25)) 25 #[.int .i64 0, .int .i64 0, .int .i64 0, .int .i64 0, .int .i64 0]; simpa using this
    clear hW0
    refine (lockS_any _ s n t p u).mono ?_
    rintro e w1 ⟨rfl, hb1⟩
    rw [hok]
    have m0 := has_call k0 hb1; have m1 := has_call k1 hb1
    have C1 := Lib.hid (bthen b0 hb1); clear hb1 b0 k0 k1
    have e0 := has_cell m0 0 rfl
    have e1 := has_cell m0 1 rfl
    have e2 := has_cell m0 2 rfl
    have e3 := has_cell m0 3 rfl
    have e4 := has_cell m0 4 rfl
    have r0 := has_cell m1 0 rfl
    have r1 := has_cell m1 1 rfl
    have r2 := has_cell m1 2 rfl
    have r3 := has_cell m1 3 rfl
    have r4 := has_cell m1 4 rfl
    have f0 := has_free m1 0
    have f1 := has_free m1 1
    have f2 := has_free m1 2
    have f3 := has_free m1 3
    have f4 := has_free m1 4
    have lt := has_lt m0; have lt1 := has_lt m1
    have X1 := Lib.hid (hset5 m1 (.int .i64 s) (.int .i64 n) (.int .i64 t) (.int .i64 p) (.int .i64 u)); have M0 := Lib.hid m0; have M1 := Lib.hid m1
    clear m0 m1
    go_wp2_with fail
    have g0 := has_cell X1.out 0 rfl
    have g1 := has_cell X1.out 1 rfl
    have g2 := has_cell X1.out 2 rfl
    have g3 := has_cell X1.out 3 rfl
    have g4 := has_cell X1.out 4 rfl
    refine bodyPost_ret (v := .tuple #[.agg #[.int .i64 s, .int .i64 n, .int .i64 t, .int .i64 p, .int .i64 u], .int .i64 4]) (by simp [results, Tryd.results20, go_sem, g0, g1, g2, g3, g4]) rfl ⟨retv (by rw [HE.out]; rfl), bset5 (Nat.le_succ _) _ _ _ _ _ C1.out⟩
  have hlk := lockB_iff.1 hok
  obtain ⟨_, ⟨n0, n1⟩, ⟨t0, t1⟩, ⟨p0, p1⟩, u0, u1⟩ := hlk
  cases htm : inR now 0 20000
  · have HE := Lib.hid (enterK_bad (s := s) (n := n) (t := t) (p := p) (u := u) (m := M) (len := 2) (now := now) fun h => by rw [htm] at h; cases h.2)
    go_enter Tryd.func20, Tryd.ntmps20
    go_wp2_with fail
    generalize hW0 : ((w.alloc _).alloc _) = w0
    have b0 : Below w.heap.size w w0 := by rw [← hW0]; exact bthen (balloc _ _) (balloc _ _)
    have k0 : Has w0 w.heap.size 25 #[.int .i64 s, .int .i64 n, .int .i64 t, .int .i64 p, .int .i64 u] := by rw [← hW0]; exact has_alloc (has_new _ _ _) _
    have k1 : Has w0 (w.heap.size + 1) 25 #[.int .i64 0, .int .i64 0, .int .i64 0, .int .i64 0, .int .i64 0] := by rw [← hW0]; have := has_new (w.alloc (.cells #[.int .i64 s, .int .i64 n, .int .i64 t, .int .i64 p, .int .i64 u] 25)) 25 #[.int .i64 0, .int .i64 0, .int .i64 0, .int .i64 0, .int .i64 0]; simpa using this
    clear hW0
    refine (lockS_any _ s n t p u).mono ?_
    rintro e w1 ⟨rfl, hb1⟩
    rw [hok]
    have m0 := has_call k0 hb1; have m1 := has_call k1 hb1
    have C1 := Lib.hid (bthen b0 hb1); clear hb1 b0 k0 k1
    have e0 := has_cell m0 0 rfl
    have e1 := has_cell m0 1 rfl
    have e2 := has_cell m0 2 rfl
    have e3 := has_cell m0 3 rfl
    have e4 := has_cell m0 4 rfl
    have r0 := has_cell m1 0 rfl
    have r1 := has_cell m1 1 rfl
    have r2 := has_cell m1 2 rfl
    have r3 := has_cell m1 3 rfl
    have r4 := has_cell m1 4 rfl
    have f0 := has_free m1 0
    have f1 := has_free m1 1
    have f2 := has_free m1 2
    have f3 := has_free m1 3
    have f4 := has_free m1 4
    have lt := has_lt m0; have lt1 := has_lt m1
    have X1 := Lib.hid (hset5 m1 (.int .i64 s) (.int .i64 n) (.int .i64 t) (.int .i64 p) (.int .i64 u)); have M0 := Lib.hid m0; have M1 := Lib.hid m1
    clear m0 m1
    go_wp2_with (refine (inR_any _ _ _ _).mono ?_; rintro e w' ⟨rfl, hw⟩; rw [hw, htm]; clear hw)
    have g0 := has_cell X1.out 0 rfl
    have g1 := has_cell X1.out 1 rfl
    have g2 := has_cell X1.out 2 rfl
    have g3 := has_cell X1.out 3 rfl
    have g4 := has_cell X1.out 4 rfl
    refine bodyPost_ret (v := .tuple #[.agg #[.int .i64 s, .int .i64 n, .int .i64 t, .int .i64 p, .int .i64 u], .int .i64 4]) (by simp [results, Tryd.results20, go_sem, g0, g1, g2, g3, g4]) rfl ⟨retv (by rw [HE.out]; rfl), bset5 (Nat.le_succ _) _ _ _ _ _ C1.out⟩
  have htb := inR_iff.1 htm
  obtain ⟨nw0, nw1⟩ := htb
  by_cases hw : now < u
  · have HE := Lib.hid (enterK_wait (m := M) (len := 2) hok htm hw)
    go_enter Tryd.func20, Tryd.ntmps20
    go_wp2_with fail
    generalize hW0 : ((w.alloc _).alloc _) = w0
    have b0 : Below w.heap.size w w0 := by rw [← hW0]; exact bthen (balloc _ _) (balloc _ _)
    have k0 : Has w0 w.heap.size 25 #[.int .i64 s, .int .i64 n, .int .i64 t, .int .i64 p, .int .i64 u] := by rw [← hW0]; exact has_alloc (has_new _ _ _) _
    have k1 : Has w0 (w.heap.size + 1) 25 #[.int .i64 0, .int .i64 0, .int .i64 0, .int .i64 0, .int .i64 0] := by rw [← hW0]; have := has_new (w.alloc (.cells #[.int .i64 s, .int .i64 n, .int .i64 t, .int .i64 p, .int .i64 u] 25)) 25 #[.int .i64 0, .int .i64 0, .int .i64 0, .int .i64 0, .int .i64 0]; simpa using this
    clear hW0
    refine (lockS_any _ s n t p u).mono ?_
    rintro e w1 ⟨rfl, hb1⟩
    rw [hok]
    have m0 := has_call k0 hb1; have m1 := has_call k1 hb1
    have C1 := Lib.hid (bthen b0 hb1); clear hb1 b0 k0 k1
    have e0 := has_cell m0 0 rfl
    have e1 := has_cell m0 1 rfl
    have e2 := has_cell m0 2 rfl
    have e3 := has_cell m0 3 rfl
    have e4 := has_cell m0 4 rfl
    have r0 := has_cell m1 0 rfl
    have r1 := has_cell m1 1 rfl
    have r2 := has_cell m1 2 rfl
    have r3 := has_cell m1 3 rfl
    have r4 := has_cell m1 4 rfl
    have f0 := has_free m1 0
    have f1 := has_free m1 1
    have f2 := has_free m1 2
    have f3 := has_free m1 3
    have f4 := has_free m1 4
    have lt := has_lt m0; have lt1 := has_lt m1
    have X1 := Lib.hid (hset5 m1 (.int .i64 s) (.int .i64 n) (.int .i64 t) (.int .i64 p) (.int .i64 u)); have M0 := Lib.hid m0; have M1 := Lib.hid m1
    clear m0 m1
    go_wp2_with (refine (inR_any _ _ _ _).mono ?_; rintro e w' ⟨rfl, hw'⟩; rw [hw', htm]; clear hw')
    have g0 := has_cell X1.out 0 rfl
    have g1 := has_cell X1.out 1 rfl
    have g2 := has_cell X1.out 2 rfl
    have g3 := has_cell X1.out 3 rfl
    have g4 := has_cell X1.out 4 rfl
    refine bodyPost_ret (v := .tuple #[.agg #[.int .i64 s, .int .i64 n, .int .i64 t, .int .i64 p, .int .i64 u], .int .i64 1]) (by simp [results, Tryd.results20, go_sem, g0, g1, g2, g3, g4]) rfl ⟨retv (by rw [HE.out]; rfl), bset5 (Nat.le_succ _) _ _ _ _ _ C1.out⟩
  have hMb : -1 ≤ M ∧ M ≤ 1000001 := by
    rcases findN_bd (fun m => shownL s m [c, c2]) (fcnt n 40 2) n with h | ⟨h, h', _⟩
    · omega
    · rw [hM] at h h'; unfold fcnt at h'; omega
  obtain ⟨hMb0, hMb1⟩ := hMb
  by_cases hm : 0 ≤ M
  · have hee : entK n t p u (M + 2) now = enterK s n t p u M 2 now := by rw [enterK_open (m := M) (len := 2) hok htm hw hm (by omega), entK_yes (by omega)]
    obtain ⟨n', t', p', u', r, hX⟩ : ∃ n' t' p' u' r, enterK s n t p u M 2 now = (n', t', p', u', r) := ⟨_, _, _, _, _, rfl⟩
    have HV := Lib.hid (show lkT s (enterK s n t p u M 2 now) = .tuple #[.agg #[.int .i64 s, .int .i64 n', .int .i64 t', .int .i64 p', .int .i64 u'], .int .i64 r] by rw [hX]; rfl)
    have HT := Lib.hid (show lkT s (entK n t p u (M + 2) now) = .tuple #[.agg #[.int .i64 s, .int .i64 n', .int .i64 t', .int .i64 p', .int .i64 u'], .int .i64 r] by rw [hee, hX]; rfl)
    clear hX hee
    go_enter Tryd.func20, Tryd.ntmps20
    go_wp2_with fail
    generalize hW0 : ((w.alloc _).alloc _) = w0
    have b0 : Below w.heap.size w w0 := by rw [← hW0]; exact bthen (balloc _ _) (balloc _ _)
    have k0 : Has w0 w.heap.size 25 #[.int .i64 s, .int .i64 n, .int .i64 t, .int .i64 p, .int .i64 u] := by rw [← hW0]; exact has_alloc (has_new _ _ _) _
    have k1 : Has w0 (w.heap.size + 1) 25 #[.int .i64 0, .int .i64 0, .int .i64 0, .int .i64 0, .int .i64 0] := by rw [← hW0]; have := has_new (w.alloc (.cells #[.int .i64 s, .int .i64 n, .int .i64 t, .int .i64 p, .int .i64 u] 25)) 25 #[.int .i64 0, .int .i64 0, .int .i64 0, .int .i64 0, .int .i64 0]; simpa using this
    clear hW0
    refine (lockS_any _ s n t p u).mono ?_
    rintro e w1 ⟨rfl, hb1⟩
    rw [hok]
    have m0 := has_call k0 hb1; have m1 := has_call k1 hb1
    have C1 := Lib.hid (bthen b0 hb1); clear hb1 b0 k0 k1
    have e0 := has_cell m0 0 rfl
    have e1 := has_cell m0 1 rfl
    have e2 := has_cell m0 2 rfl
    have e3 := has_cell m0 3 rfl
    have e4 := has_cell m0 4 rfl
    have r0 := has_cell m1 0 rfl
    have r1 := has_cell m1 1 rfl
    have r2 := has_cell m1 2 rfl
    have r3 := has_cell m1 3 rfl
    have r4 := has_cell m1 4 rfl
    have f0 := has_free m1 0
    have f1 := has_free m1 1
    have f2 := has_free m1 2
    have f3 := has_free m1 3
    have f4 := has_free m1 4
    have lt := has_lt m0; have lt1 := has_lt m1
    have X1 := Lib.hid (hset5 m1 (.int .i64 s) (.int .i64 n) (.int .i64 t) (.int .i64 p) (.int .i64 u)); have M0 := Lib.hid m0; have M1 := Lib.hid m1
    clear m0 m1
    go_wp2_with (first | (go_at_call 25; refine (inR_any _ _ _ _).mono ?_; rintro e w' ⟨rfl, hw'⟩; rw [hw', htm]; clear hw') | fail)
    refine (pairS_any _ s n t p u c c2 n0 n1).mono ?_
    rintro e w2 ⟨rfl, hb2⟩
    rw [hM]
    have m0 := has_call M0.out hb2; have m1 := has_call M1.out hb2
    have C2 := Lib.hid (bthen C1.out hb2)
    clear hb2 e0 r0 f0 e1 r1 f1 e2 r2 f2 e3 r3 f3 e4 r4 f4 lt lt1
    have e0 := has_cell m0 0 rfl
    have e1 := has_cell m0 1 rfl
    have e2 := has_cell m0 2 rfl
    have e3 := has_cell m0 3 rfl
    have e4 := has_cell m0 4 rfl
    have lt := has_lt m0
    have N1 := Lib.hid m1; clear m0 m1
    go_wp2_with fail
    clear e0 e1 e2 e3 e4 lt
    refine (entS_any _ s n t p u (M + 2) now t0 t1 p0 p1 nw0 nw1).mono ?_
    rintro e w3 ⟨rfl, hb3⟩
    rw [HT.out]
    have C3 := Lib.hid (bthen C2.out hb3); have N3 := Lib.hid (has_call N1.out hb3); clear hb3
    have bz := balloc w3 (.cells #[.int .i64 s, .int .i64 n', .int .i64 t', .int .i64 p', .int .i64 u'] 25)
    have m1 := has_call N3.out bz
    have kx := has_new w3 25 #[.int .i64 s, .int .i64 n', .int .i64 t', .int .i64 p', .int .i64 u']
    have C4 := Lib.hid (bthen C3.out bz)
    have r0 := has_cell m1 0 rfl
    have r1 := has_cell m1 1 rfl
    have r2 := has_cell m1 2 rfl
    have r3 := has_cell m1 3 rfl
    have r4 := has_cell m1 4 rfl
    have f0 := has_free m1 0
    have f1 := has_free m1 1
    have f2 := has_free m1 2
    have f3 := has_free m1 3
    have f4 := has_free m1 4
    have y0 := has_cell kx 0 rfl
    have y1 := has_cell kx 1 rfl
    have y2 := has_cell kx 2 rfl
    have y3 := has_cell kx 3 rfl
    have y4 := has_cell kx 4 rfl
    have lt1 := has_lt m1; have lt2 := has_lt kx
    have X2 := Lib.hid (hset5 m1 (.int .i64 s) (.int .i64 n') (.int .i64 t') (.int .i64 p') (.int .i64 u'))
    clear m1 kx bz
    go_wp2_with fail
    have g0 := has_cell X2.out 0 rfl
    have g1 := has_cell X2.out 1 rfl
    have g2 := has_cell X2.out 2 rfl
    have g3 := has_cell X2.out 3 rfl
    have g4 := has_cell X2.out 4 rfl
    refine bodyPost_ret (v := .tuple #[.agg #[.int .i64 s, .int .i64 n', .int .i64 t', .int .i64 p', .int .i64 u'], .int .i64 r]) (by simp [results, Tryd.results20, go_sem, g0, g1, g2, g3, g4]) rfl ⟨retv HV.out.symm, bset5 (Nat.le_succ _) _ _ _ _ _ C4.out⟩
  · have hee : entK n t p u (-1) now = enterK s n t p u M 2 now := by rw [enterK_wrong (m := M) (len := 2) hok htm hw hm, entK_no (by omega)]
    obtain ⟨n', t', p', u', r, hX⟩ : ∃ n' t' p' u' r, enterK s n t p u M 2 now = (n', t', p', u', r) := ⟨_, _, _, _, _, rfl⟩
    have HV := Lib.hid (show lkT s (enterK s n t p u M 2 now) = .tuple #[.agg #[.int .i64 s, .int .i64 n', .int .i64 t', .int .i64 p', .int .i64 u'], .int .i64 r] by rw [hX]; rfl)
    have HT := Lib.hid (show lkT s (entK n t p u (-1) now) = .tuple #[.agg #[.int .i64 s, .int .i64 n', .int .i64 t', .int .i64 p', .int .i64 u'], .int .i64 r] by rw [hee, hX]; rfl)
    clear hX hee
    go_enter Tryd.func20, Tryd.ntmps20
    go_wp2_with fail
    generalize hW0 : ((w.alloc _).alloc _) = w0
    have b0 : Below w.heap.size w w0 := by rw [← hW0]; exact bthen (balloc _ _) (balloc _ _)
    have k0 : Has w0 w.heap.size 25 #[.int .i64 s, .int .i64 n, .int .i64 t, .int .i64 p, .int .i64 u] := by rw [← hW0]; exact has_alloc (has_new _ _ _) _
    have k1 : Has w0 (w.heap.size + 1) 25 #[.int .i64 0, .int .i64 0, .int .i64 0, .int .i64 0, .int .i64 0] := by rw [← hW0]; have := has_new (w.alloc (.cells #[.int .i64 s, .int .i64 n, .int .i64 t, .int .i64 p, .int .i64 u] 25)) 25 #[.int .i64 0, .int .i64 0, .int .i64 0, .int .i64 0, .int .i64 0]; simpa using this
    clear hW0
    refine (lockS_any _ s n t p u).mono ?_
    rintro e w1 ⟨rfl, hb1⟩
    rw [hok]
    have m0 := has_call k0 hb1; have m1 := has_call k1 hb1
    have C1 := Lib.hid (bthen b0 hb1); clear hb1 b0 k0 k1
    have e0 := has_cell m0 0 rfl
    have e1 := has_cell m0 1 rfl
    have e2 := has_cell m0 2 rfl
    have e3 := has_cell m0 3 rfl
    have e4 := has_cell m0 4 rfl
    have r0 := has_cell m1 0 rfl
    have r1 := has_cell m1 1 rfl
    have r2 := has_cell m1 2 rfl
    have r3 := has_cell m1 3 rfl
    have r4 := has_cell m1 4 rfl
    have f0 := has_free m1 0
    have f1 := has_free m1 1
    have f2 := has_free m1 2
    have f3 := has_free m1 3
    have f4 := has_free m1 4
    have lt := has_lt m0; have lt1 := has_lt m1
    have X1 := Lib.hid (hset5 m1 (.int .i64 s) (.int .i64 n) (.int .i64 t) (.int .i64 p) (.int .i64 u)); have M0 := Lib.hid m0; have M1 := Lib.hid m1
    clear m0 m1
    go_wp2_with (first | (go_at_call 25; refine (inR_any _ _ _ _).mono ?_; rintro e w' ⟨rfl, hw'⟩; rw [hw', htm]; clear hw') | fail)
    refine (pairS_any _ s n t p u c c2 n0 n1).mono ?_
    rintro e w2 ⟨rfl, hb2⟩
    rw [hM]
    have m0 := has_call M0.out hb2; have m1 := has_call M1.out hb2
    have C2 := Lib.hid (bthen C1.out hb2)
    clear hb2 e0 r0 f0 e1 r1 f1 e2 r2 f2 e3 r3 f3 e4 r4 f4 lt lt1
    have e0 := has_cell m0 0 rfl
    have e1 := has_cell m0 1 rfl
    have e2 := has_cell m0 2 rfl
    have e3 := has_cell m0 3 rfl
    have e4 := has_cell m0 4 rfl
    have lt := has_lt m0
    have N1 := Lib.hid m1; clear m0 m1
    go_wp2_with fail
    clear e0 e1 e2 e3 e4 lt
    refine (entS_any _ s n t p u (-1) now t0 t1 p0 p1 nw0 nw1).mono ?_
    rintro e w3 ⟨rfl, hb3⟩
    rw [HT.out]
    have C3 := Lib.hid (bthen C2.out hb3); have N3 := Lib.hid (has_call N1.out hb3); clear hb3
    have bz := balloc w3 (.cells #[.int .i64 s, .int .i64 n', .int .i64 t', .int .i64 p', .int .i64 u'] 25)
    have m1 := has_call N3.out bz
    have kx := has_new w3 25 #[.int .i64 s, .int .i64 n', .int .i64 t', .int .i64 p', .int .i64 u']
    have C4 := Lib.hid (bthen C3.out bz)
    have r0 := has_cell m1 0 rfl
    have r1 := has_cell m1 1 rfl
    have r2 := has_cell m1 2 rfl
    have r3 := has_cell m1 3 rfl
    have r4 := has_cell m1 4 rfl
    have f0 := has_free m1 0
    have f1 := has_free m1 1
    have f2 := has_free m1 2
    have f3 := has_free m1 3
    have f4 := has_free m1 4
    have y0 := has_cell kx 0 rfl
    have y1 := has_cell kx 1 rfl
    have y2 := has_cell kx 2 rfl
    have y3 := has_cell kx 3 rfl
    have y4 := has_cell kx 4 rfl
    have lt1 := has_lt m1; have lt2 := has_lt kx
    have X2 := Lib.hid (hset5 m1 (.int .i64 s) (.int .i64 n') (.int .i64 t') (.int .i64 p') (.int .i64 u'))
    clear m1 kx bz
    go_wp2_with fail
    have g0 := has_cell X2.out 0 rfl
    have g1 := has_cell X2.out 1 rfl
    have g2 := has_cell X2.out 2 rfl
    have g3 := has_cell X2.out 3 rfl
    have g4 := has_cell X2.out 4 rfl
    refine bodyPost_ret (v := .tuple #[.agg #[.int .i64 s, .int .i64 n', .int .i64 t', .int .i64 p', .int .i64 u'], .int .i64 r]) (by simp [results, Tryd.results20, go_sem, g0, g1, g2, g3, g4]) rfl ⟨retv HV.out.symm, bset5 (Nat.le_succ _) _ _ _ _ _ C4.out⟩
end Go.Proofs.YtjpafmkmpnibgabDoor
