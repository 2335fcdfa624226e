/- Chapter 3: contract of the model's MatchOf, and the law's walk. -/
import Derived.Test.YtjpafmkmpnibgabDoorMatA
import Derived.Test.YtjpafmkmpnibgabDoorLckD
namespace Go.Proofs.YtjpafmkmpnibgabDoor
open Go.RowKit
set_option linter.unusedVariables false

theorem shown1 (s m : Int) (c : ByteArray) : shownL s m [c] = decide (codeT s m = c) := by
  by_cases h : codeT s m = c
  · rw [shownL_yes h]; simp [shownL, h]
  · rw [shownL_no h]; simp [h]
set_option maxRecDepth 100000 in
set_option maxHeartbeats 2000000 in
theorem matS_any (w : World) (s n t p u : Int) (c : ByteArray) : Calls Tryd.prog 14 #[.agg #[.int .i64 s, .int .i64 n, .int .i64 t, .int .i64 p, .int .i64 u], .string c] w fun e w' => e = .returned (.int .i64 (matV s n t p u c)) ∧ Below w.heap.size w w' := by
  cases hok : lockB s n t p u
  · have HV := Lib.hid (matV_no (c := c) hok)
    go_enter Tryd.func14, Tryd.ntmps14
    go_wp2
    go_loopw [5] (fun iv wr => iv = .int .i64 n ∧ Has wr w.heap.size 25 #[.int .i64 s, .int .i64 n, .int .i64 t, .int .i64 p, .int .i64 u] ∧ Below w.heap.size w wr) (fun _ _ => 0)
    case atStart => exact ⟨rfl, has_new _ _ _, balloc _ _⟩
    case round =>
      obtain ⟨rfl, k0, b0⟩ := hrel
      have e0 := has_cell k0 0 rfl; have e1 := has_cell k0 1 rfl; have e2 := has_cell k0 2 rfl; have e3 := has_cell k0 3 rfl; have e4 := has_cell k0 4 rfl
      have lt := has_lt k0
      go_wp2_with fail
      refine (lockS_any _ s n t p u).mono ?_
      rintro e w1 ⟨rfl, hb1⟩
      rw [hok]
      have C1 := Lib.hid (bthen b0 hb1); clear hb1 k0 b0 e0 e1 e2 e3 e4 lt
      go_wp2_with fail
      go_ret
      exact ⟨rint HV.out.symm, C1.out⟩
  · have HV := Lib.hid (matV_yes (c := c) hok)
    have hbd := (lockB_iff.1 hok).2.1
    obtain ⟨hn0, hn1⟩ := hbd
    obtain ⟨P, hP⟩ : ∃ P : Int → Bool, (fun m => shownL s m [c]) = P := ⟨_, rfl⟩
    have HP := Lib.hid hP; clear hP
    go_enter Tryd.func14, Tryd.ntmps14
    go_wp2
    go_loopw [5] (fun iv wr => ∃ m : Int, iv = .int .i64 m ∧ n ≤ m ∧ m ≤ 1000006 ∧ findN P n (fcnt n 5 1) = findN P m (min (n + 5) 1000001 - m).toNat ∧ Has wr w.heap.size 25 #[.int .i64 s, .int .i64 n, .int .i64 t, .int .i64 p, .int .i64 u] ∧ Below w.heap.size w wr) (fun iv _ => (1000007 - intOf iv).toNat)
    case atStart => exact ⟨n, rfl, Int.le_refl _, by omega, by unfold fcnt; congr 1; omega, has_new _ _ _, balloc _ _⟩
    case round =>
      obtain ⟨m, rfl, hm0, hm1, hfd, k0, b0⟩ := hrel
      have HF := Lib.hid hfd; clear hfd
      have e0 := has_cell k0 0 rfl; have e1 := has_cell k0 1 rfl; have e2 := has_cell k0 2 rfl; have e3 := has_cell k0 3 rfl; have e4 := has_cell k0 4 rfl
      have lt := has_lt k0
      have K0 := Lib.hid k0; have B0 := Lib.hid b0; clear k0 b0
      by_cases hlt : m ≤ 1000000
      · by_cases hlt2 : m < n + 5
        · have hstep : (min (n + 5) 1000001 - m).toNat = (min (n + 5) 1000001 - (m + 1)).toNat + 1 := by omega
          have HST := Lib.hid hstep; clear hstep
          go_wp2_with fail
          refine (lockS_any _ s n t p u).mono ?_
          rintro e w1 ⟨rfl, hb1⟩
          rw [hok]
          have k1 := has_call K0.out hb1
          have C1 := Lib.hid (bthen B0.out hb1)
          clear e0 e1 e2 e3 e4 lt hb1
          have e0 := has_cell k1 0 rfl; have e1 := has_cell k1 1 rfl
          have lt := has_lt k1
          have K1 := Lib.hid k1; clear k1
          go_wp2_with fail
          refine (codeS_any _ s m).mono ?_
          rintro e w2 ⟨rfl, hb2⟩
          have K2 := Lib.hid (has_call K1.out hb2)
          have C2 := Lib.hid (bthen C1.out hb2)
          clear e0 e1 lt hb2
          by_cases heq : codeT s m = c
          · have hp : P m = true := by rw [← HP.out]; show shownL s m [c] = true; rw [shown1]; simp [heq]
            have HR := Lib.hid (findN_yes P m (min (n + 5) 1000001 - (m + 1)).toNat hp)
            clear hp
            rw [heq]
            clear heq
            go_wp2_with fail
            go_ret
            exact ⟨rint (by rw [HV.out, HP.out, HF.out, HST.out, HR.out]), C2.out⟩
          · have hp : P m = false := by rw [← HP.out]; show shownL s m [c] = false; rw [shown1]; simp [heq]
            have HR := Lib.hid (findN_no P m (min (n + 5) 1000001 - (m + 1)).toNat hp)
            have hne := str_ne heq
            clear hp heq
            generalize codeT s m = q at *
            go_wp2_with fail
            go_roundw
            case rel => exact ⟨m + 1, rfl, by omega, by omega, by rw [HF.out, HST.out, HR.out], K2.out, C2.out⟩
            case measure => simp [intOf]; omega
        · have hz : (min (n + 5) 1000001 - m).toNat = 0 := by omega
          have HZ := Lib.hid hz; clear hz
          go_wp2_with fail
          refine (lockS_any _ s n t p u).mono ?_
          rintro e w1 ⟨rfl, hb1⟩
          rw [hok]
          have k1 := has_call K0.out hb1
          have C1 := Lib.hid (bthen B0.out hb1)
          clear e0 e1 e2 e3 e4 lt hb1
          have e0 := has_cell k1 0 rfl; have e1 := has_cell k1 1 rfl
          have lt := has_lt k1
          clear k1
          go_wp2_with fail
          go_ret
          exact ⟨rint (by rw [HV.out, HP.out, HF.out, HZ.out]; rfl), C1.out⟩
      · have hz : (min (n + 5) 1000001 - m).toNat = 0 := by omega
        have HZ := Lib.hid hz; clear hz
        go_wp2_with fail
        refine (lockS_any _ s n t p u).mono ?_
        rintro e w1 ⟨rfl, hb1⟩
        rw [hok]
        have k1 := has_call K0.out hb1
        have C1 := Lib.hid (bthen B0.out hb1)
        clear e0 e1 e2 e3 e4 lt hb1
        have e0 := has_cell k1 0 rfl; have e1 := has_cell k1 1 rfl
        have lt := has_lt k1
        clear k1
        go_wp2_with fail
        go_ret
        exact ⟨rint (by rw [HV.out, HP.out, HF.out, HZ.out]; rfl), C1.out⟩

end Go.Proofs.YtjpafmkmpnibgabDoor
