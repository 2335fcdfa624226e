/- Chapter 3: contract of the model's l03Pair. -/
import Derived.Test.YtjpafmkmpnibgabDoorMatS
namespace Go.Proofs.YtjpafmkmpnibgabDoor
open Go.RowKit
set_option linter.unusedVariables false

theorem shown2_a {s m : Int} {a b : ByteArray} (h : ¬ codeT s m = a) : shownL s m [a, b] = false := shownL_no h
theorem shown2_b {s m : Int} {a b : ByteArray} (h : codeT s m = a) : shownL s m [a, b] = decide (codeT s (m + 1) = b) := by rw [shownL_yes h, shown1]
set_option maxRecDepth 100000 in
set_option maxHeartbeats 2000000 in
theorem pairS_any (w : World) (s n t p u : Int) (c c2 : ByteArray) (hn0 : 0 ≤ n) (hn1 : n ≤ 1000001) : Calls Tryd.prog 37 #[.agg #[.int .i64 s, .int .i64 n, .int .i64 t, .int .i64 p, .int .i64 u], .string c, .string c2] w fun e w' => e = .returned (.int .i64 (findN (fun m => shownL s m [c, c2]) n (fcnt n 40 2))) ∧ Below w.heap.size w w' := by
  obtain ⟨P, hP⟩ : ∃ P : Int → Bool, (fun m => shownL s m [c, c2]) = P := ⟨_, rfl⟩
  have HP := Lib.hid hP
  rw [hP]
  clear hP
  go_enter Tryd.func37, Tryd.ntmps37
  go_wp2
  go_loopw [7] (fun iv wr => ∃ m : Int, iv = .int .i64 m ∧ n ≤ m ∧ m ≤ 1000046 ∧ findN P n (fcnt n 40 2) = findN P m (min (n + 40) 1000001 - 1 - m).toNat ∧ Has wr w.heap.size 25 #[.int .i64 s, .int .i64 n, .int .i64 t, .int .i64 p, .int .i64 u] ∧ Below w.heap.size w wr) (fun iv _ => (1000047 - intOf iv).toNat)
  case atStart => exact ⟨n, rfl, Int.le_refl _, by omega, by unfold fcnt; congr 1; omega, has_new _ _ _, balloc _ _⟩
  case round =>
    obtain ⟨m, rfl, hm0, hm1, hfd, k0, b0⟩ := hrel
    have HF := Lib.hid hfd; clear hfd
    have e0 := has_cell k0 0 rfl; have e1 := has_cell k0 1 rfl
    have lt := has_lt k0
    have K0 := Lib.hid k0; have B0 := Lib.hid b0; clear k0 b0
    by_cases hlt : m + 1 ≤ 1000000
    · by_cases hlt2 : m + 1 < n + 40
      · have hstep : (min (n + 40) 1000001 - 1 - m).toNat = (min (n + 40) 1000001 - 1 - (m + 1)).toNat + 1 := by omega
        have HST := Lib.hid hstep; clear hstep
        have HY := Lib.hid (findN_yes P m (min (n + 40) 1000001 - 1 - (m + 1)).toNat)
        have HN := Lib.hid (findN_no P m (min (n + 40) 1000001 - 1 - (m + 1)).toNat)
        go_wp2_with fail
        refine (codeS_any _ s m).mono ?_
        rintro e w2 ⟨rfl, hb2⟩
        have k2 := has_call K0.out hb2
        have C2 := Lib.hid (bthen B0.out hb2)
        clear e0 e1 lt hb2
        have e0 := has_cell k2 0 rfl
        have lt := has_lt k2
        have K2 := Lib.hid k2; clear k2
        by_cases heq : codeT s m = c
        · have h2 := shown2_b (b := c2) heq
          rw [heq]
          have HEQ := Lib.hid heq; clear heq
          go_wp2_with fail
          refine (codeS_any _ s (m + 1)).mono ?_
          rintro e w3 ⟨rfl, hb3⟩
          have K3 := Lib.hid (has_call K2.out hb3)
          have C3 := Lib.hid (bthen C2.out hb3)
          clear hb3 e0 lt
          by_cases heq2 : codeT s (m + 1) = c2
          · have hp : P m = true := by rw [← HP.out]; show shownL s m [c, c2] = true; rw [h2]; simp [heq2]
            have HR := Lib.hid (HY.out hp)
            clear hp h2
            rw [heq2]
            clear heq2
            go_wp2_with fail
            go_ret
            exact ⟨rint (by rw [HF.out, HST.out, HR.out]), C3.out⟩
          · have hp : P m = false := by rw [← HP.out]; show shownL s m [c, c2] = false; rw [h2]; simp [heq2]
            have HR := Lib.hid (HN.out hp)
            have hne := str_ne heq2
            clear hp heq2 h2
            generalize codeT s (m + 1) = q at *
            go_wp2_with fail
            go_roundw
            case rel => exact ⟨m + 1, rfl, by omega, by omega, by rw [HF.out, HST.out, HR.out], K3.out, C3.out⟩
            case measure => simp [intOf]; omega
        · have hp : P m = false := by rw [← HP.out]; exact shown2_a heq
          have HR := Lib.hid (HN.out hp)
          have hne := str_ne heq
          clear hp heq e0 lt
          generalize codeT s m = q at *
          go_wp2_with fail
          go_roundw
          case rel => exact ⟨m + 1, rfl, by omega, by omega, by rw [HF.out, HST.out, HR.out], K2.out, C2.out⟩
          case measure => simp [intOf]; omega
      · have hz : (min (n + 40) 1000001 - 1 - m).toNat = 0 := by omega
        have HZ := Lib.hid hz; clear hz
        go_wp2_with fail
        go_ret
        exact ⟨rint (by rw [HF.out, HZ.out]; rfl), B0.out⟩
    · have hz : (min (n + 40) 1000001 - 1 - m).toNat = 0 := by omega
      have HZ := Lib.hid hz; clear hz
      go_wp2_with fail
      go_ret
      exact ⟨rint (by rw [HF.out, HZ.out]; rfl), B0.out⟩
end Go.Proofs.YtjpafmkmpnibgabDoor
