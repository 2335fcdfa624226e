/- Chapter 3: contracts of NewLock, TryName and MostWrong, both sides, and of the laws' copies and comparisons. -/
import Derived.Test.YtjpafmkmpnibgaaDoorLckB
namespace Go.Proofs.YtjpafmkmpnibgaaDoor
open Go.RowKit
set_option linter.unusedVariables false
/-- what NewLock answers -/
def newK (s : Int) : Value := if secB s = true then .tuple #[.agg #[.int .i64 s, .int .i64 0, .int .i64 0, .int .i64 0, .int .i64 0], .bool true] else .tuple #[.agg #[.int .i64 0, .int .i64 0, .int .i64 0, .int .i64 0, .int .i64 0], .bool false]
theorem newK_yes {s : Int} (h : secB s = true) : newK s = .tuple #[.agg #[.int .i64 s, .int .i64 0, .int .i64 0, .int .i64 0, .int .i64 0], .bool true] := if_pos h
theorem newK_no {s : Int} (h : secB s = false) : newK s = .tuple #[.agg #[.int .i64 0, .int .i64 0, .int .i64 0, .int .i64 0, .int .i64 0], .bool false] := if_neg (by rw [h]; simp)
theorem retv {a b : Value} (h : a = b) : Ending.returned a = .returned b := by rw [h]
set_option maxRecDepth 100000 in
set_option maxHeartbeats 1000000 in
theorem newKS_any (w : World) (s : Int) : Calls Tryd.prog 26 #[.int .i64 s] w fun e w' => e = .returned (newK s) ∧ Below w.heap.size w w' := by
  cases h1 : secB s
  · have HK := Lib.hid (newK_no h1)
    go_enter Tryd.func26, Tryd.ntmps26
    go_wp2_with (refine (secS_any _ _).mono ?_; rintro e w' ⟨rfl, rfl⟩; rw [h1])
    refine bodyPost_ret (v := .tuple #[.agg #[.int .i64 0, .int .i64 0, .int .i64 0, .int .i64 0, .int .i64 0], .bool false]) (by simp [results, Tryd.results26, go_sem]) rfl ⟨retv HK.out.symm, ?_⟩
    first | exact balloc _ _ | exact (balloc _ _).setCell (Nat.le_refl _) _
  · have HK := Lib.hid (newK_yes h1)
    go_enter Tryd.func26, Tryd.ntmps26
    go_wp2_with (refine (secS_any _ _).mono ?_; rintro e w' ⟨rfl, rfl⟩; rw [h1])
    refine bodyPost_ret (v := .tuple #[.agg #[.int .i64 s, .int .i64 0, .int .i64 0, .int .i64 0, .int .i64 0], .bool true]) (by simp [results, Tryd.results26, go_sem]) rfl ⟨retv HK.out.symm, ?_⟩
    first | exact balloc _ _ | exact (balloc _ _).setCell (Nat.le_refl _) _
set_option maxRecDepth 100000 in
set_option maxHeartbeats 1000000 in
theorem newKI_any (w : World) (s : Int) : Calls Tryd.prog 24 #[.int .i64 s] w fun e w' => e = .returned (newK s) ∧ Below w.heap.size w w' := by
  cases h1 : secB s
  · have HK := Lib.hid (newK_no h1)
    go_enter Tryd.func24, Tryd.ntmps24
    go_wp2_with (refine (secI_any _ _).mono ?_; rintro e w' ⟨rfl, rfl⟩; rw [h1])
    refine bodyPost_ret (v := .tuple #[.agg #[.int .i64 0, .int .i64 0, .int .i64 0, .int .i64 0, .int .i64 0], .bool false]) (by simp [results, Tryd.results24, go_sem]) rfl ⟨retv HK.out.symm, ?_⟩
    first | exact balloc _ _ | exact (balloc _ _).setCell (Nat.le_refl _) _
  · have HK := Lib.hid (newK_yes h1)
    go_enter Tryd.func24, Tryd.ntmps24
    go_wp2_with (refine (secI_any _ _).mono ?_; rintro e w' ⟨rfl, rfl⟩; rw [h1])
    refine bodyPost_ret (v := .tuple #[.agg #[.int .i64 s, .int .i64 0, .int .i64 0, .int .i64 0, .int .i64 0], .bool true]) (by simp [results, Tryd.results24, go_sem]) rfl ⟨retv HK.out.symm, ?_⟩
    first | exact balloc _ _ | exact (balloc _ _).setCell (Nat.le_refl _) _

theorem toLock_any (w : World) (s n t p u : Int) : Calls Tryd.prog 12 #[.agg #[.int .i64 s, .int .i64 n, .int .i64 t, .int .i64 p, .int .i64 u]] w fun e w' => e = .returned (.agg #[.int .i64 s, .int .i64 n, .int .i64 t, .int .i64 p, .int .i64 u]) ∧ Below w.heap.size w w' := by
  go_enter Tryd.func12, Tryd.ntmps12
  go_wp2
  exact bodyPost_ret (v := .agg #[.int .i64 s, .int .i64 n, .int .i64 t, .int .i64 p, .int .i64 u]) (by simp [results, Tryd.results12, go_sem]) rfl ⟨rfl, (((Below.refl _ _).alloc (Nat.le_refl _) _).alloc (by simp) _).alloc (by simp; omega) _⟩
theorem toPad_any (w : World) (s c : Int) : Calls Tryd.prog 20 #[.agg #[.int .i64 s, .int .i64 c]] w fun e w' => e = .returned (.agg #[.int .i64 s, .int .i64 c]) ∧ Below w.heap.size w w' := by
  go_enter Tryd.func20, Tryd.ntmps20
  go_wp2
  exact bodyPost_ret (v := .agg #[.int .i64 s, .int .i64 c]) (by simp [results, Tryd.results20, go_sem]) rfl ⟨rfl, (((Below.refl _ _).alloc (Nat.le_refl _) _).alloc (by simp) _).alloc (by simp; omega) _⟩
theorem eqLock_any (w : World) (s n t p u : Int) : Calls Tryd.prog 16 #[.agg #[.int .i64 s, .int .i64 n, .int .i64 t, .int .i64 p, .int .i64 u], .agg #[.int .i64 s, .int .i64 n, .int .i64 t, .int .i64 p, .int .i64 u]] w fun e w' => e = .returned (.bool true) ∧ Below w.heap.size w w' := by
  have hb : Below w.heap.size w ((w.alloc (.cells #[.int .i64 s, .int .i64 n, .int .i64 t, .int .i64 p, .int .i64 u] 27)).alloc (.cells #[.int .i64 s, .int .i64 n, .int .i64 t, .int .i64 p, .int .i64 u] 27)) := ((Below.refl _ _).alloc (Nat.le_refl _) _).alloc (by simp) _
  have e0 : (s != s) = false := by simp
  have e1 : (n != n) = false := by simp
  have e2 : (t != t) = false := by simp
  have e3 : (p != p) = false := by simp
  have e4 : (u != u) = false := by simp
  go_enter Tryd.func16, Tryd.ntmps16
  go_wp2
  go_ret
  exact ⟨rfl, hb⟩
theorem eqPad_any (w : World) (s c : Int) : Calls Tryd.prog 22 #[.agg #[.int .i64 s, .int .i64 c], .agg #[.int .i64 s, .int .i64 c]] w fun e w' => e = .returned (.bool true) ∧ Below w.heap.size w w' := by
  have hb : Below w.heap.size w ((w.alloc (.cells #[.int .i64 s, .int .i64 c] 38)).alloc (.cells #[.int .i64 s, .int .i64 c] 38)) := ((Below.refl _ _).alloc (Nat.le_refl _) _).alloc (by simp) _
  have e0 : (s != s) = false := by simp
  have e1 : (c != c) = false := by simp
  go_enter Tryd.func22, Tryd.ntmps22
  go_wp2
  go_ret
  exact ⟨rfl, hb⟩

/-- the name of a result -/
def tnV (r : Int) : ByteArray := if r = 0 then ⟨#[111, 112, 101, 110]⟩ else if r = 1 then ⟨#[119, 97, 105, 116]⟩ else if r = 2 then ⟨#[119, 114, 111, 110, 103]⟩ else if r = 3 then ⟨#[112, 97, 117, 115, 101]⟩ else if r = 4 then ⟨#[98, 97, 100]⟩ else ⟨#[]⟩
theorem tnV_no {r : Int} (h : ¬ (0 ≤ r ∧ r ≤ 4)) : tnV r = ⟨#[]⟩ := by
  unfold tnV
  rw [if_neg (by omega), if_neg (by omega), if_neg (by omega), if_neg (by omega), if_neg (by omega)]
theorem rstr {a b : ByteArray} (h : a = b) : Ending.returned (.string a) = .returned (.string b) := by rw [h]
/-- how many wrong codes are tried: f rounds at most -/
def mostL : Nat → Int → Int → Int → Int → Int
  | 0, _, n, _, _ => n
  | f + 1, time, n, t, p => if t ≤ time then mostL f time (n + 3) (t + pow2 p) (min (p + 1) 6) else n
theorem mostL_out (f : Nat) (time n t p : Int) (h : time < t) : mostL f time n t p = n := by
  cases f
  · rfl
  · rw [mostL, if_neg (by omega)]
theorem mostL_in (f : Nat) (time n t p : Int) (h : t ≤ time) : mostL (f + 1) time n t p = mostL f time (n + 3) (t + pow2 p) (min (p + 1) 6) := by rw [mostL, if_pos h]
def mostV (time : Int) : Int := if time ≤ 20000 then mostL (time + 1).toNat time 0 0 0 else 0
theorem mostV_in {time : Int} (h : time ≤ 20000) : mostV time = mostL (time + 1).toNat time 0 0 0 := if_pos h
theorem mostV_big {time : Int} (h : ¬ time ≤ 20000) : mostV time = 0 := if_neg h
theorem mostV_neg {time : Int} (h : time < 0) : mostV time = 0 := by rw [mostV_in (by omega)]; exact mostL_out _ _ _ _ _ h
set_option maxHeartbeats 1000000 in
theorem mostI_any (w : World) (time : Int) : Calls Tryd.prog 27 #[.int .i64 time] w fun e w' => e = .returned (.int .i64 (mostV time)) ∧ w' = w := by
  cases h1 : inR time 0 20000
  · have hz : mostV time = 0 := by
      have := inR_no.1 h1
      by_cases h : time ≤ 20000
      · exact mostV_neg (by omega)
      · exact mostV_big h
    have HZ := Lib.hid hz; clear hz
    go_enter Tryd.func27, Tryd.ntmps27
    go_wp2_with (refine (time3_any _ _).mono ?_; rintro e w' ⟨rfl, rfl⟩; rw [h1])
    go_ret
    exact ⟨rint HZ.out.symm, rfl⟩
  · have hb := inR_iff.1 h1
    have HV := Lib.hid (mostV_in hb.2)
    obtain ⟨hb0, hb1⟩ := hb
    go_enter Tryd.func27, Tryd.ntmps27
    go_wp2_with (refine (time3_any _ _).mono ?_; rintro e w' ⟨rfl, rfl⟩; rw [h1])
    clear h1
    go_loop [3, 4, 5] (fun nv pv tv => ∃ (f : Nat) (n t p : Int), nv = .int .i64 n ∧ pv = .int .i64 p ∧ tv = .int .i64 t ∧ mostV time = mostL f time n t p ∧ 0 ≤ n ∧ n ≤ 3 * t ∧ t ≤ 20064 ∧ 0 ≤ p ∧ p ≤ 6 ∧ time + 1 - t ≤ f) (fun _ _ tv => (time + 1 - intOf tv).toNat)
    case atStart => exact ⟨_, 0, 0, 0, rfl, rfl, rfl, HV.out, by omega, by omega, by omega, by omega, by omega, by omega⟩
    case round =>
      obtain ⟨f, n, t, p, rfl, rfl, rfl, hv, hn0, hn1, ht, hp0, hp1, hf⟩ := hrel
      have HM := Lib.hid hv; clear hv
      by_cases hlt : t ≤ time
      · obtain ⟨f', rfl⟩ : ∃ f', f = f' + 1 := ⟨f - 1, by omega⟩
        have HS := Lib.hid (mostL_in f' time n t p hlt)
        have hpb := pow2_bd hp1
        obtain ⟨hpb0, hpb1⟩ := hpb
        go_wp2_with fail
        refine (pauseOf_any _ p hp0 hp1).mono ?_
        rintro e w' ⟨rfl, rfl⟩
        generalize hq : pow2 p = q at *
        go_wp2_with fail
        refine (pausesAfter_any _ p hp0 hp1).mono ?_
        rintro e w' ⟨rfl, rfl⟩
        go_wp2
        go_round
        case rel => exact ⟨f', n + 3, t + q, min (p + 1) 6, by go_num, rfl, by go_num, by rw [HM.out, HS.out], by omega, by omega, by omega, by omega, by omega, by omega⟩
        case measure => simp [intOf]; omega
      · have HO := Lib.hid (mostL_out f time n t p (by omega))
        go_wp2
        go_ret
        exact ⟨rint (by rw [HM.out, HO.out]), rfl⟩
end Go.Proofs.YtjpafmkmpnibgaaDoor
