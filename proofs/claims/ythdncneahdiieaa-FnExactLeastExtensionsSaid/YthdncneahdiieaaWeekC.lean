/- Chapter 1: weeks: contracts of IsOpen and of the laws' helpers over weeks. -/
import Derived.Test.YthdncneahdiieaaWeekB
import Derived.Test.YthdncneahdiieaaSpanE
namespace Go.Proofs.Ythdncneahdiieaa
open Go.RowKit
set_option linter.unusedVariables false

def szW (left : Int) (n n' : Nat) : Int := if left < n then -1 else szI (left - n) n'
theorem szW_any (w : World) (A A' : Option Addr) (k n k' n' : Nat) (left : Int) (hk : k ≤ maxLen) (hk' : k' ≤ maxLen) (h1 : 0 ≤ left) (h2 : left ≤ 1048576) :
    Calls Try.prog 8 #[.agg #[.slice A k n, .slice A' k' n'], .int .i64 left] w fun e w' => e = .returned (.int .i64 (szW left k k')) ∧ Below w.heap.size w w' := by
  have hb0 := fun o => balloc w o
  have H0 := Lib.hid hb0; clear hb0
  by_cases h : left < k
  · have hs : szI left k = -1 := if_pos h
    have hf : szW left k k' = -1 := if_pos h
    have Hs := Lib.hid hs; clear hs
    have Hf := Lib.hid hf; clear hf
    go_enter Try.func8, Try.ntmps8
    go_wp2_with fail
    refine (sz_any _ _ _ _ _ hk h1 h2).mono ?_
    rintro e w1 ⟨rfl, rfl⟩
    rw [Hs.out]
    go_wp2_with fail
    go_ret
    exact ⟨ret_int Hf.out.symm, H0.out _⟩
  · have hs : szI left k = left - k := if_neg h
    have hf : szW left k k' = szI (left - k) k' := if_neg h
    have Hs := Lib.hid hs; clear hs
    have Hf := Lib.hid hf; clear hf
    by_cases h' : left - k < k'
    · have hs' : szI (left - k) k' = -1 := if_pos h'
      have Hs' := Lib.hid hs'; clear hs'
      go_enter Try.func8, Try.ntmps8
      go_wp2_with fail
      refine (sz_any _ _ _ _ _ hk h1 h2).mono ?_
      rintro e w1 ⟨rfl, rfl⟩
      rw [Hs.out]
      go_wp2_with fail
      refine (sz_any _ _ _ _ _ hk' (by omega) (by omega)).mono ?_
      rintro e w1 ⟨rfl, rfl⟩
      rw [Hs'.out]
      go_wp2_with fail
      go_ret
      exact ⟨ret_int (Hf.out.trans Hs'.out).symm, H0.out _⟩
    · have hs' : szI (left - k) k' = left - k - k' := if_neg h'
      have Hs' := Lib.hid hs'; clear hs'
      go_enter Try.func8, Try.ntmps8
      go_wp2_with fail
      refine (sz_any _ _ _ _ _ hk h1 h2).mono ?_
      rintro e w1 ⟨rfl, rfl⟩
      rw [Hs.out]
      go_wp2_with fail
      refine (sz_any _ _ _ _ _ hk' (by omega) (by omega)).mono ?_
      rintro e w1 ⟨rfl, rfl⟩
      rw [Hs'.out]
      go_wp2_with fail
      go_ret
      exact ⟨ret_int (Hf.out.trans Hs'.out).symm, H0.out _⟩

set_option maxHeartbeats 400000 in
theorem toWeek_any (w : World) (B : Nat) (A A' : Option Addr) (n n' : Nat) (o c : List (Int × Int)) (ho : o.length ≤ 1048576) (hc : c.length ≤ 1048576) (hB : B ≤ w.heap.size) (hS : SL w B A o) (hS' : SL w B A' c) :
    Calls Try.prog 10 #[.agg #[.slice A o.length n, .slice A' c.length n']] w fun e w' => ∃ A2 A2', e = .returned (.agg #[.slice A2 o.length o.length, .slice A2' c.length c.length]) ∧ SL w' w'.heap.size A2 o ∧ SL w' w'.heap.size A2' c ∧ Below w.heap.size w w' := by
  have hb0 := fun o => balloc w o
  have HS := Lib.hid hS; clear hS
  have HS' := Lib.hid hS'; clear hS'
  have H0 := Lib.hid hb0; clear hb0
  have hb3 : ∀ o1 o2 o3, Below w.heap.size w (((w.alloc o1).alloc o2).alloc o3) := fun o1 o2 o3 => bthen (bthen (balloc w o1) (balloc _ o2)) (balloc _ o3)
  have H3 := Lib.hid hb3; clear hb3
  go_enter Try.func10, Try.ntmps10
  go_wp2_with fail
  generalize hW0 : (((w.alloc (.cells #[.slice A o.length n, .slice A' c.length n'] 24)).alloc (.cells #[.slice none 0 0, .slice none 0 0] 32)).alloc (.cells #[.slice none 0 0, .slice none 0 0] 32)) = w0
  have b0 : Below w.heap.size w w0 := by rw [← hW0]; exact H3.out _ _ _
  have k0 : Has w0 w.heap.size 24 #[.slice A o.length n, .slice A' c.length n'] := by rw [← hW0]; exact has_alloc (has_alloc (has_new _ _ _) _) _
  have k1 : Has w0 (w.heap.size + 1) 32 #[.slice none 0 0, .slice none 0 0] := by rw [← hW0]; have := has_alloc (has_new (w.alloc (.cells #[.slice A o.length n, .slice A' c.length n'] 24)) 32 #[.slice none 0 0, .slice none 0 0]) (.cells #[.slice none 0 0, .slice none 0 0] 32); simpa using this
  have k2 : Has w0 (w.heap.size + 1 + 1) 32 #[.slice none 0 0, .slice none 0 0] := by rw [← hW0]; have := has_new ((w.alloc (.cells #[.slice A o.length n, .slice A' c.length n'] 24)).alloc (.cells #[.slice none 0 0, .slice none 0 0] 32)) 32 #[.slice none 0 0, .slice none 0 0]; simpa using this
  clear hW0
  have hz0 := has_lt k2
  refine (toSpanS_any _ B A n o ho (by have := b0.size; omega) (HS.out.later hB b0)).mono ?_
  rintro e w1 ⟨A2, rfl, hA2, hS1, hb1⟩
  have HS1 := Lib.hid hS1; clear hS1
  have HA2 := Lib.hid hA2; clear hA2
  have m0 := has_call k0 hb1
  have m1 := has_call k1 hb1
  have m2 := has_call k2 hb1
  have hbx := bthen b0 hb1
  have hsz1 := hb1.size
  have e1 := has_cell m0 1 rfl
  have e2 := has_cell m2 0 rfl
  have f2 := has_free m2 0
  have M0 := Lib.hid m0; have M1 := Lib.hid m1; have M2 := Lib.hid m2; clear m0 m1 m2
  go_wp2_with fail
  clear e1 e2 f2
  generalize hW1 : (w1.setCell ⟨w.heap.size + 1 + 1, 0, none⟩ (.slice A2 o.length o.length)) = w1'
  have bw : Below w.heap.size w w1' := by rw [← hW1]; exact hbx.setCell (by simp; omega) _
  have n1 : Has w1' (w.heap.size + 1) 32 #[.slice none 0 0, .slice none 0 0] := by rw [← hW1]; exact has_far M1.out (by simp) _
  have n2 : Has w1' (w.heap.size + 1 + 1) 32 #[.slice A2 o.length o.length, .slice none 0 0] := by rw [← hW1]; have := has_set M2.out 0 (.slice A2 o.length o.length); simpa using this
  have s1 : SL w1' w1'.heap.size A2 o := by
    rw [← hW1, size_set]
    refine HS1.out.set fun a ha => ?_
    have := HA2.out a ha
    simp; omega
  have S1 := Lib.hid s1; clear s1
  have hsz1' : w1'.heap.size = w1.heap.size := by rw [← hW1, size_set]
  clear hW1
  refine (toSpanS_any _ B A' n' c hc (by omega) (HS'.out.later hB bw)).mono ?_
  rintro e w2 ⟨A3, rfl, hA3, hS3, hb2⟩
  have HS3 := Lib.hid hS3; clear hS3
  have HA3 := Lib.hid hA3; clear hA3
  have p1 := has_call n1 hb2
  have p2 := has_call n2 hb2
  have hsz2 := hb2.size
  have e1 := has_cell p2 0 rfl
  have e2 := has_cell p2 1 rfl
  have e3 := has_cell p1 0 rfl
  have e4 := has_cell p1 1 rfl
  have f1 := has_free p2 1
  have f3 := has_free p1 0
  have f4 := has_free p1 1
  have P1 := Lib.hid p1; have P2 := Lib.hid p2; clear p1 p2
  have HN1 := Lib.hid n1; have HN2 := Lib.hid n2; clear n1 n2
  have HB2 := Lib.hid hb2; clear hb2
  have HB1 := Lib.hid hb1; clear hb1 
  have K0 := Lib.hid k0; have K1 := Lib.hid k1; have K2 := Lib.hid k2; clear k0 k1 k2
  have SZ := Lib.hid hsz1'; clear hsz1'
  go_wp2_with fail
  clear e1 e2 e3 e4 f1 f3 f4
  have q1 : Has (((w2.setCell ⟨w.heap.size + 1 + 1, 1, none⟩ (.slice A3 c.length c.length)).setCell ⟨w.heap.size + 1, 0, none⟩ (.slice A2 o.length o.length)).setCell ⟨w.heap.size + 1, 1, none⟩ (.slice A3 c.length c.length)) (w.heap.size + 1) 32 #[.slice A2 o.length o.length, .slice A3 c.length c.length] := by
    have := has_set (has_set (has_far P1.out (p := ⟨w.heap.size + 1 + 1, 1, none⟩) (by simp) (.slice A3 c.length c.length)) 0 (.slice A2 o.length o.length)) 1 (.slice A3 c.length c.length)
    simpa using this
  have g0 := has_cell q1 0 rfl
  have g1 := has_cell q1 1 rfl
  refine bodyPost_ret (v := .agg #[.slice A2 o.length o.length, .slice A3 c.length c.length]) (by simp [results, Try.results10, go_sem, g0, g1]) rfl ⟨A2, A3, rfl, ?_, ?_, ?_⟩
  · simp only [size_set]
    have sA : SL w2 w2.heap.size A2 o := ((S1.out).below HB2.out).more HB2.out.size
    refine ((sA.set fun a ha => ?_).set fun a ha => ?_).set fun a ha => ?_
    all_goals
      have := HA2.out a ha
      simp; omega
  · simp only [size_set]
    refine ((HS3.out.set fun a ha => ?_).set fun a ha => ?_).set fun a ha => ?_
    all_goals
      have := HA3.out a ha
      have := SZ.out
      simp; omega
  · exact (((bw.trans (HB2.out.mono bw.size)).setCell (by simp; omega) _).setCell (by simp) _).setCell (by simp) _

set_option maxHeartbeats 400000 in
theorem eqWeek_any (w : World) (B B' : Nat) (A A' A2 A2' : Option Addr) (n n' n2 n2' : Nat) (o c : List (Int × Int)) (ho : o.length ≤ maxLen) (hc : c.length ≤ maxLen) (hB : B ≤ w.heap.size) (hB' : B' ≤ w.heap.size) (hS : SL w B A o) (hS' : SL w B A' c) (hT : SL w B' A2 o) (hT' : SL w B' A2' c) :
    Calls Try.prog 13 #[.agg #[.slice A o.length n, .slice A' c.length n'], .agg #[.slice A2 o.length n2, .slice A2' c.length n2']] w fun e w' => e = .returned (.bool true) ∧ Below w.heap.size w w' := by
  have hb0 : ∀ o1 o2, Below w.heap.size w ((w.alloc o1).alloc o2) := fun o1 o2 => bthen (balloc w o1) (balloc _ o2)
  have HS := Lib.hid hS; clear hS
  have HS' := Lib.hid hS'; clear hS'
  have HT := Lib.hid hT; clear hT
  have HT' := Lib.hid hT'; clear hT'
  have H0 := Lib.hid hb0; clear hb0
  go_enter Try.func13, Try.ntmps13
  go_wp2_with fail
  refine (eqSpanS_any _ B B' A A2 n n2 o ho (by simp; omega) (by simp; omega) (HS.out.later hB (H0.out _ _)) (HT.out.later hB' (H0.out _ _))).mono ?_
  rintro e w1 ⟨rfl, hb1⟩
  have hbx := bthen (H0.out _ _) hb1
  have hold := bold hb1
  go_wp2_with fail
  clear hold
  refine (eqSpanS_any _ B B' A' A2' n' n2' c hc (by have := hbx.size; omega) (by have := hbx.size; omega) (HS'.out.later hB hbx) (HT'.out.later hB' hbx)).mono ?_
  rintro e w2 ⟨rfl, hb2⟩
  go_wp2_with fail
  go_ret
  exact ⟨rfl, bthen hbx hb2⟩
end Go.Proofs.Ythdncneahdiieaa
