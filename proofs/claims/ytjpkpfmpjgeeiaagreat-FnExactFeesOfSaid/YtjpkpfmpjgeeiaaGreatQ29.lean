
/- Chapter 8: contracts of JournalOk, both sides (gen_eva.py). -/
import Derived.Test.YtjpkpfmpjgeeiaaGreatQ28
namespace Go.Proofs.YtjpkpfmpjgeeiaaGreat
open Go.RowKit
set_option linter.unusedVariables false

set_option maxRecDepth 100000 in
set_option maxHeartbeats 16000000 in
theorem jrnI_any (w : World) (B : Nat) (A : Option Addr) (c : Nat) (l : List Ev) (hl : l.length ≤ maxLen) (hB : B ≤ w.heap.size) (hS : evL w B A l) :
    Calls Tryz.prog 78 #[.slice A l.length c] w fun e w' => e = .returned (.bool (jrnB l)) ∧ Below w.heap.size w w' := by
  unfold maxLen at hl
  by_cases h60 : 60 < l.length
  · go_enter Tryz.func78, Tryz.ntmps78
    go_wp2
    go_ret
    exact ⟨rbool (jrn_long h60).symm, Below.refl _ _⟩
  go_enter Tryz.func78, Tryz.ntmps78
  go_wp2
  go_loopw [10] (fun i wr => ∃ k : Nat, k ≤ l.length ∧ i = .int .i64 k ∧ JrnTo l k ∧ Below w.heap.size w wr) (fun i _ => l.length - (intOf i).toNat)
  case atStart => exact ⟨0, Nat.zero_le _, rfl, jrnTo_zero l, Below.refl _ _⟩
  case round =>
    obtain ⟨k, hk, rfl, hno, hb⟩ := hrel
    have Hno := Lib.hid hno; clear hno
    have hsz := hb.size
    by_cases hlt : k < l.length
    · have hkl : (k : Int) < l.length := by omega
      have hk0 : (0 : Int) ≤ k := by omega
      cases hq0 : ((l[k]?).getD zeroE |> evB)
      · skip
        obtain ⟨b, off, ⟨x0, x1, x2, x3, x4, x5, x6⟩, rfl, hbB, hx, hc0, hc1, hc2, hc3, hc4, hc5, hc6⟩ := (hS.below (hb.mono hB)).at_ hlt
        dsimp only at hc0 hc1 hc2 hc3 hc4 hc5 hc6
        have Hx := Lib.hid hx; clear hx
        have HS := Lib.hid hS; clear hS
        rw [Hx.out] at hq0; dsimp only [Option.getD_some] at hq0
        have HQ := Lib.hid hq0; clear hq0
        go_wp2_with fail
        generalize hX : (wr.alloc (.cells #[.int .i64 x0, .int .i64 x1, .int .i64 x2, .int .i64 x3, .int .i64 x4, .int .i64 x5, .int .i64 x6] 99)) = w1
        have hb1 : Below wr.heap.size wr w1 := by rw [← hX]; exact balloc _ _
        have za : Has w1 wr.heap.size 99 #[.int .i64 x0, .int .i64 x1, .int .i64 x2, .int .i64 x3, .int .i64 x4, .int .i64 x5, .int .i64 x6] := by rw [← hX]; exact has_new _ _ _
        clear hX
        have q0 := has_cell za 0 rfl; have q1 := has_cell za 1 rfl; have q2 := has_cell za 2 rfl; have q3 := has_cell za 3 rfl; have q4 := has_cell za 4 rfl; have q5 := has_cell za 5 rfl; have q6 := has_cell za 6 rfl
        have hzl := has_lt za
        have hs1 := hb1.size
        have hbl : b < w1.heap.size := by omega
        clear hc0 hc1 hc2 hc3 hc4 hc5 hc6 za
        have HB := Lib.hid hb; have HB1 := Lib.hid hb1; clear hb hb1
        have S0 : (fun W : World => (W.cell? ⟨wr.heap.size, 0, none⟩ = some (.int .i64 x0) ∧ W.cell? ⟨wr.heap.size, 1, none⟩ = some (.int .i64 x1) ∧ W.cell? ⟨wr.heap.size, 2, none⟩ = some (.int .i64 x2) ∧ W.cell? ⟨wr.heap.size, 3, none⟩ = some (.int .i64 x3) ∧ W.cell? ⟨wr.heap.size, 4, none⟩ = some (.int .i64 x4) ∧ W.cell? ⟨wr.heap.size, 5, none⟩ = some (.int .i64 x5) ∧ W.cell? ⟨wr.heap.size, 6, none⟩ = some (.int .i64 x6)) ∧ Below w1.heap.size w1 W) w1.drew := ⟨⟨q0, q1, q2, q3, q4, q5, q6⟩, (Below.refl _ _).drew⟩
        clear q0 q1 q2 q3 q4 q5 q6
        refine wp_region_held_drew (S := (fun W : World => (W.cell? ⟨wr.heap.size, 0, none⟩ = some (.int .i64 x0) ∧ W.cell? ⟨wr.heap.size, 1, none⟩ = some (.int .i64 x1) ∧ W.cell? ⟨wr.heap.size, 2, none⟩ = some (.int .i64 x2) ∧ W.cell? ⟨wr.heap.size, 3, none⟩ = some (.int .i64 x3) ∧ W.cell? ⟨wr.heap.size, 4, none⟩ = some (.int .i64 x4) ∧ W.cell? ⟨wr.heap.size, 5, none⟩ = some (.int .i64 x5) ∧ W.cell? ⟨wr.heap.size, 6, none⟩ = some (.int .i64 x6)) ∧ Below w1.heap.size w1 W)) (by kernel_rfl) S0 (fun _ => ?_)
        refine tk9 (i := 0) (some 15) (.agg #[.int .i64 x0, .int .i64 x1, .int .i64 x2, .int .i64 x3, .int .i64 x4, .int .i64 x5, .int .i64 x6]) rfl rfl (fun W hSw => ?_) S0 ?_
        · (try dsimp only at hSw); go_simp <;> with_reducible rfl
        try simp only [Act.put, l9a, l9z, l9s]
        refine wpAnyH_ready (rs := [1]) (by kernel_rfl) (by simp) ?_
        refine AllReadyH.cons rfl (fun K hK => ?_) AllReadyH.nil
        go_simp
        go_at_call 111
        refine (evI_any _ x0 x1 x2 x3 x4 x5 x6).mono ?_
        rintro e wa ⟨rfl, hb8⟩
        rw [HQ.out]
        have hb9wa : Below w1.heap.size w1 wa := ((Below.refl w1.heap.size w1).drew).trans hb8
        have Swa : (fun W : World => (W.cell? ⟨wr.heap.size, 0, none⟩ = some (.int .i64 x0) ∧ W.cell? ⟨wr.heap.size, 1, none⟩ = some (.int .i64 x1) ∧ W.cell? ⟨wr.heap.size, 2, none⟩ = some (.int .i64 x2) ∧ W.cell? ⟨wr.heap.size, 3, none⟩ = some (.int .i64 x3) ∧ W.cell? ⟨wr.heap.size, 4, none⟩ = some (.int .i64 x4) ∧ W.cell? ⟨wr.heap.size, 5, none⟩ = some (.int .i64 x5) ∧ W.cell? ⟨wr.heap.size, 6, none⟩ = some (.int .i64 x6)) ∧ Below w1.heap.size w1 W) wa := ⟨⟨(bold hb9wa _ _ (hzl)).trans S0.1.1, (bold hb9wa _ _ (hzl)).trans S0.1.2.1, (bold hb9wa _ _ (hzl)).trans S0.1.2.2.1, (bold hb9wa _ _ (hzl)).trans S0.1.2.2.2.1, (bold hb9wa _ _ (hzl)).trans S0.1.2.2.2.2.1, (bold hb9wa _ _ (hzl)).trans S0.1.2.2.2.2.2.1, (bold hb9wa _ _ (hzl)).trans S0.1.2.2.2.2.2.2⟩, hb9wa⟩
        clear hb8
        go_wp2_with fail
        refine hK.out _ _ Swa (fun _ => ?_)
        clear hK K
        try simp only [Act.put, l9a, l9z, l9s]
        refine tk9 (i := 2) (some 17) (.bool true) rfl rfl (fun W hSw => ?_) Swa ?_
        · (try dsimp only at hSw); go_simp <;> with_reducible rfl
        try simp only [Act.put, l9a, l9z, l9s]
        refine tk9 (i := 3) (some 18) (.bool true) rfl rfl (fun W hSw => ?_) Swa ?_
        · (try dsimp only at hSw); go_simp <;> with_reducible rfl
        try simp only [Act.put, l9a, l9z, l9s]
        refine sk9 (i := 4) (some 19) rfl rfl Swa ?_
        try simp only [Act.put, l9a, l9z, l9s]
        refine sk9 (i := 5) (some 20) rfl rfl Swa ?_
        try simp only [Act.put, l9a, l9z, l9s]
        refine sk9 (i := 6) (some 21) rfl rfl Swa ?_
        try simp only [Act.put, l9a, l9z, l9s]
        refine sk9 (i := 7) (some 22) rfl rfl Swa ?_
        try simp only [Act.put, l9a, l9z, l9s]
        refine sk9 (i := 8) (some 23) rfl rfl Swa ?_
        try simp only [Act.put, l9a, l9z, l9s]
        refine sk9 (i := 9) (some 24) rfl rfl Swa ?_
        try simp only [Act.put, l9a, l9z, l9s]
        refine sk9 (i := 10) (some 25) rfl rfl Swa ?_
        try simp only [Act.put, l9a, l9z, l9s]
        refine sk9 (i := 11) (some 26) rfl rfl Swa ?_
        try simp only [Act.put, l9a, l9z, l9s]
        refine sk9 (i := 12) (some 27) rfl rfl Swa ?_
        try simp only [Act.put, l9a, l9z, l9s]
        refine sk9 (i := 13) (some 28) rfl rfl Swa ?_
        try simp only [Act.put, l9a, l9z, l9s]
        refine sk9 (i := 14) (some 29) rfl rfl Swa ?_
        try simp only [Act.put, l9a, l9z, l9s]
        refine sk9 (i := 15) (some 30) rfl rfl Swa ?_
        try simp only [Act.put, l9a, l9z, l9s]
        refine tk9 (i := 16) (some 31) (.bool true) rfl rfl (fun W hSw => ?_) Swa ?_
        · (try dsimp only at hSw); go_simp <;> with_reducible rfl
        try simp only [Act.put, l9a, l9z, l9s]
        refine wpAnyH_done (by kernel_rfl) ?_ _
        have hbreg : Below w1.heap.size w1 wa := Swa.2
        clear S0 Swa hb9wa
        go_wp2_with fail
        go_ret
        exact ⟨rbool (jrn_bad Hx.out HQ.out).symm, (HB.out.trans ((HB1.out.trans (hbreg.mono hs1)).mono hsz))⟩
      · skip
        by_cases hkz : k = 0
        · skip
          obtain ⟨b, off, ⟨x0, x1, x2, x3, x4, x5, x6⟩, rfl, hbB, hx, hc0, hc1, hc2, hc3, hc4, hc5, hc6⟩ := (hS.below (hb.mono hB)).at_ hlt
          dsimp only at hc0 hc1 hc2 hc3 hc4 hc5 hc6
          have Hx := Lib.hid hx; clear hx
          have HS := Lib.hid hS; clear hS
          rw [Hx.out] at hq0; dsimp only [Option.getD_some] at hq0
          have HQ := Lib.hid hq0; clear hq0
          have hkd : decide (0 < k) = false := decide_eq_false (by omega)
          have HKZ := Lib.hid hkz; clear hkz
          go_wp2_with fail
          generalize hX : (wr.alloc (.cells #[.int .i64 x0, .int .i64 x1, .int .i64 x2, .int .i64 x3, .int .i64 x4, .int .i64 x5, .int .i64 x6] 99)) = w1
          have hb1 : Below wr.heap.size wr w1 := by rw [← hX]; exact balloc _ _
          have za : Has w1 wr.heap.size 99 #[.int .i64 x0, .int .i64 x1, .int .i64 x2, .int .i64 x3, .int .i64 x4, .int .i64 x5, .int .i64 x6] := by rw [← hX]; exact has_new _ _ _
          clear hX
          have q0 := has_cell za 0 rfl; have q1 := has_cell za 1 rfl; have q2 := has_cell za 2 rfl; have q3 := has_cell za 3 rfl; have q4 := has_cell za 4 rfl; have q5 := has_cell za 5 rfl; have q6 := has_cell za 6 rfl
          have hzl := has_lt za
          have hs1 := hb1.size
          have hbl : b < w1.heap.size := by omega
          clear hc0 hc1 hc2 hc3 hc4 hc5 hc6 za
          have HB := Lib.hid hb; have HB1 := Lib.hid hb1; clear hb hb1
          have S0 : (fun W : World => (W.cell? ⟨wr.heap.size, 0, none⟩ = some (.int .i64 x0) ∧ W.cell? ⟨wr.heap.size, 1, none⟩ = some (.int .i64 x1) ∧ W.cell? ⟨wr.heap.size, 2, none⟩ = some (.int .i64 x2) ∧ W.cell? ⟨wr.heap.size, 3, none⟩ = some (.int .i64 x3) ∧ W.cell? ⟨wr.heap.size, 4, none⟩ = some (.int .i64 x4) ∧ W.cell? ⟨wr.heap.size, 5, none⟩ = some (.int .i64 x5) ∧ W.cell? ⟨wr.heap.size, 6, none⟩ = some (.int .i64 x6)) ∧ Below w1.heap.size w1 W) w1.drew := ⟨⟨q0, q1, q2, q3, q4, q5, q6⟩, (Below.refl _ _).drew⟩
          clear q0 q1 q2 q3 q4 q5 q6
          refine wp_region_held_drew (S := (fun W : World => (W.cell? ⟨wr.heap.size, 0, none⟩ = some (.int .i64 x0) ∧ W.cell? ⟨wr.heap.size, 1, none⟩ = some (.int .i64 x1) ∧ W.cell? ⟨wr.heap.size, 2, none⟩ = some (.int .i64 x2) ∧ W.cell? ⟨wr.heap.size, 3, none⟩ = some (.int .i64 x3) ∧ W.cell? ⟨wr.heap.size, 4, none⟩ = some (.int .i64 x4) ∧ W.cell? ⟨wr.heap.size, 5, none⟩ = some (.int .i64 x5) ∧ W.cell? ⟨wr.heap.size, 6, none⟩ = some (.int .i64 x6)) ∧ Below w1.heap.size w1 W)) (by kernel_rfl) S0 (fun _ => ?_)
          refine tk9 (i := 0) (some 15) (.agg #[.int .i64 x0, .int .i64 x1, .int .i64 x2, .int .i64 x3, .int .i64 x4, .int .i64 x5, .int .i64 x6]) rfl rfl (fun W hSw => ?_) S0 ?_
          · (try dsimp only at hSw); go_simp <;> with_reducible rfl
          try simp only [Act.put, l9a, l9z, l9s]
          refine wpAnyH_ready (rs := [1]) (by kernel_rfl) (by simp) ?_
          refine AllReadyH.cons rfl (fun K hK => ?_) AllReadyH.nil
          go_simp
          go_at_call 111
          refine (evI_any _ x0 x1 x2 x3 x4 x5 x6).mono ?_
          rintro e wa ⟨rfl, hb8⟩
          rw [HQ.out]
          have hb9wa : Below w1.heap.size w1 wa := ((Below.refl w1.heap.size w1).drew).trans hb8
          have Swa : (fun W : World => (W.cell? ⟨wr.heap.size, 0, none⟩ = some (.int .i64 x0) ∧ W.cell? ⟨wr.heap.size, 1, none⟩ = some (.int .i64 x1) ∧ W.cell? ⟨wr.heap.size, 2, none⟩ = some (.int .i64 x2) ∧ W.cell? ⟨wr.heap.size, 3, none⟩ = some (.int .i64 x3) ∧ W.cell? ⟨wr.heap.size, 4, none⟩ = some (.int .i64 x4) ∧ W.cell? ⟨wr.heap.size, 5, none⟩ = some (.int .i64 x5) ∧ W.cell? ⟨wr.heap.size, 6, none⟩ = some (.int .i64 x6)) ∧ Below w1.heap.size w1 W) wa := ⟨⟨(bold hb9wa _ _ (hzl)).trans S0.1.1, (bold hb9wa _ _ (hzl)).trans S0.1.2.1, (bold hb9wa _ _ (hzl)).trans S0.1.2.2.1, (bold hb9wa _ _ (hzl)).trans S0.1.2.2.2.1, (bold hb9wa _ _ (hzl)).trans S0.1.2.2.2.2.1, (bold hb9wa _ _ (hzl)).trans S0.1.2.2.2.2.2.1, (bold hb9wa _ _ (hzl)).trans S0.1.2.2.2.2.2.2⟩, hb9wa⟩
          clear hb8
          go_wp2_with fail
          refine hK.out _ _ Swa (fun _ => ?_)
          clear hK K
          try simp only [Act.put, l9a, l9z, l9s]
          refine tk9 (i := 2) (some 17) (.bool false) rfl rfl (fun W hSw => ?_) Swa ?_
          · (try dsimp only at hSw); go_simp <;> with_reducible rfl
          try simp only [Act.put, l9a, l9z, l9s]
          refine tk9 (i := 3) (some 18) (.bool false) rfl rfl (fun W hSw => ?_) Swa ?_
          · (try dsimp only at hSw); go_simp <;> with_reducible rfl
          try simp only [Act.put, l9a, l9z, l9s]
          refine tk9 (i := 4) (some 19) (.int .i64 (k : Int)) rfl rfl (fun W hSw => ?_) Swa ?_
          · (try dsimp only at hSw); go_simp <;> with_reducible rfl
          try simp only [Act.put, l9a, l9z, l9s]
          refine tk9 (i := 5) (some 20) (.bool false) rfl rfl (fun W hSw => ?_) Swa ?_
          · (try dsimp only at hSw); go_simp <;> with_reducible rfl
          try simp only [Act.put, l9a, l9z, l9s]
          refine tk9 (i := 6) (some 21) (.bool false) rfl rfl (fun W hSw => ?_) Swa ?_
          · (try dsimp only at hSw); go_simp <;> with_reducible rfl
          try simp only [Act.put, l9a, l9z, l9s]
          refine sk9 (i := 7) (some 22) rfl rfl Swa ?_
          try simp only [Act.put, l9a, l9z, l9s]
          refine sk9 (i := 8) (some 23) rfl rfl Swa ?_
          try simp only [Act.put, l9a, l9z, l9s]
          refine sk9 (i := 9) (some 24) rfl rfl Swa ?_
          try simp only [Act.put, l9a, l9z, l9s]
          refine sk9 (i := 10) (some 25) rfl rfl Swa ?_
          try simp only [Act.put, l9a, l9z, l9s]
          refine sk9 (i := 11) (some 26) rfl rfl Swa ?_
          try simp only [Act.put, l9a, l9z, l9s]
          refine sk9 (i := 12) (some 27) rfl rfl Swa ?_
          try simp only [Act.put, l9a, l9z, l9s]
          refine sk9 (i := 13) (some 28) rfl rfl Swa ?_
          try simp only [Act.put, l9a, l9z, l9s]
          refine sk9 (i := 14) (some 29) rfl rfl Swa ?_
          try simp only [Act.put, l9a, l9z, l9s]
          refine tk9 (i := 15) (some 30) (.bool false) rfl rfl (fun W hSw => ?_) Swa ?_
          · (try dsimp only at hSw); go_simp <;> with_reducible rfl
          try simp only [Act.put, l9a, l9z, l9s]
          refine tk9 (i := 16) (some 31) (.bool false) rfl rfl (fun W hSw => ?_) Swa ?_
          · (try dsimp only at hSw); go_simp <;> with_reducible rfl
          try simp only [Act.put, l9a, l9z, l9s]
          refine wpAnyH_done (by kernel_rfl) ?_ _
          have hbreg : Below w1.heap.size w1 wa := Swa.2
          clear S0 Swa hb9wa
          go_wp2_with fail
          clear hkd
          go_roundw
          case rel => exact ⟨k + 1, by omega, by go_num, jrnTo_succ Hno.out Hx.out HQ.out (fun x h => absurd h (by have := HKZ.out; omega)), (HB.out.trans ((HB1.out.trans (hbreg.mono hs1)).mono hsz))⟩
          case measure => simp [intOf]; omega
        · skip
          obtain ⟨j, hj⟩ : ∃ j, j + 1 = k := ⟨k - 1, by omega⟩
          have hjl : j < l.length := by omega
          have hkd : decide (0 < k) = true := decide_eq_true (by omega)
          have hkp : 0 < k := by omega
          have sA : IntKind.i64.wrap ((k : Int) - 1) = (j : Int) := by rw [IntWalk.i64_in _ (by omega)]; omega
          have sB : (j : Int) < l.length := by omega
          have sC : (0 : Int) ≤ j := by omega
          obtain ⟨b, off, ⟨x0, x1, x2, x3, x4, x5, x6⟩, ⟨y0, y1, y2, y3, y4, y5, y6⟩, rfl, hbB, hx, hy, ⟨hc0, hc1, hc2, hc3, hc4, hc5, hc6⟩, hd0, hd1, hd2, hd3, hd4, hd5, hd6⟩ := (hS.below (hb.mono hB)).two hlt hjl
          dsimp only at hc0 hc1 hc2 hc3 hc4 hc5 hc6 hd0 hd1 hd2 hd3 hd4 hd5 hd6
          have Hy := Lib.hid hy; clear hy
          have Hx := Lib.hid hx; clear hx
          have HS := Lib.hid hS; clear hS
          rw [Hx.out] at hq0; dsimp only [Option.getD_some] at hq0
          have HQ := Lib.hid hq0; clear hq0
          have HJ := Lib.hid hj; clear hj hkz
          cases hf : folB ⟨y0, y1, y2, y3, y4, y5, y6⟩ ⟨x0, x1, x2, x3, x4, x5, x6⟩
          · skip
            have HF := Lib.hid hf; clear hf
            go_wp2_with fail
            generalize hX : (wr.alloc (.cells #[.int .i64 x0, .int .i64 x1, .int .i64 x2, .int .i64 x3, .int .i64 x4, .int .i64 x5, .int .i64 x6] 99)) = w1
            have hb1 : Below wr.heap.size wr w1 := by rw [← hX]; exact balloc _ _
            have za : Has w1 wr.heap.size 99 #[.int .i64 x0, .int .i64 x1, .int .i64 x2, .int .i64 x3, .int .i64 x4, .int .i64 x5, .int .i64 x6] := by rw [← hX]; exact has_new _ _ _
            clear hX
            have q0 := has_cell za 0 rfl; have q1 := has_cell za 1 rfl; have q2 := has_cell za 2 rfl; have q3 := has_cell za 3 rfl; have q4 := has_cell za 4 rfl; have q5 := has_cell za 5 rfl; have q6 := has_cell za 6 rfl
            have r0 := (bold hb1 _ _ (by omega)).trans hd0; have r1 := (bold hb1 _ _ (by omega)).trans hd1; have r2 := (bold hb1 _ _ (by omega)).trans hd2; have r3 := (bold hb1 _ _ (by omega)).trans hd3; have r4 := (bold hb1 _ _ (by omega)).trans hd4; have r5 := (bold hb1 _ _ (by omega)).trans hd5; have r6 := (bold hb1 _ _ (by omega)).trans hd6
            have hzl := has_lt za
            have hs1 := hb1.size
            have hbl : b < w1.heap.size := by omega
            clear hc0 hc1 hc2 hc3 hc4 hc5 hc6 hd0 hd1 hd2 hd3 hd4 hd5 hd6 za
            have HB := Lib.hid hb; have HB1 := Lib.hid hb1; clear hb hb1
            have S0 : (fun W : World => (W.cell? ⟨wr.heap.size, 0, none⟩ = some (.int .i64 x0) ∧ W.cell? ⟨wr.heap.size, 1, none⟩ = some (.int .i64 x1) ∧ W.cell? ⟨wr.heap.size, 2, none⟩ = some (.int .i64 x2) ∧ W.cell? ⟨wr.heap.size, 3, none⟩ = some (.int .i64 x3) ∧ W.cell? ⟨wr.heap.size, 4, none⟩ = some (.int .i64 x4) ∧ W.cell? ⟨wr.heap.size, 5, none⟩ = some (.int .i64 x5) ∧ W.cell? ⟨wr.heap.size, 6, none⟩ = some (.int .i64 x6) ∧ W.cell? ⟨b, off + j * 7, none⟩ = some (.int .i64 y0) ∧ W.cell? ⟨b, off + j * 7 + 1, none⟩ = some (.int .i64 y1) ∧ W.cell? ⟨b, off + j * 7 + 2, none⟩ = some (.int .i64 y2) ∧ W.cell? ⟨b, off + j * 7 + 3, none⟩ = some (.int .i64 y3) ∧ W.cell? ⟨b, off + j * 7 + 4, none⟩ = some (.int .i64 y4) ∧ W.cell? ⟨b, off + j * 7 + 5, none⟩ = some (.int .i64 y5) ∧ W.cell? ⟨b, off + j * 7 + 6, none⟩ = some (.int .i64 y6)) ∧ Below w1.heap.size w1 W) w1.drew := ⟨⟨q0, q1, q2, q3, q4, q5, q6, r0, r1, r2, r3, r4, r5, r6⟩, (Below.refl _ _).drew⟩
            clear q0 q1 q2 q3 q4 q5 q6 r0 r1 r2 r3 r4 r5 r6
            refine wp_region_held_drew (S := (fun W : World => (W.cell? ⟨wr.heap.size, 0, none⟩ = some (.int .i64 x0) ∧ W.cell? ⟨wr.heap.size, 1, none⟩ = some (.int .i64 x1) ∧ W.cell? ⟨wr.heap.size, 2, none⟩ = some (.int .i64 x2) ∧ W.cell? ⟨wr.heap.size, 3, none⟩ = some (.int .i64 x3) ∧ W.cell? ⟨wr.heap.size, 4, none⟩ = some (.int .i64 x4) ∧ W.cell? ⟨wr.heap.size, 5, none⟩ = some (.int .i64 x5) ∧ W.cell? ⟨wr.heap.size, 6, none⟩ = some (.int .i64 x6) ∧ W.cell? ⟨b, off + j * 7, none⟩ = some (.int .i64 y0) ∧ W.cell? ⟨b, off + j * 7 + 1, none⟩ = some (.int .i64 y1) ∧ W.cell? ⟨b, off + j * 7 + 2, none⟩ = some (.int .i64 y2) ∧ W.cell? ⟨b, off + j * 7 + 3, none⟩ = some (.int .i64 y3) ∧ W.cell? ⟨b, off + j * 7 + 4, none⟩ = some (.int .i64 y4) ∧ W.cell? ⟨b, off + j * 7 + 5, none⟩ = some (.int .i64 y5) ∧ W.cell? ⟨b, off + j * 7 + 6, none⟩ = some (.int .i64 y6)) ∧ Below w1.heap.size w1 W)) (by kernel_rfl) S0 (fun _ => ?_)
            refine tk9 (i := 0) (some 15) (.agg #[.int .i64 x0, .int .i64 x1, .int .i64 x2, .int .i64 x3, .int .i64 x4, .int .i64 x5, .int .i64 x6]) rfl rfl (fun W hSw => ?_) S0 ?_
            · (try dsimp only at hSw); go_simp <;> with_reducible rfl
            try simp only [Act.put, l9a, l9z, l9s]
            refine wpAnyH_ready (rs := [1]) (by kernel_rfl) (by simp) ?_
            refine AllReadyH.cons rfl (fun K hK => ?_) AllReadyH.nil
            go_simp
            go_at_call 111
            refine (evI_any _ x0 x1 x2 x3 x4 x5 x6).mono ?_
            rintro e wa ⟨rfl, hb8⟩
            rw [HQ.out]
            have hb9wa : Below w1.heap.size w1 wa := ((Below.refl w1.heap.size w1).drew).trans hb8
            have Swa : (fun W : World => (W.cell? ⟨wr.heap.size, 0, none⟩ = some (.int .i64 x0) ∧ W.cell? ⟨wr.heap.size, 1, none⟩ = some (.int .i64 x1) ∧ W.cell? ⟨wr.heap.size, 2, none⟩ = some (.int .i64 x2) ∧ W.cell? ⟨wr.heap.size, 3, none⟩ = some (.int .i64 x3) ∧ W.cell? ⟨wr.heap.size, 4, none⟩ = some (.int .i64 x4) ∧ W.cell? ⟨wr.heap.size, 5, none⟩ = some (.int .i64 x5) ∧ W.cell? ⟨wr.heap.size, 6, none⟩ = some (.int .i64 x6) ∧ W.cell? ⟨b, off + j * 7, none⟩ = some (.int .i64 y0) ∧ W.cell? ⟨b, off + j * 7 + 1, none⟩ = some (.int .i64 y1) ∧ W.cell? ⟨b, off + j * 7 + 2, none⟩ = some (.int .i64 y2) ∧ W.cell? ⟨b, off + j * 7 + 3, none⟩ = some (.int .i64 y3) ∧ W.cell? ⟨b, off + j * 7 + 4, none⟩ = some (.int .i64 y4) ∧ W.cell? ⟨b, off + j * 7 + 5, none⟩ = some (.int .i64 y5) ∧ W.cell? ⟨b, off + j * 7 + 6, none⟩ = some (.int .i64 y6)) ∧ Below w1.heap.size w1 W) wa := ⟨⟨(bold hb9wa _ _ (hzl)).trans S0.1.1, (bold hb9wa _ _ (hzl)).trans S0.1.2.1, (bold hb9wa _ _ (hzl)).trans S0.1.2.2.1, (bold hb9wa _ _ (hzl)).trans S0.1.2.2.2.1, (bold hb9wa _ _ (hzl)).trans S0.1.2.2.2.2.1, (bold hb9wa _ _ (hzl)).trans S0.1.2.2.2.2.2.1, (bold hb9wa _ _ (hzl)).trans S0.1.2.2.2.2.2.2.1, (bold hb9wa _ _ (hbl)).trans S0.1.2.2.2.2.2.2.2.1, (bold hb9wa _ _ (hbl)).trans S0.1.2.2.2.2.2.2.2.2.1, (bold hb9wa _ _ (hbl)).trans S0.1.2.2.2.2.2.2.2.2.2.1, (bold hb9wa _ _ (hbl)).trans S0.1.2.2.2.2.2.2.2.2.2.2.1, (bold hb9wa _ _ (hbl)).trans S0.1.2.2.2.2.2.2.2.2.2.2.2.1, (bold hb9wa _ _ (hbl)).trans S0.1.2.2.2.2.2.2.2.2.2.2.2.2.1, (bold hb9wa _ _ (hbl)).trans S0.1.2.2.2.2.2.2.2.2.2.2.2.2.2⟩, hb9wa⟩
            clear hb8
            go_wp2_with fail
            refine hK.out _ _ Swa (fun _ => ?_)
            clear hK K
            try simp only [Act.put, l9a, l9z, l9s]
            refine tk9 (i := 2) (some 17) (.bool false) rfl rfl (fun W hSw => ?_) Swa ?_
            · (try dsimp only at hSw); go_simp <;> with_reducible rfl
            try simp only [Act.put, l9a, l9z, l9s]
            refine tk9 (i := 3) (some 18) (.bool false) rfl rfl (fun W hSw => ?_) Swa ?_
            · (try dsimp only at hSw); go_simp <;> with_reducible rfl
            try simp only [Act.put, l9a, l9z, l9s]
            refine tk9 (i := 4) (some 19) (.int .i64 (k : Int)) rfl rfl (fun W hSw => ?_) Swa ?_
            · (try dsimp only at hSw); go_simp <;> with_reducible rfl
            try simp only [Act.put, l9a, l9z, l9s]
            refine tk9 (i := 5) (some 20) (.bool true) rfl rfl (fun W hSw => ?_) Swa ?_
            · (try dsimp only at hSw); go_simp <;> with_reducible rfl
            try simp only [Act.put, l9a, l9z, l9s]
            refine tk9 (i := 6) (some 21) (.bool true) rfl rfl (fun W hSw => ?_) Swa ?_
            · (try dsimp only at hSw); go_simp <;> with_reducible rfl
            try simp only [Act.put, l9a, l9z, l9s]
            refine tk9 (i := 7) (some 22) (.slice (some ⟨b, off, none⟩) l.length c) rfl rfl (fun W hSw => ?_) Swa ?_
            · (try dsimp only at hSw); go_simp <;> with_reducible rfl
            try simp only [Act.put, l9a, l9z, l9s]
            refine tk9 (i := 8) (some 23) (.int .i64 (k : Int)) rfl rfl (fun W hSw => ?_) Swa ?_
            · (try dsimp only at hSw); go_simp <;> with_reducible rfl
            try simp only [Act.put, l9a, l9z, l9s]
            refine tk9 (i := 9) (some 24) (.int .i64 (j : Int)) rfl rfl (fun W hSw => ?_) Swa ?_
            · (try dsimp only at hSw); go_simp <;> with_reducible rfl
            try simp only [Act.put, l9a, l9z, l9s]
            refine tk9 (i := 10) (some 25) (.pointer (some ⟨b, off + j * 7, none⟩)) rfl rfl (fun W hSw => ?_) Swa ?_
            · (try dsimp only at hSw); go_simp <;> with_reducible rfl
            try simp only [Act.put, l9a, l9z, l9s]
            refine tk9 (i := 11) (some 26) (.agg #[.int .i64 y0, .int .i64 y1, .int .i64 y2, .int .i64 y3, .int .i64 y4, .int .i64 y5, .int .i64 y6]) rfl rfl (fun W hSw => ?_) Swa ?_
            · (try dsimp only at hSw); go_simp <;> with_reducible rfl
            try simp only [Act.put, l9a, l9z, l9s]
            refine tk9 (i := 12) (some 27) (.agg #[.int .i64 x0, .int .i64 x1, .int .i64 x2, .int .i64 x3, .int .i64 x4, .int .i64 x5, .int .i64 x6]) rfl rfl (fun W hSw => ?_) Swa ?_
            · (try dsimp only at hSw); go_simp <;> with_reducible rfl
            try simp only [Act.put, l9a, l9z, l9s]
            refine wpAnyH_ready (rs := [13]) (by kernel_rfl) (by simp) ?_
            refine AllReadyH.cons rfl (fun K hK => ?_) AllReadyH.nil
            go_simp
            go_at_call 112
            refine (folI_any _ y0 y1 y2 y3 y4 y5 y6 x0 x1 x2 x3 x4 x5 x6).mono ?_
            rintro e wb ⟨rfl, hb8⟩
            rw [HF.out]
            have hb9wb : Below w1.heap.size w1 wb := bthen Swa.2 hb8
            have Swb : (fun W : World => (W.cell? ⟨wr.heap.size, 0, none⟩ = some (.int .i64 x0) ∧ W.cell? ⟨wr.heap.size, 1, none⟩ = some (.int .i64 x1) ∧ W.cell? ⟨wr.heap.size, 2, none⟩ = some (.int .i64 x2) ∧ W.cell? ⟨wr.heap.size, 3, none⟩ = some (.int .i64 x3) ∧ W.cell? ⟨wr.heap.size, 4, none⟩ = some (.int .i64 x4) ∧ W.cell? ⟨wr.heap.size, 5, none⟩ = some (.int .i64 x5) ∧ W.cell? ⟨wr.heap.size, 6, none⟩ = some (.int .i64 x6) ∧ W.cell? ⟨b, off + j * 7, none⟩ = some (.int .i64 y0) ∧ W.cell? ⟨b, off + j * 7 + 1, none⟩ = some (.int .i64 y1) ∧ W.cell? ⟨b, off + j * 7 + 2, none⟩ = some (.int .i64 y2) ∧ W.cell? ⟨b, off + j * 7 + 3, none⟩ = some (.int .i64 y3) ∧ W.cell? ⟨b, off + j * 7 + 4, none⟩ = some (.int .i64 y4) ∧ W.cell? ⟨b, off + j * 7 + 5, none⟩ = some (.int .i64 y5) ∧ W.cell? ⟨b, off + j * 7 + 6, none⟩ = some (.int .i64 y6)) ∧ Below w1.heap.size w1 W) wb := ⟨⟨(bold hb9wb _ _ (hzl)).trans S0.1.1, (bold hb9wb _ _ (hzl)).trans S0.1.2.1, (bold hb9wb _ _ (hzl)).trans S0.1.2.2.1, (bold hb9wb _ _ (hzl)).trans S0.1.2.2.2.1, (bold hb9wb _ _ (hzl)).trans S0.1.2.2.2.2.1, (bold hb9wb _ _ (hzl)).trans S0.1.2.2.2.2.2.1, (bold hb9wb _ _ (hzl)).trans S0.1.2.2.2.2.2.2.1, (bold hb9wb _ _ (hbl)).trans S0.1.2.2.2.2.2.2.2.1, (bold hb9wb _ _ (hbl)).trans S0.1.2.2.2.2.2.2.2.2.1, (bold hb9wb _ _ (hbl)).trans S0.1.2.2.2.2.2.2.2.2.2.1, (bold hb9wb _ _ (hbl)).trans S0.1.2.2.2.2.2.2.2.2.2.2.1, (bold hb9wb _ _ (hbl)).trans S0.1.2.2.2.2.2.2.2.2.2.2.2.1, (bold hb9wb _ _ (hbl)).trans S0.1.2.2.2.2.2.2.2.2.2.2.2.2.1, (bold hb9wb _ _ (hbl)).trans S0.1.2.2.2.2.2.2.2.2.2.2.2.2.2⟩, hb9wb⟩
            clear hb8
            go_wp2_with fail
            refine hK.out _ _ Swb (fun _ => ?_)
            clear hK K
            try simp only [Act.put, l9a, l9z, l9s]
            refine tk9 (i := 14) (some 29) (.bool true) rfl rfl (fun W hSw => ?_) Swb ?_
            · (try dsimp only at hSw); go_simp <;> with_reducible rfl
            try simp only [Act.put, l9a, l9z, l9s]
            refine tk9 (i := 15) (some 30) (.bool true) rfl rfl (fun W hSw => ?_) Swb ?_
            · (try dsimp only at hSw); go_simp <;> with_reducible rfl
            try simp only [Act.put, l9a, l9z, l9s]
            refine tk9 (i := 16) (some 31) (.bool true) rfl rfl (fun W hSw => ?_) Swb ?_
            · (try dsimp only at hSw); go_simp <;> with_reducible rfl
            try simp only [Act.put, l9a, l9z, l9s]
            refine wpAnyH_done (by kernel_rfl) ?_ _
            have hbreg : Below w1.heap.size w1 wb := Swb.2
            clear S0 Swa hb9wa Swb hb9wb
            go_wp2_with fail
            clear hkd hkp sA sB sC
            go_ret
            exact ⟨rbool (jrn_off Hy.out (by rw [HJ.out]; exact Hx.out) HF.out).symm, (HB.out.trans ((HB1.out.trans (hbreg.mono hs1)).mono hsz))⟩
          · skip
            have HF := Lib.hid hf; clear hf
            go_wp2_with fail
            generalize hX : (wr.alloc (.cells #[.int .i64 x0, .int .i64 x1, .int .i64 x2, .int .i64 x3, .int .i64 x4, .int .i64 x5, .int .i64 x6] 99)) = w1
            have hb1 : Below wr.heap.size wr w1 := by rw [← hX]; exact balloc _ _
            have za : Has w1 wr.heap.size 99 #[.int .i64 x0, .int .i64 x1, .int .i64 x2, .int .i64 x3, .int .i64 x4, .int .i64 x5, .int .i64 x6] := by rw [← hX]; exact has_new _ _ _
            clear hX
            have q0 := has_cell za 0 rfl; have q1 := has_cell za 1 rfl; have q2 := has_cell za 2 rfl; have q3 := has_cell za 3 rfl; have q4 := has_cell za 4 rfl; have q5 := has_cell za 5 rfl; have q6 := has_cell za 6 rfl
            have r0 := (bold hb1 _ _ (by omega)).trans hd0; have r1 := (bold hb1 _ _ (by omega)).trans hd1; have r2 := (bold hb1 _ _ (by omega)).trans hd2; have r3 := (bold hb1 _ _ (by omega)).trans hd3; have r4 := (bold hb1 _ _ (by omega)).trans hd4; have r5 := (bold hb1 _ _ (by omega)).trans hd5; have r6 := (bold hb1 _ _ (by omega)).trans hd6
            have hzl := has_lt za
            have hs1 := hb1.size
            have hbl : b < w1.heap.size := by omega
            clear hc0 hc1 hc2 hc3 hc4 hc5 hc6 hd0 hd1 hd2 hd3 hd4 hd5 hd6 za
            have HB := Lib.hid hb; have HB1 := Lib.hid hb1; clear hb hb1
            have S0 : (fun W : World => (W.cell? ⟨wr.heap.size, 0, none⟩ = some (.int .i64 x0) ∧ W.cell? ⟨wr.heap.size, 1, none⟩ = some (.int .i64 x1) ∧ W.cell? ⟨wr.heap.size, 2, none⟩ = some (.int .i64 x2) ∧ W.cell? ⟨wr.heap.size, 3, none⟩ = some (.int .i64 x3) ∧ W.cell? ⟨wr.heap.size, 4, none⟩ = some (.int .i64 x4) ∧ W.cell? ⟨wr.heap.size, 5, none⟩ = some (.int .i64 x5) ∧ W.cell? ⟨wr.heap.size, 6, none⟩ = some (.int .i64 x6) ∧ W.cell? ⟨b, off + j * 7, none⟩ = some (.int .i64 y0) ∧ W.cell? ⟨b, off + j * 7 + 1, none⟩ = some (.int .i64 y1) ∧ W.cell? ⟨b, off + j * 7 + 2, none⟩ = some (.int .i64 y2) ∧ W.cell? ⟨b, off + j * 7 + 3, none⟩ = some (.int .i64 y3) ∧ W.cell? ⟨b, off + j * 7 + 4, none⟩ = some (.int .i64 y4) ∧ W.cell? ⟨b, off + j * 7 + 5, none⟩ = some (.int .i64 y5) ∧ W.cell? ⟨b, off + j * 7 + 6, none⟩ = some (.int .i64 y6)) ∧ Below w1.heap.size w1 W) w1.drew := ⟨⟨q0, q1, q2, q3, q4, q5, q6, r0, r1, r2, r3, r4, r5, r6⟩, (Below.refl _ _).drew⟩
            clear q0 q1 q2 q3 q4 q5 q6 r0 r1 r2 r3 r4 r5 r6
            refine wp_region_held_drew (S := (fun W : World => (W.cell? ⟨wr.heap.size, 0, none⟩ = some (.int .i64 x0) ∧ W.cell? ⟨wr.heap.size, 1, none⟩ = some (.int .i64 x1) ∧ W.cell? ⟨wr.heap.size, 2, none⟩ = some (.int .i64 x2) ∧ W.cell? ⟨wr.heap.size, 3, none⟩ = some (.int .i64 x3) ∧ W.cell? ⟨wr.heap.size, 4, none⟩ = some (.int .i64 x4) ∧ W.cell? ⟨wr.heap.size, 5, none⟩ = some (.int .i64 x5) ∧ W.cell? ⟨wr.heap.size, 6, none⟩ = some (.int .i64 x6) ∧ W.cell? ⟨b, off + j * 7, none⟩ = some (.int .i64 y0) ∧ W.cell? ⟨b, off + j * 7 + 1, none⟩ = some (.int .i64 y1) ∧ W.cell? ⟨b, off + j * 7 + 2, none⟩ = some (.int .i64 y2) ∧ W.cell? ⟨b, off + j * 7 + 3, none⟩ = some (.int .i64 y3) ∧ W.cell? ⟨b, off + j * 7 + 4, none⟩ = some (.int .i64 y4) ∧ W.cell? ⟨b, off + j * 7 + 5, none⟩ = some (.int .i64 y5) ∧ W.cell? ⟨b, off + j * 7 + 6, none⟩ = some (.int .i64 y6)) ∧ Below w1.heap.size w1 W)) (by kernel_rfl) S0 (fun _ => ?_)
            refine tk9 (i := 0) (some 15) (.agg #[.int .i64 x0, .int .i64 x1, .int .i64 x2, .int .i64 x3, .int .i64 x4, .int .i64 x5, .int .i64 x6]) rfl rfl (fun W hSw => ?_) S0 ?_
            · (try dsimp only at hSw); go_simp <;> with_reducible rfl
            try simp only [Act.put, l9a, l9z, l9s]
            refine wpAnyH_ready (rs := [1]) (by kernel_rfl) (by simp) ?_
            refine AllReadyH.cons rfl (fun K hK => ?_) AllReadyH.nil
            go_simp
            go_at_call 111
            refine (evI_any _ x0 x1 x2 x3 x4 x5 x6).mono ?_
            rintro e wa ⟨rfl, hb8⟩
            rw [HQ.out]
            have hb9wa : Below w1.heap.size w1 wa := ((Below.refl w1.heap.size w1).drew).trans hb8
            have Swa : (fun W : World => (W.cell? ⟨wr.heap.size, 0, none⟩ = some (.int .i64 x0) ∧ W.cell? ⟨wr.heap.size, 1, none⟩ = some (.int .i64 x1) ∧ W.cell? ⟨wr.heap.size, 2, none⟩ = some (.int .i64 x2) ∧ W.cell? ⟨wr.heap.size, 3, none⟩ = some (.int .i64 x3) ∧ W.cell? ⟨wr.heap.size, 4, none⟩ = some (.int .i64 x4) ∧ W.cell? ⟨wr.heap.size, 5, none⟩ = some (.int .i64 x5) ∧ W.cell? ⟨wr.heap.size, 6, none⟩ = some (.int .i64 x6) ∧ W.cell? ⟨b, off + j * 7, none⟩ = some (.int .i64 y0) ∧ W.cell? ⟨b, off + j * 7 + 1, none⟩ = some (.int .i64 y1) ∧ W.cell? ⟨b, off + j * 7 + 2, none⟩ = some (.int .i64 y2) ∧ W.cell? ⟨b, off + j * 7 + 3, none⟩ = some (.int .i64 y3) ∧ W.cell? ⟨b, off + j * 7 + 4, none⟩ = some (.int .i64 y4) ∧ W.cell? ⟨b, off + j * 7 + 5, none⟩ = some (.int .i64 y5) ∧ W.cell? ⟨b, off + j * 7 + 6, none⟩ = some (.int .i64 y6)) ∧ Below w1.heap.size w1 W) wa := ⟨⟨(bold hb9wa _ _ (hzl)).trans S0.1.1, (bold hb9wa _ _ (hzl)).trans S0.1.2.1, (bold hb9wa _ _ (hzl)).trans S0.1.2.2.1, (bold hb9wa _ _ (hzl)).trans S0.1.2.2.2.1, (bold hb9wa _ _ (hzl)).trans S0.1.2.2.2.2.1, (bold hb9wa _ _ (hzl)).trans S0.1.2.2.2.2.2.1, (bold hb9wa _ _ (hzl)).trans S0.1.2.2.2.2.2.2.1, (bold hb9wa _ _ (hbl)).trans S0.1.2.2.2.2.2.2.2.1, (bold hb9wa _ _ (hbl)).trans S0.1.2.2.2.2.2.2.2.2.1, (bold hb9wa _ _ (hbl)).trans S0.1.2.2.2.2.2.2.2.2.2.1, (bold hb9wa _ _ (hbl)).trans S0.1.2.2.2.2.2.2.2.2.2.2.1, (bold hb9wa _ _ (hbl)).trans S0.1.2.2.2.2.2.2.2.2.2.2.2.1, (bold hb9wa _ _ (hbl)).trans S0.1.2.2.2.2.2.2.2.2.2.2.2.2.1, (bold hb9wa _ _ (hbl)).trans S0.1.2.2.2.2.2.2.2.2.2.2.2.2.2⟩, hb9wa⟩
            clear hb8
            go_wp2_with fail
            refine hK.out _ _ Swa (fun _ => ?_)
            clear hK K
            try simp only [Act.put, l9a, l9z, l9s]
            refine tk9 (i := 2) (some 17) (.bool false) rfl rfl (fun W hSw => ?_) Swa ?_
            · (try dsimp only at hSw); go_simp <;> with_reducible rfl
            try simp only [Act.put, l9a, l9z, l9s]
            refine tk9 (i := 3) (some 18) (.bool false) rfl rfl (fun W hSw => ?_) Swa ?_
            · (try dsimp only at hSw); go_simp <;> with_reducible rfl
            try simp only [Act.put, l9a, l9z, l9s]
            refine tk9 (i := 4) (some 19) (.int .i64 (k : Int)) rfl rfl (fun W hSw => ?_) Swa ?_
            · (try dsimp only at hSw); go_simp <;> with_reducible rfl
            try simp only [Act.put, l9a, l9z, l9s]
            refine tk9 (i := 5) (some 20) (.bool true) rfl rfl (fun W hSw => ?_) Swa ?_
            · (try dsimp only at hSw); go_simp <;> with_reducible rfl
            try simp only [Act.put, l9a, l9z, l9s]
            refine tk9 (i := 6) (some 21) (.bool true) rfl rfl (fun W hSw => ?_) Swa ?_
            · (try dsimp only at hSw); go_simp <;> with_reducible rfl
            try simp only [Act.put, l9a, l9z, l9s]
            refine tk9 (i := 7) (some 22) (.slice (some ⟨b, off, none⟩) l.length c) rfl rfl (fun W hSw => ?_) Swa ?_
            · (try dsimp only at hSw); go_simp <;> with_reducible rfl
            try simp only [Act.put, l9a, l9z, l9s]
            refine tk9 (i := 8) (some 23) (.int .i64 (k : Int)) rfl rfl (fun W hSw => ?_) Swa ?_
            · (try dsimp only at hSw); go_simp <;> with_reducible rfl
            try simp only [Act.put, l9a, l9z, l9s]
            refine tk9 (i := 9) (some 24) (.int .i64 (j : Int)) rfl rfl (fun W hSw => ?_) Swa ?_
            · (try dsimp only at hSw); go_simp <;> with_reducible rfl
            try simp only [Act.put, l9a, l9z, l9s]
            refine tk9 (i := 10) (some 25) (.pointer (some ⟨b, off + j * 7, none⟩)) rfl rfl (fun W hSw => ?_) Swa ?_
            · (try dsimp only at hSw); go_simp <;> with_reducible rfl
            try simp only [Act.put, l9a, l9z, l9s]
            refine tk9 (i := 11) (some 26) (.agg #[.int .i64 y0, .int .i64 y1, .int .i64 y2, .int .i64 y3, .int .i64 y4, .int .i64 y5, .int .i64 y6]) rfl rfl (fun W hSw => ?_) Swa ?_
            · (try dsimp only at hSw); go_simp <;> with_reducible rfl
            try simp only [Act.put, l9a, l9z, l9s]
            refine tk9 (i := 12) (some 27) (.agg #[.int .i64 x0, .int .i64 x1, .int .i64 x2, .int .i64 x3, .int .i64 x4, .int .i64 x5, .int .i64 x6]) rfl rfl (fun W hSw => ?_) Swa ?_
            · (try dsimp only at hSw); go_simp <;> with_reducible rfl
            try simp only [Act.put, l9a, l9z, l9s]
            refine wpAnyH_ready (rs := [13]) (by kernel_rfl) (by simp) ?_
            refine AllReadyH.cons rfl (fun K hK => ?_) AllReadyH.nil
            go_simp
            go_at_call 112
            refine (folI_any _ y0 y1 y2 y3 y4 y5 y6 x0 x1 x2 x3 x4 x5 x6).mono ?_
            rintro e wb ⟨rfl, hb8⟩
            rw [HF.out]
            have hb9wb : Below w1.heap.size w1 wb := bthen Swa.2 hb8
            have Swb : (fun W : World => (W.cell? ⟨wr.heap.size, 0, none⟩ = some (.int .i64 x0) ∧ W.cell? ⟨wr.heap.size, 1, none⟩ = some (.int .i64 x1) ∧ W.cell? ⟨wr.heap.size, 2, none⟩ = some (.int .i64 x2) ∧ W.cell? ⟨wr.heap.size, 3, none⟩ = some (.int .i64 x3) ∧ W.cell? ⟨wr.heap.size, 4, none⟩ = some (.int .i64 x4) ∧ W.cell? ⟨wr.heap.size, 5, none⟩ = some (.int .i64 x5) ∧ W.cell? ⟨wr.heap.size, 6, none⟩ = some (.int .i64 x6) ∧ W.cell? ⟨b, off + j * 7, none⟩ = some (.int .i64 y0) ∧ W.cell? ⟨b, off + j * 7 + 1, none⟩ = some (.int .i64 y1) ∧ W.cell? ⟨b, off + j * 7 + 2, none⟩ = some (.int .i64 y2) ∧ W.cell? ⟨b, off + j * 7 + 3, none⟩ = some (.int .i64 y3) ∧ W.cell? ⟨b, off + j * 7 + 4, none⟩ = some (.int .i64 y4) ∧ W.cell? ⟨b, off + j * 7 + 5, none⟩ = some (.int .i64 y5) ∧ W.cell? ⟨b, off + j * 7 + 6, none⟩ = some (.int .i64 y6)) ∧ Below w1.heap.size w1 W) wb := ⟨⟨(bold hb9wb _ _ (hzl)).trans S0.1.1, (bold hb9wb _ _ (hzl)).trans S0.1.2.1, (bold hb9wb _ _ (hzl)).trans S0.1.2.2.1, (bold hb9wb _ _ (hzl)).trans S0.1.2.2.2.1, (bold hb9wb _ _ (hzl)).trans S0.1.2.2.2.2.1, (bold hb9wb _ _ (hzl)).trans S0.1.2.2.2.2.2.1, (bold hb9wb _ _ (hzl)).trans S0.1.2.2.2.2.2.2.1, (bold hb9wb _ _ (hbl)).trans S0.1.2.2.2.2.2.2.2.1, (bold hb9wb _ _ (hbl)).trans S0.1.2.2.2.2.2.2.2.2.1, (bold hb9wb _ _ (hbl)).trans S0.1.2.2.2.2.2.2.2.2.2.1, (bold hb9wb _ _ (hbl)).trans S0.1.2.2.2.2.2.2.2.2.2.2.1, (bold hb9wb _ _ (hbl)).trans S0.1.2.2.2.2.2.2.2.2.2.2.2.1, (bold hb9wb _ _ (hbl)).trans S0.1.2.2.2.2.2.2.2.2.2.2.2.2.1, (bold hb9wb _ _ (hbl)).trans S0.1.2.2.2.2.2.2.2.2.2.2.2.2.2⟩, hb9wb⟩
            clear hb8
            go_wp2_with fail
            refine hK.out _ _ Swb (fun _ => ?_)
            clear hK K
            try simp only [Act.put, l9a, l9z, l9s]
            refine tk9 (i := 14) (some 29) (.bool false) rfl rfl (fun W hSw => ?_) Swb ?_
            · (try dsimp only at hSw); go_simp <;> with_reducible rfl
            try simp only [Act.put, l9a, l9z, l9s]
            refine tk9 (i := 15) (some 30) (.bool false) rfl rfl (fun W hSw => ?_) Swb ?_
            · (try dsimp only at hSw); go_simp <;> with_reducible rfl
            try simp only [Act.put, l9a, l9z, l9s]
            refine tk9 (i := 16) (some 31) (.bool false) rfl rfl (fun W hSw => ?_) Swb ?_
            · (try dsimp only at hSw); go_simp <;> with_reducible rfl
            try simp only [Act.put, l9a, l9z, l9s]
            refine wpAnyH_done (by kernel_rfl) ?_ _
            have hbreg : Below w1.heap.size w1 wb := Swb.2
            clear S0 Swa hb9wa Swb hb9wb
            go_wp2_with fail
            clear hkd hkp sA sB sC
            go_roundw
            case rel => exact ⟨k + 1, by omega, by go_num, jrnTo_succ Hno.out Hx.out HQ.out (fun x _ h => by rw [← HJ.out, Nat.add_sub_cancel, Hy.out] at h; injection h with h; subst h; exact HF.out), (HB.out.trans ((HB1.out.trans (hbreg.mono hs1)).mono hsz))⟩
            case measure => simp [intOf]; omega
    · go_wp2
      go_ret
      have hkl : k = l.length := by omega
      subst hkl
      exact ⟨rbool (jrn_all (by omega) Hno.out).symm, hb⟩
set_option maxRecDepth 100000 in
set_option maxHeartbeats 16000000 in
theorem jrnS_any (w : World) (B : Nat) (A : Option Addr) (c : Nat) (l : List Ev) (hl : l.length ≤ maxLen) (hB : B ≤ w.heap.size) (hS : evL w B A l) :
    Calls Tryz.prog 36 #[.slice A l.length c] w fun e w' => e = .returned (.bool (jrnB l)) ∧ Below w.heap.size w w' := by
  unfold maxLen at hl
  by_cases h60 : 60 < l.length
  · go_enter Tryz.func36, Tryz.ntmps36
    go_wp2
    go_ret
    exact ⟨rbool (jrn_long h60).symm, Below.refl _ _⟩
  go_enter Tryz.func36, Tryz.ntmps36
  go_wp2
  go_loopw [3] (fun i wr => ∃ k : Nat, k ≤ l.length ∧ i = .int .i64 k ∧ JrnTo l k ∧ Below w.heap.size w wr) (fun i _ => l.length - (intOf i).toNat)
  case atStart => exact ⟨0, Nat.zero_le _, rfl, jrnTo_zero l, Below.refl _ _⟩
  case round =>
    obtain ⟨k, hk, rfl, hno, hb⟩ := hrel
    have Hno := Lib.hid hno; clear hno
    have hsz := hb.size
    by_cases hlt : k < l.length
    · have hkl : (k : Int) < l.length := by omega
      have hk0 : (0 : Int) ≤ k := by omega
      cases hq0 : ((l[k]?).getD zeroE |> evB)
      · skip
        obtain ⟨b, off, ⟨x0, x1, x2, x3, x4, x5, x6⟩, rfl, hbB, hx, hc0, hc1, hc2, hc3, hc4, hc5, hc6⟩ := (hS.below (hb.mono hB)).at_ hlt
        dsimp only at hc0 hc1 hc2 hc3 hc4 hc5 hc6
        have Hx := Lib.hid hx; clear hx
        have HS := Lib.hid hS; clear hS
        rw [Hx.out] at hq0; dsimp only [Option.getD_some] at hq0
        have HQ := Lib.hid hq0; clear hq0
        go_wp2_with fail
        generalize hX : (wr.alloc (.cells #[.int .i64 x0, .int .i64 x1, .int .i64 x2, .int .i64 x3, .int .i64 x4, .int .i64 x5, .int .i64 x6] 99)) = w1
        have hb1 : Below wr.heap.size wr w1 := by rw [← hX]; exact balloc _ _
        have za : Has w1 wr.heap.size 99 #[.int .i64 x0, .int .i64 x1, .int .i64 x2, .int .i64 x3, .int .i64 x4, .int .i64 x5, .int .i64 x6] := by rw [← hX]; exact has_new _ _ _
        clear hX
        have q0 := has_cell za 0 rfl; have q1 := has_cell za 1 rfl; have q2 := has_cell za 2 rfl; have q3 := has_cell za 3 rfl; have q4 := has_cell za 4 rfl; have q5 := has_cell za 5 rfl; have q6 := has_cell za 6 rfl
        have hzl := has_lt za
        have hs1 := hb1.size
        have hbl : b < w1.heap.size := by omega
        clear hc0 hc1 hc2 hc3 hc4 hc5 hc6 za
        have HB := Lib.hid hb; have HB1 := Lib.hid hb1; clear hb hb1
        have S0 : (fun W : World => (W.cell? ⟨wr.heap.size, 0, none⟩ = some (.int .i64 x0) ∧ W.cell? ⟨wr.heap.size, 1, none⟩ = some (.int .i64 x1) ∧ W.cell? ⟨wr.heap.size, 2, none⟩ = some (.int .i64 x2) ∧ W.cell? ⟨wr.heap.size, 3, none⟩ = some (.int .i64 x3) ∧ W.cell? ⟨wr.heap.size, 4, none⟩ = some (.int .i64 x4) ∧ W.cell? ⟨wr.heap.size, 5, none⟩ = some (.int .i64 x5) ∧ W.cell? ⟨wr.heap.size, 6, none⟩ = some (.int .i64 x6)) ∧ Below w1.heap.size w1 W) w1.drew := ⟨⟨q0, q1, q2, q3, q4, q5, q6⟩, (Below.refl _ _).drew⟩
        clear q0 q1 q2 q3 q4 q5 q6
        refine wp_region_held_drew (S := (fun W : World => (W.cell? ⟨wr.heap.size, 0, none⟩ = some (.int .i64 x0) ∧ W.cell? ⟨wr.heap.size, 1, none⟩ = some (.int .i64 x1) ∧ W.cell? ⟨wr.heap.size, 2, none⟩ = some (.int .i64 x2) ∧ W.cell? ⟨wr.heap.size, 3, none⟩ = some (.int .i64 x3) ∧ W.cell? ⟨wr.heap.size, 4, none⟩ = some (.int .i64 x4) ∧ W.cell? ⟨wr.heap.size, 5, none⟩ = some (.int .i64 x5) ∧ W.cell? ⟨wr.heap.size, 6, none⟩ = some (.int .i64 x6)) ∧ Below w1.heap.size w1 W)) (by kernel_rfl) S0 (fun _ => ?_)
        refine tk9 (i := 0) (some 18) (.agg #[.int .i64 x0, .int .i64 x1, .int .i64 x2, .int .i64 x3, .int .i64 x4, .int .i64 x5, .int .i64 x6]) rfl rfl (fun W hSw => ?_) S0 ?_
        · (try dsimp only at hSw); go_simp <;> with_reducible rfl
        try simp only [Act.put, l9a, l9z, l9s]
        refine wpAnyH_ready (rs := [1]) (by kernel_rfl) (by simp) ?_
        refine AllReadyH.cons rfl (fun K hK => ?_) AllReadyH.nil
        go_simp
        go_at_call 61
        refine (evS_any _ x0 x1 x2 x3 x4 x5 x6).mono ?_
        rintro e wa ⟨rfl, hb8⟩
        rw [HQ.out]
        have hb9wa : Below w1.heap.size w1 wa := ((Below.refl w1.heap.size w1).drew).trans hb8
        have Swa : (fun W : World => (W.cell? ⟨wr.heap.size, 0, none⟩ = some (.int .i64 x0) ∧ W.cell? ⟨wr.heap.size, 1, none⟩ = some (.int .i64 x1) ∧ W.cell? ⟨wr.heap.size, 2, none⟩ = some (.int .i64 x2) ∧ W.cell? ⟨wr.heap.size, 3, none⟩ = some (.int .i64 x3) ∧ W.cell? ⟨wr.heap.size, 4, none⟩ = some (.int .i64 x4) ∧ W.cell? ⟨wr.heap.size, 5, none⟩ = some (.int .i64 x5) ∧ W.cell? ⟨wr.heap.size, 6, none⟩ = some (.int .i64 x6)) ∧ Below w1.heap.size w1 W) wa := ⟨⟨(bold hb9wa _ _ (hzl)).trans S0.1.1, (bold hb9wa _ _ (hzl)).trans S0.1.2.1, (bold hb9wa _ _ (hzl)).trans S0.1.2.2.1, (bold hb9wa _ _ (hzl)).trans S0.1.2.2.2.1, (bold hb9wa _ _ (hzl)).trans S0.1.2.2.2.2.1, (bold hb9wa _ _ (hzl)).trans S0.1.2.2.2.2.2.1, (bold hb9wa _ _ (hzl)).trans S0.1.2.2.2.2.2.2⟩, hb9wa⟩
        clear hb8
        go_wp2_with fail
        refine hK.out _ _ Swa (fun _ => ?_)
        clear hK K
        try simp only [Act.put, l9a, l9z, l9s]
        refine tk9 (i := 2) (some 20) (.bool true) rfl rfl (fun W hSw => ?_) Swa ?_
        · (try dsimp only at hSw); go_simp <;> with_reducible rfl
        try simp only [Act.put, l9a, l9z, l9s]
        refine tk9 (i := 3) (some 21) (.bool true) rfl rfl (fun W hSw => ?_) Swa ?_
        · (try dsimp only at hSw); go_simp <;> with_reducible rfl
        try simp only [Act.put, l9a, l9z, l9s]
        refine sk9 (i := 4) (some 22) rfl rfl Swa ?_
        try simp only [Act.put, l9a, l9z, l9s]
        refine sk9 (i := 5) (some 23) rfl rfl Swa ?_
        try simp only [Act.put, l9a, l9z, l9s]
        refine sk9 (i := 6) (some 24) rfl rfl Swa ?_
        try simp only [Act.put, l9a, l9z, l9s]
        refine sk9 (i := 7) (some 25) rfl rfl Swa ?_
        try simp only [Act.put, l9a, l9z, l9s]
        refine sk9 (i := 8) (some 26) rfl rfl Swa ?_
        try simp only [Act.put, l9a, l9z, l9s]
        refine sk9 (i := 9) (some 27) rfl rfl Swa ?_
        try simp only [Act.put, l9a, l9z, l9s]
        refine sk9 (i := 10) (some 28) rfl rfl Swa ?_
        try simp only [Act.put, l9a, l9z, l9s]
        refine sk9 (i := 11) (some 29) rfl rfl Swa ?_
        try simp only [Act.put, l9a, l9z, l9s]
        refine sk9 (i := 12) (some 30) rfl rfl Swa ?_
        try simp only [Act.put, l9a, l9z, l9s]
        refine sk9 (i := 13) (some 31) rfl rfl Swa ?_
        try simp only [Act.put, l9a, l9z, l9s]
        refine sk9 (i := 14) (some 32) rfl rfl Swa ?_
        try simp only [Act.put, l9a, l9z, l9s]
        refine sk9 (i := 15) (some 33) rfl rfl Swa ?_
        try simp only [Act.put, l9a, l9z, l9s]
        refine sk9 (i := 16) (some 34) rfl rfl Swa ?_
        try simp only [Act.put, l9a, l9z, l9s]
        refine tk9 (i := 17) (some 35) (.bool true) rfl rfl (fun W hSw => ?_) Swa ?_
        · (try dsimp only at hSw); go_simp <;> with_reducible rfl
        try simp only [Act.put, l9a, l9z, l9s]
        refine tk9 (i := 18) (some 36) (.bool true) rfl rfl (fun W hSw => ?_) Swa ?_
        · (try dsimp only at hSw); go_simp <;> with_reducible rfl
        try simp only [Act.put, l9a, l9z, l9s]
        refine sk9 (i := 19) (some 37) rfl rfl Swa ?_
        try simp only [Act.put, l9a, l9z, l9s]
        refine sk9 (i := 20) (some 38) rfl rfl Swa ?_
        try simp only [Act.put, l9a, l9z, l9s]
        refine sk9 (i := 21) (some 39) rfl rfl Swa ?_
        try simp only [Act.put, l9a, l9z, l9s]
        refine sk9 (i := 22) (some 40) rfl rfl Swa ?_
        try simp only [Act.put, l9a, l9z, l9s]
        refine sk9 (i := 23) (some 41) rfl rfl Swa ?_
        try simp only [Act.put, l9a, l9z, l9s]
        refine sk9 (i := 24) (some 42) rfl rfl Swa ?_
        try simp only [Act.put, l9a, l9z, l9s]
        refine sk9 (i := 25) (some 43) rfl rfl Swa ?_
        try simp only [Act.put, l9a, l9z, l9s]
        refine sk9 (i := 26) (some 44) rfl rfl Swa ?_
        try simp only [Act.put, l9a, l9z, l9s]
        refine sk9 (i := 27) (some 45) rfl rfl Swa ?_
        try simp only [Act.put, l9a, l9z, l9s]
        refine sk9 (i := 28) (some 46) rfl rfl Swa ?_
        try simp only [Act.put, l9a, l9z, l9s]
        refine sk9 (i := 29) (some 47) rfl rfl Swa ?_
        try simp only [Act.put, l9a, l9z, l9s]
        refine sk9 (i := 30) (some 48) rfl rfl Swa ?_
        try simp only [Act.put, l9a, l9z, l9s]
        refine sk9 (i := 31) (some 49) rfl rfl Swa ?_
        try simp only [Act.put, l9a, l9z, l9s]
        refine sk9 (i := 32) (some 50) rfl rfl Swa ?_
        try simp only [Act.put, l9a, l9z, l9s]
        refine sk9 (i := 33) (some 51) rfl rfl Swa ?_
        try simp only [Act.put, l9a, l9z, l9s]
        refine sk9 (i := 34) (some 52) rfl rfl Swa ?_
        try simp only [Act.put, l9a, l9z, l9s]
        refine sk9 (i := 35) (some 53) rfl rfl Swa ?_
        try simp only [Act.put, l9a, l9z, l9s]
        refine sk9 (i := 36) (some 54) rfl rfl Swa ?_
        try simp only [Act.put, l9a, l9z, l9s]
        refine sk9 (i := 37) (some 55) rfl rfl Swa ?_
        try simp only [Act.put, l9a, l9z, l9s]
        refine sk9 (i := 38) (some 56) rfl rfl Swa ?_
        try simp only [Act.put, l9a, l9z, l9s]
        refine sk9 (i := 39) (some 57) rfl rfl Swa ?_
        try simp only [Act.put, l9a, l9z, l9s]
        refine sk9 (i := 40) (some 58) rfl rfl Swa ?_
        try simp only [Act.put, l9a, l9z, l9s]
        refine sk9 (i := 41) (some 59) rfl rfl Swa ?_
        try simp only [Act.put, l9a, l9z, l9s]
        refine sk9 (i := 42) (some 60) rfl rfl Swa ?_
        try simp only [Act.put, l9a, l9z, l9s]
        refine sk9 (i := 43) (some 61) rfl rfl Swa ?_
        try simp only [Act.put, l9a, l9z, l9s]
        refine sk9 (i := 44) (some 62) rfl rfl Swa ?_
        try simp only [Act.put, l9a, l9z, l9s]
        refine sk9 (i := 45) (some 63) rfl rfl Swa ?_
        try simp only [Act.put, l9a, l9z, l9s]
        refine sk9 (i := 46) (some 64) rfl rfl Swa ?_
        try simp only [Act.put, l9a, l9z, l9s]
        refine sk9 (i := 47) (some 65) rfl rfl Swa ?_
        try simp only [Act.put, l9a, l9z, l9s]
        refine sk9 (i := 48) (some 66) rfl rfl Swa ?_
        try simp only [Act.put, l9a, l9z, l9s]
        refine sk9 (i := 49) (some 67) rfl rfl Swa ?_
        try simp only [Act.put, l9a, l9z, l9s]
        refine sk9 (i := 50) (some 68) rfl rfl Swa ?_
        try simp only [Act.put, l9a, l9z, l9s]
        refine sk9 (i := 51) (some 69) rfl rfl Swa ?_
        try simp only [Act.put, l9a, l9z, l9s]
        refine sk9 (i := 52) (some 70) rfl rfl Swa ?_
        try simp only [Act.put, l9a, l9z, l9s]
        refine sk9 (i := 53) (some 71) rfl rfl Swa ?_
        try simp only [Act.put, l9a, l9z, l9s]
        refine tk9 (i := 54) (some 72) (.bool true) rfl rfl (fun W hSw => ?_) Swa ?_
        · (try dsimp only at hSw); go_simp <;> with_reducible rfl
        try simp only [Act.put, l9a, l9z, l9s]
        refine wpAnyH_done (by kernel_rfl) ?_ _
        have hbreg : Below w1.heap.size w1 wa := Swa.2
        clear S0 Swa hb9wa
        go_wp2_with fail
        go_ret
        exact ⟨rbool (jrn_bad Hx.out HQ.out).symm, (HB.out.trans ((HB1.out.trans (hbreg.mono hs1)).mono hsz))⟩
      · skip
        by_cases hkz : k = 0
        · skip
          obtain ⟨b, off, ⟨x0, x1, x2, x3, x4, x5, x6⟩, rfl, hbB, hx, hc0, hc1, hc2, hc3, hc4, hc5, hc6⟩ := (hS.below (hb.mono hB)).at_ hlt
          dsimp only at hc0 hc1 hc2 hc3 hc4 hc5 hc6
          have Hx := Lib.hid hx; clear hx
          have HS := Lib.hid hS; clear hS
          rw [Hx.out] at hq0; dsimp only [Option.getD_some] at hq0
          have HQ := Lib.hid hq0; clear hq0
          have hkd : decide (0 < k) = false := decide_eq_false (by omega)
          have HKZ := Lib.hid hkz; clear hkz
          go_wp2_with fail
          generalize hX : (wr.alloc (.cells #[.int .i64 x0, .int .i64 x1, .int .i64 x2, .int .i64 x3, .int .i64 x4, .int .i64 x5, .int .i64 x6] 99)) = w1
          have hb1 : Below wr.heap.size wr w1 := by rw [← hX]; exact balloc _ _
          have za : Has w1 wr.heap.size 99 #[.int .i64 x0, .int .i64 x1, .int .i64 x2, .int .i64 x3, .int .i64 x4, .int .i64 x5, .int .i64 x6] := by rw [← hX]; exact has_new _ _ _
          clear hX
          have q0 := has_cell za 0 rfl; have q1 := has_cell za 1 rfl; have q2 := has_cell za 2 rfl; have q3 := has_cell za 3 rfl; have q4 := has_cell za 4 rfl; have q5 := has_cell za 5 rfl; have q6 := has_cell za 6 rfl
          have hzl := has_lt za
          have hs1 := hb1.size
          have hbl : b < w1.heap.size := by omega
          clear hc0 hc1 hc2 hc3 hc4 hc5 hc6 za
          have HB := Lib.hid hb; have HB1 := Lib.hid hb1; clear hb hb1
          have S0 : (fun W : World => (W.cell? ⟨wr.heap.size, 0, none⟩ = some (.int .i64 x0) ∧ W.cell? ⟨wr.heap.size, 1, none⟩ = some (.int .i64 x1) ∧ W.cell? ⟨wr.heap.size, 2, none⟩ = some (.int .i64 x2) ∧ W.cell? ⟨wr.heap.size, 3, none⟩ = some (.int .i64 x3) ∧ W.cell? ⟨wr.heap.size, 4, none⟩ = some (.int .i64 x4) ∧ W.cell? ⟨wr.heap.size, 5, none⟩ = some (.int .i64 x5) ∧ W.cell? ⟨wr.heap.size, 6, none⟩ = some (.int .i64 x6)) ∧ Below w1.heap.size w1 W) w1.drew := ⟨⟨q0, q1, q2, q3, q4, q5, q6⟩, (Below.refl _ _).drew⟩
          clear q0 q1 q2 q3 q4 q5 q6
          refine wp_region_held_drew (S := (fun W : World => (W.cell? ⟨wr.heap.size, 0, none⟩ = some (.int .i64 x0) ∧ W.cell? ⟨wr.heap.size, 1, none⟩ = some (.int .i64 x1) ∧ W.cell? ⟨wr.heap.size, 2, none⟩ = some (.int .i64 x2) ∧ W.cell? ⟨wr.heap.size, 3, none⟩ = some (.int .i64 x3) ∧ W.cell? ⟨wr.heap.size, 4, none⟩ = some (.int .i64 x4) ∧ W.cell? ⟨wr.heap.size, 5, none⟩ = some (.int .i64 x5) ∧ W.cell? ⟨wr.heap.size, 6, none⟩ = some (.int .i64 x6)) ∧ Below w1.heap.size w1 W)) (by kernel_rfl) S0 (fun _ => ?_)
          refine tk9 (i := 0) (some 18) (.agg #[.int .i64 x0, .int .i64 x1, .int .i64 x2, .int .i64 x3, .int .i64 x4, .int .i64 x5, .int .i64 x6]) rfl rfl (fun W hSw => ?_) S0 ?_
          · (try dsimp only at hSw); go_simp <;> with_reducible rfl
          try simp only [Act.put, l9a, l9z, l9s]
          refine wpAnyH_ready (rs := [1]) (by kernel_rfl) (by simp) ?_
          refine AllReadyH.cons rfl (fun K hK => ?_) AllReadyH.nil
          go_simp
          go_at_call 61
          refine (evS_any _ x0 x1 x2 x3 x4 x5 x6).mono ?_
          rintro e wa ⟨rfl, hb8⟩
          rw [HQ.out]
          have hb9wa : Below w1.heap.size w1 wa := ((Below.refl w1.heap.size w1).drew).trans hb8
          have Swa : (fun W : World => (W.cell? ⟨wr.heap.size, 0, none⟩ = some (.int .i64 x0) ∧ W.cell? ⟨wr.heap.size, 1, none⟩ = some (.int .i64 x1) ∧ W.cell? ⟨wr.heap.size, 2, none⟩ = some (.int .i64 x2) ∧ W.cell? ⟨wr.heap.size, 3, none⟩ = some (.int .i64 x3) ∧ W.cell? ⟨wr.heap.size, 4, none⟩ = some (.int .i64 x4) ∧ W.cell? ⟨wr.heap.size, 5, none⟩ = some (.int .i64 x5) ∧ W.cell? ⟨wr.heap.size, 6, none⟩ = some (.int .i64 x6)) ∧ Below w1.heap.size w1 W) wa := ⟨⟨(bold hb9wa _ _ (hzl)).trans S0.1.1, (bold hb9wa _ _ (hzl)).trans S0.1.2.1, (bold hb9wa _ _ (hzl)).trans S0.1.2.2.1, (bold hb9wa _ _ (hzl)).trans S0.1.2.2.2.1, (bold hb9wa _ _ (hzl)).trans S0.1.2.2.2.2.1, (bold hb9wa _ _ (hzl)).trans S0.1.2.2.2.2.2.1, (bold hb9wa _ _ (hzl)).trans S0.1.2.2.2.2.2.2⟩, hb9wa⟩
          clear hb8
          go_wp2_with fail
          refine hK.out _ _ Swa (fun _ => ?_)
          clear hK K
          try simp only [Act.put, l9a, l9z, l9s]
          refine tk9 (i := 2) (some 20) (.bool false) rfl rfl (fun W hSw => ?_) Swa ?_
          · (try dsimp only at hSw); go_simp <;> with_reducible rfl
          try simp only [Act.put, l9a, l9z, l9s]
          refine tk9 (i := 3) (some 21) (.bool false) rfl rfl (fun W hSw => ?_) Swa ?_
          · (try dsimp only at hSw); go_simp <;> with_reducible rfl
          try simp only [Act.put, l9a, l9z, l9s]
          refine tk9 (i := 4) (some 22) (.int .i64 (k : Int)) rfl rfl (fun W hSw => ?_) Swa ?_
          · (try dsimp only at hSw); go_simp <;> with_reducible rfl
          try simp only [Act.put, l9a, l9z, l9s]
          refine tk9 (i := 5) (some 23) (.bool false) rfl rfl (fun W hSw => ?_) Swa ?_
          · (try dsimp only at hSw); go_simp <;> with_reducible rfl
          try simp only [Act.put, l9a, l9z, l9s]
          refine tk9 (i := 6) (some 24) (.bool false) rfl rfl (fun W hSw => ?_) Swa ?_
          · (try dsimp only at hSw); go_simp <;> with_reducible rfl
          try simp only [Act.put, l9a, l9z, l9s]
          refine sk9 (i := 7) (some 25) rfl rfl Swa ?_
          try simp only [Act.put, l9a, l9z, l9s]
          refine sk9 (i := 8) (some 26) rfl rfl Swa ?_
          try simp only [Act.put, l9a, l9z, l9s]
          refine sk9 (i := 9) (some 27) rfl rfl Swa ?_
          try simp only [Act.put, l9a, l9z, l9s]
          refine sk9 (i := 10) (some 28) rfl rfl Swa ?_
          try simp only [Act.put, l9a, l9z, l9s]
          refine sk9 (i := 11) (some 29) rfl rfl Swa ?_
          try simp only [Act.put, l9a, l9z, l9s]
          refine sk9 (i := 12) (some 30) rfl rfl Swa ?_
          try simp only [Act.put, l9a, l9z, l9s]
          refine sk9 (i := 13) (some 31) rfl rfl Swa ?_
          try simp only [Act.put, l9a, l9z, l9s]
          refine sk9 (i := 14) (some 32) rfl rfl Swa ?_
          try simp only [Act.put, l9a, l9z, l9s]
          refine sk9 (i := 15) (some 33) rfl rfl Swa ?_
          try simp only [Act.put, l9a, l9z, l9s]
          refine tk9 (i := 16) (some 34) (.bool false) rfl rfl (fun W hSw => ?_) Swa ?_
          · (try dsimp only at hSw); go_simp <;> with_reducible rfl
          try simp only [Act.put, l9a, l9z, l9s]
          refine tk9 (i := 17) (some 35) (.bool false) rfl rfl (fun W hSw => ?_) Swa ?_
          · (try dsimp only at hSw); go_simp <;> with_reducible rfl
          try simp only [Act.put, l9a, l9z, l9s]
          refine tk9 (i := 18) (some 36) (.bool false) rfl rfl (fun W hSw => ?_) Swa ?_
          · (try dsimp only at hSw); go_simp <;> with_reducible rfl
          try simp only [Act.put, l9a, l9z, l9s]
          refine tk9 (i := 19) (some 37) (.int .i64 (k : Int)) rfl rfl (fun W hSw => ?_) Swa ?_
          · (try dsimp only at hSw); go_simp <;> with_reducible rfl
          try simp only [Act.put, l9a, l9z, l9s]
          refine tk9 (i := 20) (some 38) (.bool false) rfl rfl (fun W hSw => ?_) Swa ?_
          · (try dsimp only at hSw); go_simp <;> with_reducible rfl
          try simp only [Act.put, l9a, l9z, l9s]
          refine tk9 (i := 21) (some 39) (.bool false) rfl rfl (fun W hSw => ?_) Swa ?_
          · (try dsimp only at hSw); go_simp <;> with_reducible rfl
          try simp only [Act.put, l9a, l9z, l9s]
          refine sk9 (i := 22) (some 40) rfl rfl Swa ?_
          try simp only [Act.put, l9a, l9z, l9s]
          refine sk9 (i := 23) (some 41) rfl rfl Swa ?_
          try simp only [Act.put, l9a, l9z, l9s]
          refine sk9 (i := 24) (some 42) rfl rfl Swa ?_
          try simp only [Act.put, l9a, l9z, l9s]
          refine sk9 (i := 25) (some 43) rfl rfl Swa ?_
          try simp only [Act.put, l9a, l9z, l9s]
          refine sk9 (i := 26) (some 44) rfl rfl Swa ?_
          try simp only [Act.put, l9a, l9z, l9s]
          refine sk9 (i := 27) (some 45) rfl rfl Swa ?_
          try simp only [Act.put, l9a, l9z, l9s]
          refine sk9 (i := 28) (some 46) rfl rfl Swa ?_
          try simp only [Act.put, l9a, l9z, l9s]
          refine sk9 (i := 29) (some 47) rfl rfl Swa ?_
          try simp only [Act.put, l9a, l9z, l9s]
          refine sk9 (i := 30) (some 48) rfl rfl Swa ?_
          try simp only [Act.put, l9a, l9z, l9s]
          refine tk9 (i := 31) (some 49) (.bool false) rfl rfl (fun W hSw => ?_) Swa ?_
          · (try dsimp only at hSw); go_simp <;> with_reducible rfl
          try simp only [Act.put, l9a, l9z, l9s]
          refine tk9 (i := 32) (some 50) (.bool false) rfl rfl (fun W hSw => ?_) Swa ?_
          · (try dsimp only at hSw); go_simp <;> with_reducible rfl
          try simp only [Act.put, l9a, l9z, l9s]
          refine sk9 (i := 33) (some 51) rfl rfl Swa ?_
          try simp only [Act.put, l9a, l9z, l9s]
          refine sk9 (i := 34) (some 52) rfl rfl Swa ?_
          try simp only [Act.put, l9a, l9z, l9s]
          refine sk9 (i := 35) (some 53) rfl rfl Swa ?_
          try simp only [Act.put, l9a, l9z, l9s]
          refine sk9 (i := 36) (some 54) rfl rfl Swa ?_
          try simp only [Act.put, l9a, l9z, l9s]
          refine sk9 (i := 37) (some 55) rfl rfl Swa ?_
          try simp only [Act.put, l9a, l9z, l9s]
          refine sk9 (i := 38) (some 56) rfl rfl Swa ?_
          try simp only [Act.put, l9a, l9z, l9s]
          refine sk9 (i := 39) (some 57) rfl rfl Swa ?_
          try simp only [Act.put, l9a, l9z, l9s]
          refine sk9 (i := 40) (some 58) rfl rfl Swa ?_
          try simp only [Act.put, l9a, l9z, l9s]
          refine sk9 (i := 41) (some 59) rfl rfl Swa ?_
          try simp only [Act.put, l9a, l9z, l9s]
          refine sk9 (i := 42) (some 60) rfl rfl Swa ?_
          try simp only [Act.put, l9a, l9z, l9s]
          refine sk9 (i := 43) (some 61) rfl rfl Swa ?_
          try simp only [Act.put, l9a, l9z, l9s]
          refine sk9 (i := 44) (some 62) rfl rfl Swa ?_
          try simp only [Act.put, l9a, l9z, l9s]
          refine sk9 (i := 45) (some 63) rfl rfl Swa ?_
          try simp only [Act.put, l9a, l9z, l9s]
          refine sk9 (i := 46) (some 64) rfl rfl Swa ?_
          try simp only [Act.put, l9a, l9z, l9s]
          refine sk9 (i := 47) (some 65) rfl rfl Swa ?_
          try simp only [Act.put, l9a, l9z, l9s]
          refine sk9 (i := 48) (some 66) rfl rfl Swa ?_
          try simp only [Act.put, l9a, l9z, l9s]
          refine sk9 (i := 49) (some 67) rfl rfl Swa ?_
          try simp only [Act.put, l9a, l9z, l9s]
          refine sk9 (i := 50) (some 68) rfl rfl Swa ?_
          try simp only [Act.put, l9a, l9z, l9s]
          refine sk9 (i := 51) (some 69) rfl rfl Swa ?_
          try simp only [Act.put, l9a, l9z, l9s]
          refine sk9 (i := 52) (some 70) rfl rfl Swa ?_
          try simp only [Act.put, l9a, l9z, l9s]
          refine tk9 (i := 53) (some 71) (.bool false) rfl rfl (fun W hSw => ?_) Swa ?_
          · (try dsimp only at hSw); go_simp <;> with_reducible rfl
          try simp only [Act.put, l9a, l9z, l9s]
          refine tk9 (i := 54) (some 72) (.bool false) rfl rfl (fun W hSw => ?_) Swa ?_
          · (try dsimp only at hSw); go_simp <;> with_reducible rfl
          try simp only [Act.put, l9a, l9z, l9s]
          refine wpAnyH_done (by kernel_rfl) ?_ _
          have hbreg : Below w1.heap.size w1 wa := Swa.2
          clear S0 Swa hb9wa
          go_wp2_with fail
          clear hkd
          go_roundw
          case rel => exact ⟨k + 1, by omega, by go_num, jrnTo_succ Hno.out Hx.out HQ.out (fun x h => absurd h (by have := HKZ.out; omega)), (HB.out.trans ((HB1.out.trans (hbreg.mono hs1)).mono hsz))⟩
          case measure => simp [intOf]; omega
        · skip
          obtain ⟨j, hj⟩ : ∃ j, j + 1 = k := ⟨k - 1, by omega⟩
          have hjl : j < l.length := by omega
          have hkd : decide (0 < k) = true := decide_eq_true (by omega)
          have hkp : 0 < k := by omega
          have sA : IntKind.i64.wrap ((k : Int) - 1) = (j : Int) := by rw [IntWalk.i64_in _ (by omega)]; omega
          have sB : (j : Int) < l.length := by omega
          have sC : (0 : Int) ≤ j := by omega
          obtain ⟨b, off, ⟨x0, x1, x2, x3, x4, x5, x6⟩, ⟨y0, y1, y2, y3, y4, y5, y6⟩, rfl, hbB, hx, hy, ⟨hc0, hc1, hc2, hc3, hc4, hc5, hc6⟩, hd0, hd1, hd2, hd3, hd4, hd5, hd6⟩ := (hS.below (hb.mono hB)).two hlt hjl
          dsimp only at hc0 hc1 hc2 hc3 hc4 hc5 hc6 hd0 hd1 hd2 hd3 hd4 hd5 hd6
          have Hy := Lib.hid hy; clear hy
          have Hx := Lib.hid hx; clear hx
          have HS := Lib.hid hS; clear hS
          rw [Hx.out] at hq0; dsimp only [Option.getD_some] at hq0
          have HQ := Lib.hid hq0; clear hq0
          have HJ := Lib.hid hj; clear hj hkz
          have hcs : x0 < y0 ∨ (¬ x0 < y0 ∧ x0 = y0 ∧ x1 ≤ y1) ∨ (¬ x0 < y0 ∧ x0 = y0 ∧ ¬ x1 ≤ y1 ∧ x2 ≤ y2) ∨ (¬ x0 < y0 ∧ x0 = y0 ∧ ¬ x1 ≤ y1 ∧ ¬ x2 ≤ y2) ∨ (¬ x0 < y0 ∧ ¬ x0 = y0) := by omega
          rcases hcs with h1 | ⟨h1, h2, h3⟩ | ⟨h1, h2, h3, h4⟩ | ⟨h1, h2, h3, h4⟩ | ⟨h1, h2⟩
          · skip
            have HF := Lib.hid (show folB ⟨y0, y1, y2, y3, y4, y5, y6⟩ ⟨x0, x1, x2, x3, x4, x5, x6⟩ = false by rw [Bool.eq_false_iff]; intro hv; rw [folB_iff] at hv; dsimp only at hv; omega)
            have d0 : decide (x0 < y0) = true := decide_eq_true h1
            clear h1
            go_wp2_with fail
            generalize hX : (wr.alloc (.cells #[.int .i64 x0, .int .i64 x1, .int .i64 x2, .int .i64 x3, .int .i64 x4, .int .i64 x5, .int .i64 x6] 99)) = w1
            have hb1 : Below wr.heap.size wr w1 := by rw [← hX]; exact balloc _ _
            have za : Has w1 wr.heap.size 99 #[.int .i64 x0, .int .i64 x1, .int .i64 x2, .int .i64 x3, .int .i64 x4, .int .i64 x5, .int .i64 x6] := by rw [← hX]; exact has_new _ _ _
            clear hX
            have q0 := has_cell za 0 rfl; have q1 := has_cell za 1 rfl; have q2 := has_cell za 2 rfl; have q3 := has_cell za 3 rfl; have q4 := has_cell za 4 rfl; have q5 := has_cell za 5 rfl; have q6 := has_cell za 6 rfl
            have r0 := (bold hb1 _ _ (by omega)).trans hd0; have r1 := (bold hb1 _ _ (by omega)).trans hd1; have r2 := (bold hb1 _ _ (by omega)).trans hd2; have r3 := (bold hb1 _ _ (by omega)).trans hd3; have r4 := (bold hb1 _ _ (by omega)).trans hd4; have r5 := (bold hb1 _ _ (by omega)).trans hd5; have r6 := (bold hb1 _ _ (by omega)).trans hd6
            have hzl := has_lt za
            have hs1 := hb1.size
            have hbl : b < w1.heap.size := by omega
            clear hc0 hc1 hc2 hc3 hc4 hc5 hc6 hd0 hd1 hd2 hd3 hd4 hd5 hd6 za
            have HB := Lib.hid hb; have HB1 := Lib.hid hb1; clear hb hb1
            have S0 : (fun W : World => (W.cell? ⟨wr.heap.size, 0, none⟩ = some (.int .i64 x0) ∧ W.cell? ⟨wr.heap.size, 1, none⟩ = some (.int .i64 x1) ∧ W.cell? ⟨wr.heap.size, 2, none⟩ = some (.int .i64 x2) ∧ W.cell? ⟨wr.heap.size, 3, none⟩ = some (.int .i64 x3) ∧ W.cell? ⟨wr.heap.size, 4, none⟩ = some (.int .i64 x4) ∧ W.cell? ⟨wr.heap.size, 5, none⟩ = some (.int .i64 x5) ∧ W.cell? ⟨wr.heap.size, 6, none⟩ = some (.int .i64 x6) ∧ W.cell? ⟨b, off + j * 7, none⟩ = some (.int .i64 y0) ∧ W.cell? ⟨b, off + j * 7 + 1, none⟩ = some (.int .i64 y1) ∧ W.cell? ⟨b, off + j * 7 + 2, none⟩ = some (.int .i64 y2) ∧ W.cell? ⟨b, off + j * 7 + 3, none⟩ = some (.int .i64 y3) ∧ W.cell? ⟨b, off + j * 7 + 4, none⟩ = some (.int .i64 y4) ∧ W.cell? ⟨b, off + j * 7 + 5, none⟩ = some (.int .i64 y5) ∧ W.cell? ⟨b, off + j * 7 + 6, none⟩ = some (.int .i64 y6)) ∧ Below w1.heap.size w1 W) w1.drew := ⟨⟨q0, q1, q2, q3, q4, q5, q6, r0, r1, r2, r3, r4, r5, r6⟩, (Below.refl _ _).drew⟩
            clear q0 q1 q2 q3 q4 q5 q6 r0 r1 r2 r3 r4 r5 r6
            refine wp_region_held_drew (S := (fun W : World => (W.cell? ⟨wr.heap.size, 0, none⟩ = some (.int .i64 x0) ∧ W.cell? ⟨wr.heap.size, 1, none⟩ = some (.int .i64 x1) ∧ W.cell? ⟨wr.heap.size, 2, none⟩ = some (.int .i64 x2) ∧ W.cell? ⟨wr.heap.size, 3, none⟩ = some (.int .i64 x3) ∧ W.cell? ⟨wr.heap.size, 4, none⟩ = some (.int .i64 x4) ∧ W.cell? ⟨wr.heap.size, 5, none⟩ = some (.int .i64 x5) ∧ W.cell? ⟨wr.heap.size, 6, none⟩ = some (.int .i64 x6) ∧ W.cell? ⟨b, off + j * 7, none⟩ = some (.int .i64 y0) ∧ W.cell? ⟨b, off + j * 7 + 1, none⟩ = some (.int .i64 y1) ∧ W.cell? ⟨b, off + j * 7 + 2, none⟩ = some (.int .i64 y2) ∧ W.cell? ⟨b, off + j * 7 + 3, none⟩ = some (.int .i64 y3) ∧ W.cell? ⟨b, off + j * 7 + 4, none⟩ = some (.int .i64 y4) ∧ W.cell? ⟨b, off + j * 7 + 5, none⟩ = some (.int .i64 y5) ∧ W.cell? ⟨b, off + j * 7 + 6, none⟩ = some (.int .i64 y6)) ∧ Below w1.heap.size w1 W)) (by kernel_rfl) S0 (fun _ => ?_)
            refine tk9 (i := 0) (some 18) (.agg #[.int .i64 x0, .int .i64 x1, .int .i64 x2, .int .i64 x3, .int .i64 x4, .int .i64 x5, .int .i64 x6]) rfl rfl (fun W hSw => ?_) S0 ?_
            · (try dsimp only at hSw); go_simp <;> with_reducible rfl
            try simp only [Act.put, l9a, l9z, l9s]
            refine wpAnyH_ready (rs := [1]) (by kernel_rfl) (by simp) ?_
            refine AllReadyH.cons rfl (fun K hK => ?_) AllReadyH.nil
            go_simp
            go_at_call 61
            refine (evS_any _ x0 x1 x2 x3 x4 x5 x6).mono ?_
            rintro e wa ⟨rfl, hb8⟩
            rw [HQ.out]
            have hb9wa : Below w1.heap.size w1 wa := ((Below.refl w1.heap.size w1).drew).trans hb8
            have Swa : (fun W : World => (W.cell? ⟨wr.heap.size, 0, none⟩ = some (.int .i64 x0) ∧ W.cell? ⟨wr.heap.size, 1, none⟩ = some (.int .i64 x1) ∧ W.cell? ⟨wr.heap.size, 2, none⟩ = some (.int .i64 x2) ∧ W.cell? ⟨wr.heap.size, 3, none⟩ = some (.int .i64 x3) ∧ W.cell? ⟨wr.heap.size, 4, none⟩ = some (.int .i64 x4) ∧ W.cell? ⟨wr.heap.size, 5, none⟩ = some (.int .i64 x5) ∧ W.cell? ⟨wr.heap.size, 6, none⟩ = some (.int .i64 x6) ∧ W.cell? ⟨b, off + j * 7, none⟩ = some (.int .i64 y0) ∧ W.cell? ⟨b, off + j * 7 + 1, none⟩ = some (.int .i64 y1) ∧ W.cell? ⟨b, off + j * 7 + 2, none⟩ = some (.int .i64 y2) ∧ W.cell? ⟨b, off + j * 7 + 3, none⟩ = some (.int .i64 y3) ∧ W.cell? ⟨b, off + j * 7 + 4, none⟩ = some (.int .i64 y4) ∧ W.cell? ⟨b, off + j * 7 + 5, none⟩ = some (.int .i64 y5) ∧ W.cell? ⟨b, off + j * 7 + 6, none⟩ = some (.int .i64 y6)) ∧ Below w1.heap.size w1 W) wa := ⟨⟨(bold hb9wa _ _ (hzl)).trans S0.1.1, (bold hb9wa _ _ (hzl)).trans S0.1.2.1, (bold hb9wa _ _ (hzl)).trans S0.1.2.2.1, (bold hb9wa _ _ (hzl)).trans S0.1.2.2.2.1, (bold hb9wa _ _ (hzl)).trans S0.1.2.2.2.2.1, (bold hb9wa _ _ (hzl)).trans S0.1.2.2.2.2.2.1, (bold hb9wa _ _ (hzl)).trans S0.1.2.2.2.2.2.2.1, (bold hb9wa _ _ (hbl)).trans S0.1.2.2.2.2.2.2.2.1, (bold hb9wa _ _ (hbl)).trans S0.1.2.2.2.2.2.2.2.2.1, (bold hb9wa _ _ (hbl)).trans S0.1.2.2.2.2.2.2.2.2.2.1, (bold hb9wa _ _ (hbl)).trans S0.1.2.2.2.2.2.2.2.2.2.2.1, (bold hb9wa _ _ (hbl)).trans S0.1.2.2.2.2.2.2.2.2.2.2.2.1, (bold hb9wa _ _ (hbl)).trans S0.1.2.2.2.2.2.2.2.2.2.2.2.2.1, (bold hb9wa _ _ (hbl)).trans S0.1.2.2.2.2.2.2.2.2.2.2.2.2.2⟩, hb9wa⟩
            clear hb8
            go_wp2_with fail
            refine hK.out _ _ Swa (fun _ => ?_)
            clear hK K
            try simp only [Act.put, l9a, l9z, l9s]
            refine tk9 (i := 2) (some 20) (.bool false) rfl rfl (fun W hSw => ?_) Swa ?_
            · (try dsimp only at hSw); go_simp <;> with_reducible rfl
            try simp only [Act.put, l9a, l9z, l9s]
            refine tk9 (i := 3) (some 21) (.bool false) rfl rfl (fun W hSw => ?_) Swa ?_
            · (try dsimp only at hSw); go_simp <;> with_reducible rfl
            try simp only [Act.put, l9a, l9z, l9s]
            refine tk9 (i := 4) (some 22) (.int .i64 (k : Int)) rfl rfl (fun W hSw => ?_) Swa ?_
            · (try dsimp only at hSw); go_simp <;> with_reducible rfl
            try simp only [Act.put, l9a, l9z, l9s]
            refine tk9 (i := 5) (some 23) (.bool true) rfl rfl (fun W hSw => ?_) Swa ?_
            · (try dsimp only at hSw); go_simp <;> with_reducible rfl
            try simp only [Act.put, l9a, l9z, l9s]
            refine tk9 (i := 6) (some 24) (.bool true) rfl rfl (fun W hSw => ?_) Swa ?_
            · (try dsimp only at hSw); go_simp <;> with_reducible rfl
            try simp only [Act.put, l9a, l9z, l9s]
            refine tk9 (i := 7) (some 25) (.pointer (some ⟨wr.heap.size, 0, none⟩)) rfl rfl (fun W hSw => ?_) Swa ?_
            · (try dsimp only at hSw); go_simp <;> with_reducible rfl
            try simp only [Act.put, l9a, l9z, l9s]
            refine tk9 (i := 8) (some 26) (.int .i64 x0) rfl rfl (fun W hSw => ?_) Swa ?_
            · (try dsimp only at hSw); go_simp <;> with_reducible rfl
            try simp only [Act.put, l9a, l9z, l9s]
            refine tk9 (i := 9) (some 27) (.slice (some ⟨b, off, none⟩) l.length c) rfl rfl (fun W hSw => ?_) Swa ?_
            · (try dsimp only at hSw); go_simp <;> with_reducible rfl
            try simp only [Act.put, l9a, l9z, l9s]
            refine tk9 (i := 10) (some 28) (.int .i64 (k : Int)) rfl rfl (fun W hSw => ?_) Swa ?_
            · (try dsimp only at hSw); go_simp <;> with_reducible rfl
            try simp only [Act.put, l9a, l9z, l9s]
            refine tk9 (i := 11) (some 29) (.int .i64 (j : Int)) rfl rfl (fun W hSw => ?_) Swa ?_
            · (try dsimp only at hSw); go_simp <;> with_reducible rfl
            try simp only [Act.put, l9a, l9z, l9s]
            refine tk9 (i := 12) (some 30) (.pointer (some ⟨b, off + j * 7, none⟩)) rfl rfl (fun W hSw => ?_) Swa ?_
            · (try dsimp only at hSw); go_simp <;> with_reducible rfl
            try simp only [Act.put, l9a, l9z, l9s]
            refine tk9 (i := 13) (some 31) (.pointer (some ⟨b, off + j * 7, none⟩)) rfl rfl (fun W hSw => ?_) Swa ?_
            · (try dsimp only at hSw); go_simp <;> with_reducible rfl
            try simp only [Act.put, l9a, l9z, l9s]
            refine tk9 (i := 14) (some 32) (.int .i64 y0) rfl rfl (fun W hSw => ?_) Swa ?_
            · (try dsimp only at hSw); go_simp <;> with_reducible rfl
            try simp only [Act.put, l9a, l9z, l9s]
            refine tk9 (i := 15) (some 33) (.bool true) rfl rfl (fun W hSw => ?_) Swa ?_
            · (try dsimp only at hSw); go_simp <;> with_reducible rfl
            try simp only [Act.put, l9a, l9z, l9s]
            refine tk9 (i := 16) (some 34) (.bool true) rfl rfl (fun W hSw => ?_) Swa ?_
            · (try dsimp only at hSw); go_simp <;> with_reducible rfl
            try simp only [Act.put, l9a, l9z, l9s]
            refine tk9 (i := 17) (some 35) (.bool true) rfl rfl (fun W hSw => ?_) Swa ?_
            · (try dsimp only at hSw); go_simp <;> with_reducible rfl
            try simp only [Act.put, l9a, l9z, l9s]
            refine tk9 (i := 18) (some 36) (.bool true) rfl rfl (fun W hSw => ?_) Swa ?_
            · (try dsimp only at hSw); go_simp <;> with_reducible rfl
            try simp only [Act.put, l9a, l9z, l9s]
            refine sk9 (i := 19) (some 37) rfl rfl Swa ?_
            try simp only [Act.put, l9a, l9z, l9s]
            refine sk9 (i := 20) (some 38) rfl rfl Swa ?_
            try simp only [Act.put, l9a, l9z, l9s]
            refine sk9 (i := 21) (some 39) rfl rfl Swa ?_
            try simp only [Act.put, l9a, l9z, l9s]
            refine sk9 (i := 22) (some 40) rfl rfl Swa ?_
            try simp only [Act.put, l9a, l9z, l9s]
            refine sk9 (i := 23) (some 41) rfl rfl Swa ?_
            try simp only [Act.put, l9a, l9z, l9s]
            refine sk9 (i := 24) (some 42) rfl rfl Swa ?_
            try simp only [Act.put, l9a, l9z, l9s]
            refine sk9 (i := 25) (some 43) rfl rfl Swa ?_
            try simp only [Act.put, l9a, l9z, l9s]
            refine sk9 (i := 26) (some 44) rfl rfl Swa ?_
            try simp only [Act.put, l9a, l9z, l9s]
            refine sk9 (i := 27) (some 45) rfl rfl Swa ?_
            try simp only [Act.put, l9a, l9z, l9s]
            refine sk9 (i := 28) (some 46) rfl rfl Swa ?_
            try simp only [Act.put, l9a, l9z, l9s]
            refine sk9 (i := 29) (some 47) rfl rfl Swa ?_
            try simp only [Act.put, l9a, l9z, l9s]
            refine sk9 (i := 30) (some 48) rfl rfl Swa ?_
            try simp only [Act.put, l9a, l9z, l9s]
            refine sk9 (i := 31) (some 49) rfl rfl Swa ?_
            try simp only [Act.put, l9a, l9z, l9s]
            refine sk9 (i := 32) (some 50) rfl rfl Swa ?_
            try simp only [Act.put, l9a, l9z, l9s]
            refine sk9 (i := 33) (some 51) rfl rfl Swa ?_
            try simp only [Act.put, l9a, l9z, l9s]
            refine sk9 (i := 34) (some 52) rfl rfl Swa ?_
            try simp only [Act.put, l9a, l9z, l9s]
            refine sk9 (i := 35) (some 53) rfl rfl Swa ?_
            try simp only [Act.put, l9a, l9z, l9s]
            refine sk9 (i := 36) (some 54) rfl rfl Swa ?_
            try simp only [Act.put, l9a, l9z, l9s]
            refine sk9 (i := 37) (some 55) rfl rfl Swa ?_
            try simp only [Act.put, l9a, l9z, l9s]
            refine sk9 (i := 38) (some 56) rfl rfl Swa ?_
            try simp only [Act.put, l9a, l9z, l9s]
            refine sk9 (i := 39) (some 57) rfl rfl Swa ?_
            try simp only [Act.put, l9a, l9z, l9s]
            refine sk9 (i := 40) (some 58) rfl rfl Swa ?_
            try simp only [Act.put, l9a, l9z, l9s]
            refine sk9 (i := 41) (some 59) rfl rfl Swa ?_
            try simp only [Act.put, l9a, l9z, l9s]
            refine sk9 (i := 42) (some 60) rfl rfl Swa ?_
            try simp only [Act.put, l9a, l9z, l9s]
            refine sk9 (i := 43) (some 61) rfl rfl Swa ?_
            try simp only [Act.put, l9a, l9z, l9s]
            refine sk9 (i := 44) (some 62) rfl rfl Swa ?_
            try simp only [Act.put, l9a, l9z, l9s]
            refine sk9 (i := 45) (some 63) rfl rfl Swa ?_
            try simp only [Act.put, l9a, l9z, l9s]
            refine sk9 (i := 46) (some 64) rfl rfl Swa ?_
            try simp only [Act.put, l9a, l9z, l9s]
            refine sk9 (i := 47) (some 65) rfl rfl Swa ?_
            try simp only [Act.put, l9a, l9z, l9s]
            refine sk9 (i := 48) (some 66) rfl rfl Swa ?_
            try simp only [Act.put, l9a, l9z, l9s]
            refine sk9 (i := 49) (some 67) rfl rfl Swa ?_
            try simp only [Act.put, l9a, l9z, l9s]
            refine sk9 (i := 50) (some 68) rfl rfl Swa ?_
            try simp only [Act.put, l9a, l9z, l9s]
            refine sk9 (i := 51) (some 69) rfl rfl Swa ?_
            try simp only [Act.put, l9a, l9z, l9s]
            refine sk9 (i := 52) (some 70) rfl rfl Swa ?_
            try simp only [Act.put, l9a, l9z, l9s]
            refine sk9 (i := 53) (some 71) rfl rfl Swa ?_
            try simp only [Act.put, l9a, l9z, l9s]
            refine tk9 (i := 54) (some 72) (.bool true) rfl rfl (fun W hSw => ?_) Swa ?_
            · (try dsimp only at hSw); go_simp <;> with_reducible rfl
            try simp only [Act.put, l9a, l9z, l9s]
            refine wpAnyH_done (by kernel_rfl) ?_ _
            have hbreg : Below w1.heap.size w1 wa := Swa.2
            clear S0 Swa hb9wa
            go_wp2_with fail
            clear hkd hkp sA sB sC d0
            go_ret
            exact ⟨rbool (jrn_off Hy.out (by rw [HJ.out]; exact Hx.out) HF.out).symm, (HB.out.trans ((HB1.out.trans (hbreg.mono hs1)).mono hsz))⟩
          · skip
            have HF := Lib.hid (show folB ⟨y0, y1, y2, y3, y4, y5, y6⟩ ⟨x0, x1, x2, x3, x4, x5, x6⟩ = false by rw [Bool.eq_false_iff]; intro hv; rw [folB_iff] at hv; dsimp only at hv; omega)
            have d0 : decide (x0 < y0) = false := decide_eq_false h1
            have d1 : (x0 == y0) = true := by simp; omega
            have d2 : decide (x1 ≤ y1) = true := decide_eq_true h3
            clear h1 h2 h3
            go_wp2_with fail
            generalize hX : (wr.alloc (.cells #[.int .i64 x0, .int .i64 x1, .int .i64 x2, .int .i64 x3, .int .i64 x4, .int .i64 x5, .int .i64 x6] 99)) = w1
            have hb1 : Below wr.heap.size wr w1 := by rw [← hX]; exact balloc _ _
            have za : Has w1 wr.heap.size 99 #[.int .i64 x0, .int .i64 x1, .int .i64 x2, .int .i64 x3, .int .i64 x4, .int .i64 x5, .int .i64 x6] := by rw [← hX]; exact has_new _ _ _
            clear hX
            have q0 := has_cell za 0 rfl; have q1 := has_cell za 1 rfl; have q2 := has_cell za 2 rfl; have q3 := has_cell za 3 rfl; have q4 := has_cell za 4 rfl; have q5 := has_cell za 5 rfl; have q6 := has_cell za 6 rfl
            have r0 := (bold hb1 _ _ (by omega)).trans hd0; have r1 := (bold hb1 _ _ (by omega)).trans hd1; have r2 := (bold hb1 _ _ (by omega)).trans hd2; have r3 := (bold hb1 _ _ (by omega)).trans hd3; have r4 := (bold hb1 _ _ (by omega)).trans hd4; have r5 := (bold hb1 _ _ (by omega)).trans hd5; have r6 := (bold hb1 _ _ (by omega)).trans hd6
            have hzl := has_lt za
            have hs1 := hb1.size
            have hbl : b < w1.heap.size := by omega
            clear hc0 hc1 hc2 hc3 hc4 hc5 hc6 hd0 hd1 hd2 hd3 hd4 hd5 hd6 za
            have HB := Lib.hid hb; have HB1 := Lib.hid hb1; clear hb hb1
            have S0 : (fun W : World => (W.cell? ⟨wr.heap.size, 0, none⟩ = some (.int .i64 x0) ∧ W.cell? ⟨wr.heap.size, 1, none⟩ = some (.int .i64 x1) ∧ W.cell? ⟨wr.heap.size, 2, none⟩ = some (.int .i64 x2) ∧ W.cell? ⟨wr.heap.size, 3, none⟩ = some (.int .i64 x3) ∧ W.cell? ⟨wr.heap.size, 4, none⟩ = some (.int .i64 x4) ∧ W.cell? ⟨wr.heap.size, 5, none⟩ = some (.int .i64 x5) ∧ W.cell? ⟨wr.heap.size, 6, none⟩ = some (.int .i64 x6) ∧ W.cell? ⟨b, off + j * 7, none⟩ = some (.int .i64 y0) ∧ W.cell? ⟨b, off + j * 7 + 1, none⟩ = some (.int .i64 y1) ∧ W.cell? ⟨b, off + j * 7 + 2, none⟩ = some (.int .i64 y2) ∧ W.cell? ⟨b, off + j * 7 + 3, none⟩ = some (.int .i64 y3) ∧ W.cell? ⟨b, off + j * 7 + 4, none⟩ = some (.int .i64 y4) ∧ W.cell? ⟨b, off + j * 7 + 5, none⟩ = some (.int .i64 y5) ∧ W.cell? ⟨b, off + j * 7 + 6, none⟩ = some (.int .i64 y6)) ∧ Below w1.heap.size w1 W) w1.drew := ⟨⟨q0, q1, q2, q3, q4, q5, q6, r0, r1, r2, r3, r4, r5, r6⟩, (Below.refl _ _).drew⟩
            clear q0 q1 q2 q3 q4 q5 q6 r0 r1 r2 r3 r4 r5 r6
            refine wp_region_held_drew (S := (fun W : World => (W.cell? ⟨wr.heap.size, 0, none⟩ = some (.int .i64 x0) ∧ W.cell? ⟨wr.heap.size, 1, none⟩ = some (.int .i64 x1) ∧ W.cell? ⟨wr.heap.size, 2, none⟩ = some (.int .i64 x2) ∧ W.cell? ⟨wr.heap.size, 3, none⟩ = some (.int .i64 x3) ∧ W.cell? ⟨wr.heap.size, 4, none⟩ = some (.int .i64 x4) ∧ W.cell? ⟨wr.heap.size, 5, none⟩ = some (.int .i64 x5) ∧ W.cell? ⟨wr.heap.size, 6, none⟩ = some (.int .i64 x6) ∧ W.cell? ⟨b, off + j * 7, none⟩ = some (.int .i64 y0) ∧ W.cell? ⟨b, off + j * 7 + 1, none⟩ = some (.int .i64 y1) ∧ W.cell? ⟨b, off + j * 7 + 2, none⟩ = some (.int .i64 y2) ∧ W.cell? ⟨b, off + j * 7 + 3, none⟩ = some (.int .i64 y3) ∧ W.cell? ⟨b, off + j * 7 + 4, none⟩ = some (.int .i64 y4) ∧ W.cell? ⟨b, off + j * 7 + 5, none⟩ = some (.int .i64 y5) ∧ W.cell? ⟨b, off + j * 7 + 6, none⟩ = some (.int .i64 y6)) ∧ Below w1.heap.size w1 W)) (by kernel_rfl) S0 (fun _ => ?_)
            refine tk9 (i := 0) (some 18) (.agg #[.int .i64 x0, .int .i64 x1, .int .i64 x2, .int .i64 x3, .int .i64 x4, .int .i64 x5, .int .i64 x6]) rfl rfl (fun W hSw => ?_) S0 ?_
            · (try dsimp only at hSw); go_simp <;> with_reducible rfl
            try simp only [Act.put, l9a, l9z, l9s]
            refine wpAnyH_ready (rs := [1]) (by kernel_rfl) (by simp) ?_
            refine AllReadyH.cons rfl (fun K hK => ?_) AllReadyH.nil
            go_simp
            go_at_call 61
            refine (evS_any _ x0 x1 x2 x3 x4 x5 x6).mono ?_
            rintro e wa ⟨rfl, hb8⟩
            rw [HQ.out]
            have hb9wa : Below w1.heap.size w1 wa := ((Below.refl w1.heap.size w1).drew).trans hb8
            have Swa : (fun W : World => (W.cell? ⟨wr.heap.size, 0, none⟩ = some (.int .i64 x0) ∧ W.cell? ⟨wr.heap.size, 1, none⟩ = some (.int .i64 x1) ∧ W.cell? ⟨wr.heap.size, 2, none⟩ = some (.int .i64 x2) ∧ W.cell? ⟨wr.heap.size, 3, none⟩ = some (.int .i64 x3) ∧ W.cell? ⟨wr.heap.size, 4, none⟩ = some (.int .i64 x4) ∧ W.cell? ⟨wr.heap.size, 5, none⟩ = some (.int .i64 x5) ∧ W.cell? ⟨wr.heap.size, 6, none⟩ = some (.int .i64 x6) ∧ W.cell? ⟨b, off + j * 7, none⟩ = some (.int .i64 y0) ∧ W.cell? ⟨b, off + j * 7 + 1, none⟩ = some (.int .i64 y1) ∧ W.cell? ⟨b, off + j * 7 + 2, none⟩ = some (.int .i64 y2) ∧ W.cell? ⟨b, off + j * 7 + 3, none⟩ = some (.int .i64 y3) ∧ W.cell? ⟨b, off + j * 7 + 4, none⟩ = some (.int .i64 y4) ∧ W.cell? ⟨b, off + j * 7 + 5, none⟩ = some (.int .i64 y5) ∧ W.cell? ⟨b, off + j * 7 + 6, none⟩ = some (.int .i64 y6)) ∧ Below w1.heap.size w1 W) wa := ⟨⟨(bold hb9wa _ _ (hzl)).trans S0.1.1, (bold hb9wa _ _ (hzl)).trans S0.1.2.1, (bold hb9wa _ _ (hzl)).trans S0.1.2.2.1, (bold hb9wa _ _ (hzl)).trans S0.1.2.2.2.1, (bold hb9wa _ _ (hzl)).trans S0.1.2.2.2.2.1, (bold hb9wa _ _ (hzl)).trans S0.1.2.2.2.2.2.1, (bold hb9wa _ _ (hzl)).trans S0.1.2.2.2.2.2.2.1, (bold hb9wa _ _ (hbl)).trans S0.1.2.2.2.2.2.2.2.1, (bold hb9wa _ _ (hbl)).trans S0.1.2.2.2.2.2.2.2.2.1, (bold hb9wa _ _ (hbl)).trans S0.1.2.2.2.2.2.2.2.2.2.1, (bold hb9wa _ _ (hbl)).trans S0.1.2.2.2.2.2.2.2.2.2.2.1, (bold hb9wa _ _ (hbl)).trans S0.1.2.2.2.2.2.2.2.2.2.2.2.1, (bold hb9wa _ _ (hbl)).trans S0.1.2.2.2.2.2.2.2.2.2.2.2.2.1, (bold hb9wa _ _ (hbl)).trans S0.1.2.2.2.2.2.2.2.2.2.2.2.2.2⟩, hb9wa⟩
            clear hb8
            go_wp2_with fail
            refine hK.out _ _ Swa (fun _ => ?_)
            clear hK K
            try simp only [Act.put, l9a, l9z, l9s]
            refine tk9 (i := 2) (some 20) (.bool false) rfl rfl (fun W hSw => ?_) Swa ?_
            · (try dsimp only at hSw); go_simp <;> with_reducible rfl
            try simp only [Act.put, l9a, l9z, l9s]
            refine tk9 (i := 3) (some 21) (.bool false) rfl rfl (fun W hSw => ?_) Swa ?_
            · (try dsimp only at hSw); go_simp <;> with_reducible rfl
            try simp only [Act.put, l9a, l9z, l9s]
            refine tk9 (i := 4) (some 22) (.int .i64 (k : Int)) rfl rfl (fun W hSw => ?_) Swa ?_
            · (try dsimp only at hSw); go_simp <;> with_reducible rfl
            try simp only [Act.put, l9a, l9z, l9s]
            refine tk9 (i := 5) (some 23) (.bool true) rfl rfl (fun W hSw => ?_) Swa ?_
            · (try dsimp only at hSw); go_simp <;> with_reducible rfl
            try simp only [Act.put, l9a, l9z, l9s]
            refine tk9 (i := 6) (some 24) (.bool true) rfl rfl (fun W hSw => ?_) Swa ?_
            · (try dsimp only at hSw); go_simp <;> with_reducible rfl
            try simp only [Act.put, l9a, l9z, l9s]
            refine tk9 (i := 7) (some 25) (.pointer (some ⟨wr.heap.size, 0, none⟩)) rfl rfl (fun W hSw => ?_) Swa ?_
            · (try dsimp only at hSw); go_simp <;> with_reducible rfl
            try simp only [Act.put, l9a, l9z, l9s]
            refine tk9 (i := 8) (some 26) (.int .i64 x0) rfl rfl (fun W hSw => ?_) Swa ?_
            · (try dsimp only at hSw); go_simp <;> with_reducible rfl
            try simp only [Act.put, l9a, l9z, l9s]
            refine tk9 (i := 9) (some 27) (.slice (some ⟨b, off, none⟩) l.length c) rfl rfl (fun W hSw => ?_) Swa ?_
            · (try dsimp only at hSw); go_simp <;> with_reducible rfl
            try simp only [Act.put, l9a, l9z, l9s]
            refine tk9 (i := 10) (some 28) (.int .i64 (k : Int)) rfl rfl (fun W hSw => ?_) Swa ?_
            · (try dsimp only at hSw); go_simp <;> with_reducible rfl
            try simp only [Act.put, l9a, l9z, l9s]
            refine tk9 (i := 11) (some 29) (.int .i64 (j : Int)) rfl rfl (fun W hSw => ?_) Swa ?_
            · (try dsimp only at hSw); go_simp <;> with_reducible rfl
            try simp only [Act.put, l9a, l9z, l9s]
            refine tk9 (i := 12) (some 30) (.pointer (some ⟨b, off + j * 7, none⟩)) rfl rfl (fun W hSw => ?_) Swa ?_
            · (try dsimp only at hSw); go_simp <;> with_reducible rfl
            try simp only [Act.put, l9a, l9z, l9s]
            refine tk9 (i := 13) (some 31) (.pointer (some ⟨b, off + j * 7, none⟩)) rfl rfl (fun W hSw => ?_) Swa ?_
            · (try dsimp only at hSw); go_simp <;> with_reducible rfl
            try simp only [Act.put, l9a, l9z, l9s]
            refine tk9 (i := 14) (some 32) (.int .i64 y0) rfl rfl (fun W hSw => ?_) Swa ?_
            · (try dsimp only at hSw); go_simp <;> with_reducible rfl
            try simp only [Act.put, l9a, l9z, l9s]
            refine tk9 (i := 15) (some 33) (.bool false) rfl rfl (fun W hSw => ?_) Swa ?_
            · (try dsimp only at hSw); go_simp <;> with_reducible rfl
            try simp only [Act.put, l9a, l9z, l9s]
            refine tk9 (i := 16) (some 34) (.bool false) rfl rfl (fun W hSw => ?_) Swa ?_
            · (try dsimp only at hSw); go_simp <;> with_reducible rfl
            try simp only [Act.put, l9a, l9z, l9s]
            refine tk9 (i := 17) (some 35) (.bool false) rfl rfl (fun W hSw => ?_) Swa ?_
            · (try dsimp only at hSw); go_simp <;> with_reducible rfl
            try simp only [Act.put, l9a, l9z, l9s]
            refine tk9 (i := 18) (some 36) (.bool false) rfl rfl (fun W hSw => ?_) Swa ?_
            · (try dsimp only at hSw); go_simp <;> with_reducible rfl
            try simp only [Act.put, l9a, l9z, l9s]
            refine tk9 (i := 19) (some 37) (.int .i64 (k : Int)) rfl rfl (fun W hSw => ?_) Swa ?_
            · (try dsimp only at hSw); go_simp <;> with_reducible rfl
            try simp only [Act.put, l9a, l9z, l9s]
            refine tk9 (i := 20) (some 38) (.bool true) rfl rfl (fun W hSw => ?_) Swa ?_
            · (try dsimp only at hSw); go_simp <;> with_reducible rfl
            try simp only [Act.put, l9a, l9z, l9s]
            refine tk9 (i := 21) (some 39) (.bool true) rfl rfl (fun W hSw => ?_) Swa ?_
            · (try dsimp only at hSw); go_simp <;> with_reducible rfl
            try simp only [Act.put, l9a, l9z, l9s]
            refine tk9 (i := 22) (some 40) (.pointer (some ⟨wr.heap.size, 0, none⟩)) rfl rfl (fun W hSw => ?_) Swa ?_
            · (try dsimp only at hSw); go_simp <;> with_reducible rfl
            try simp only [Act.put, l9a, l9z, l9s]
            refine tk9 (i := 23) (some 41) (.int .i64 x0) rfl rfl (fun W hSw => ?_) Swa ?_
            · (try dsimp only at hSw); go_simp <;> with_reducible rfl
            try simp only [Act.put, l9a, l9z, l9s]
            refine tk9 (i := 24) (some 42) (.slice (some ⟨b, off, none⟩) l.length c) rfl rfl (fun W hSw => ?_) Swa ?_
            · (try dsimp only at hSw); go_simp <;> with_reducible rfl
            try simp only [Act.put, l9a, l9z, l9s]
            refine tk9 (i := 25) (some 43) (.int .i64 (k : Int)) rfl rfl (fun W hSw => ?_) Swa ?_
            · (try dsimp only at hSw); go_simp <;> with_reducible rfl
            try simp only [Act.put, l9a, l9z, l9s]
            refine tk9 (i := 26) (some 44) (.int .i64 (j : Int)) rfl rfl (fun W hSw => ?_) Swa ?_
            · (try dsimp only at hSw); go_simp <;> with_reducible rfl
            try simp only [Act.put, l9a, l9z, l9s]
            refine tk9 (i := 27) (some 45) (.pointer (some ⟨b, off + j * 7, none⟩)) rfl rfl (fun W hSw => ?_) Swa ?_
            · (try dsimp only at hSw); go_simp <;> with_reducible rfl
            try simp only [Act.put, l9a, l9z, l9s]
            refine tk9 (i := 28) (some 46) (.pointer (some ⟨b, off + j * 7, none⟩)) rfl rfl (fun W hSw => ?_) Swa ?_
            · (try dsimp only at hSw); go_simp <;> with_reducible rfl
            try simp only [Act.put, l9a, l9z, l9s]
            refine tk9 (i := 29) (some 47) (.int .i64 y0) rfl rfl (fun W hSw => ?_) Swa ?_
            · (try dsimp only at hSw); go_simp <;> with_reducible rfl
            try simp only [Act.put, l9a, l9z, l9s]
            refine tk9 (i := 30) (some 48) (.bool true) rfl rfl (fun W hSw => ?_) Swa ?_
            · (try dsimp only at hSw); go_simp <;> with_reducible rfl
            try simp only [Act.put, l9a, l9z, l9s]
            refine tk9 (i := 31) (some 49) (.bool true) rfl rfl (fun W hSw => ?_) Swa ?_
            · (try dsimp only at hSw); go_simp <;> with_reducible rfl
            try simp only [Act.put, l9a, l9z, l9s]
            refine tk9 (i := 32) (some 50) (.bool true) rfl rfl (fun W hSw => ?_) Swa ?_
            · (try dsimp only at hSw); go_simp <;> with_reducible rfl
            try simp only [Act.put, l9a, l9z, l9s]
            refine tk9 (i := 33) (some 51) (.pointer (some ⟨wr.heap.size, 1, none⟩)) rfl rfl (fun W hSw => ?_) Swa ?_
            · (try dsimp only at hSw); go_simp <;> with_reducible rfl
            try simp only [Act.put, l9a, l9z, l9s]
            refine tk9 (i := 34) (some 52) (.int .i64 x1) rfl rfl (fun W hSw => ?_) Swa ?_
            · (try dsimp only at hSw); go_simp <;> with_reducible rfl
            try simp only [Act.put, l9a, l9z, l9s]
            refine tk9 (i := 35) (some 53) (.slice (some ⟨b, off, none⟩) l.length c) rfl rfl (fun W hSw => ?_) Swa ?_
            · (try dsimp only at hSw); go_simp <;> with_reducible rfl
            try simp only [Act.put, l9a, l9z, l9s]
            refine tk9 (i := 36) (some 54) (.int .i64 (k : Int)) rfl rfl (fun W hSw => ?_) Swa ?_
            · (try dsimp only at hSw); go_simp <;> with_reducible rfl
            try simp only [Act.put, l9a, l9z, l9s]
            refine tk9 (i := 37) (some 55) (.int .i64 (j : Int)) rfl rfl (fun W hSw => ?_) Swa ?_
            · (try dsimp only at hSw); go_simp <;> with_reducible rfl
            try simp only [Act.put, l9a, l9z, l9s]
            refine tk9 (i := 38) (some 56) (.pointer (some ⟨b, off + j * 7, none⟩)) rfl rfl (fun W hSw => ?_) Swa ?_
            · (try dsimp only at hSw); go_simp <;> with_reducible rfl
            try simp only [Act.put, l9a, l9z, l9s]
            refine tk9 (i := 39) (some 57) (.pointer (some ⟨b, off + j * 7 + 1, none⟩)) rfl rfl (fun W hSw => ?_) Swa ?_
            · (try dsimp only at hSw); go_simp <;> with_reducible rfl
            try simp only [Act.put, l9a, l9z, l9s]
            refine tk9 (i := 40) (some 58) (.int .i64 y1) rfl rfl (fun W hSw => ?_) Swa ?_
            · (try dsimp only at hSw); go_simp <;> with_reducible rfl
            try simp only [Act.put, l9a, l9z, l9s]
            refine tk9 (i := 41) (some 59) (.bool true) rfl rfl (fun W hSw => ?_) Swa ?_
            · (try dsimp only at hSw); go_simp <;> with_reducible rfl
            try simp only [Act.put, l9a, l9z, l9s]
            refine tk9 (i := 42) (some 60) (.bool true) rfl rfl (fun W hSw => ?_) Swa ?_
            · (try dsimp only at hSw); go_simp <;> with_reducible rfl
            try simp only [Act.put, l9a, l9z, l9s]
            refine sk9 (i := 43) (some 61) rfl rfl Swa ?_
            try simp only [Act.put, l9a, l9z, l9s]
            refine sk9 (i := 44) (some 62) rfl rfl Swa ?_
            try simp only [Act.put, l9a, l9z, l9s]
            refine sk9 (i := 45) (some 63) rfl rfl Swa ?_
            try simp only [Act.put, l9a, l9z, l9s]
            refine sk9 (i := 46) (some 64) rfl rfl Swa ?_
            try simp only [Act.put, l9a, l9z, l9s]
            refine sk9 (i := 47) (some 65) rfl rfl Swa ?_
            try simp only [Act.put, l9a, l9z, l9s]
            refine sk9 (i := 48) (some 66) rfl rfl Swa ?_
            try simp only [Act.put, l9a, l9z, l9s]
            refine sk9 (i := 49) (some 67) rfl rfl Swa ?_
            try simp only [Act.put, l9a, l9z, l9s]
            refine sk9 (i := 50) (some 68) rfl rfl Swa ?_
            try simp only [Act.put, l9a, l9z, l9s]
            refine sk9 (i := 51) (some 69) rfl rfl Swa ?_
            try simp only [Act.put, l9a, l9z, l9s]
            refine tk9 (i := 52) (some 70) (.bool true) rfl rfl (fun W hSw => ?_) Swa ?_
            · (try dsimp only at hSw); go_simp <;> with_reducible rfl
            try simp only [Act.put, l9a, l9z, l9s]
            refine tk9 (i := 53) (some 71) (.bool true) rfl rfl (fun W hSw => ?_) Swa ?_
            · (try dsimp only at hSw); go_simp <;> with_reducible rfl
            try simp only [Act.put, l9a, l9z, l9s]
            refine tk9 (i := 54) (some 72) (.bool true) rfl rfl (fun W hSw => ?_) Swa ?_
            · (try dsimp only at hSw); go_simp <;> with_reducible rfl
            try simp only [Act.put, l9a, l9z, l9s]
            refine wpAnyH_done (by kernel_rfl) ?_ _
            have hbreg : Below w1.heap.size w1 wa := Swa.2
            clear S0 Swa hb9wa
            go_wp2_with fail
            clear hkd hkp sA sB sC d0 d1 d2
            go_ret
            exact ⟨rbool (jrn_off Hy.out (by rw [HJ.out]; exact Hx.out) HF.out).symm, (HB.out.trans ((HB1.out.trans (hbreg.mono hs1)).mono hsz))⟩
          · skip
            have HF := Lib.hid (show folB ⟨y0, y1, y2, y3, y4, y5, y6⟩ ⟨x0, x1, x2, x3, x4, x5, x6⟩ = false by rw [Bool.eq_false_iff]; intro hv; rw [folB_iff] at hv; dsimp only at hv; omega)
            have d0 : decide (x0 < y0) = false := decide_eq_false h1
            have d1 : (x0 == y0) = true := by simp; omega
            have d2 : decide (x1 ≤ y1) = false := decide_eq_false h3
            have d3 : decide (x2 ≤ y2) = true := decide_eq_true h4
            clear h1 h2 h3 h4
            go_wp2_with fail
            generalize hX : (wr.alloc (.cells #[.int .i64 x0, .int .i64 x1, .int .i64 x2, .int .i64 x3, .int .i64 x4, .int .i64 x5, .int .i64 x6] 99)) = w1
            have hb1 : Below wr.heap.size wr w1 := by rw [← hX]; exact balloc _ _
            have za : Has w1 wr.heap.size 99 #[.int .i64 x0, .int .i64 x1, .int .i64 x2, .int .i64 x3, .int .i64 x4, .int .i64 x5, .int .i64 x6] := by rw [← hX]; exact has_new _ _ _
            clear hX
            have q0 := has_cell za 0 rfl; have q1 := has_cell za 1 rfl; have q2 := has_cell za 2 rfl; have q3 := has_cell za 3 rfl; have q4 := has_cell za 4 rfl; have q5 := has_cell za 5 rfl; have q6 := has_cell za 6 rfl
            have r0 := (bold hb1 _ _ (by omega)).trans hd0; have r1 := (bold hb1 _ _ (by omega)).trans hd1; have r2 := (bold hb1 _ _ (by omega)).trans hd2; have r3 := (bold hb1 _ _ (by omega)).trans hd3; have r4 := (bold hb1 _ _ (by omega)).trans hd4; have r5 := (bold hb1 _ _ (by omega)).trans hd5; have r6 := (bold hb1 _ _ (by omega)).trans hd6
            have hzl := has_lt za
            have hs1 := hb1.size
            have hbl : b < w1.heap.size := by omega
            clear hc0 hc1 hc2 hc3 hc4 hc5 hc6 hd0 hd1 hd2 hd3 hd4 hd5 hd6 za
            have HB := Lib.hid hb; have HB1 := Lib.hid hb1; clear hb hb1
            have S0 : (fun W : World => (W.cell? ⟨wr.heap.size, 0, none⟩ = some (.int .i64 x0) ∧ W.cell? ⟨wr.heap.size, 1, none⟩ = some (.int .i64 x1) ∧ W.cell? ⟨wr.heap.size, 2, none⟩ = some (.int .i64 x2) ∧ W.cell? ⟨wr.heap.size, 3, none⟩ = some (.int .i64 x3) ∧ W.cell? ⟨wr.heap.size, 4, none⟩ = some (.int .i64 x4) ∧ W.cell? ⟨wr.heap.size, 5, none⟩ = some (.int .i64 x5) ∧ W.cell? ⟨wr.heap.size, 6, none⟩ = some (.int .i64 x6) ∧ W.cell? ⟨b, off + j * 7, none⟩ = some (.int .i64 y0) ∧ W.cell? ⟨b, off + j * 7 + 1, none⟩ = some (.int .i64 y1) ∧ W.cell? ⟨b, off + j * 7 + 2, none⟩ = some (.int .i64 y2) ∧ W.cell? ⟨b, off + j * 7 + 3, none⟩ = some (.int .i64 y3) ∧ W.cell? ⟨b, off + j * 7 + 4, none⟩ = some (.int .i64 y4) ∧ W.cell? ⟨b, off + j * 7 + 5, none⟩ = some (.int .i64 y5) ∧ W.cell? ⟨b, off + j * 7 + 6, none⟩ = some (.int .i64 y6)) ∧ Below w1.heap.size w1 W) w1.drew := ⟨⟨q0, q1, q2, q3, q4, q5, q6, r0, r1, r2, r3, r4, r5, r6⟩, (Below.refl _ _).drew⟩
            clear q0 q1 q2 q3 q4 q5 q6 r0 r1 r2 r3 r4 r5 r6
            refine wp_region_held_drew (S := (fun W : World => (W.cell? ⟨wr.heap.size, 0, none⟩ = some (.int .i64 x0) ∧ W.cell? ⟨wr.heap.size, 1, none⟩ = some (.int .i64 x1) ∧ W.cell? ⟨wr.heap.size, 2, none⟩ = some (.int .i64 x2) ∧ W.cell? ⟨wr.heap.size, 3, none⟩ = some (.int .i64 x3) ∧ W.cell? ⟨wr.heap.size, 4, none⟩ = some (.int .i64 x4) ∧ W.cell? ⟨wr.heap.size, 5, none⟩ = some (.int .i64 x5) ∧ W.cell? ⟨wr.heap.size, 6, none⟩ = some (.int .i64 x6) ∧ W.cell? ⟨b, off + j * 7, none⟩ = some (.int .i64 y0) ∧ W.cell? ⟨b, off + j * 7 + 1, none⟩ = some (.int .i64 y1) ∧ W.cell? ⟨b, off + j * 7 + 2, none⟩ = some (.int .i64 y2) ∧ W.cell? ⟨b, off + j * 7 + 3, none⟩ = some (.int .i64 y3) ∧ W.cell? ⟨b, off + j * 7 + 4, none⟩ = some (.int .i64 y4) ∧ W.cell? ⟨b, off + j * 7 + 5, none⟩ = some (.int .i64 y5) ∧ W.cell? ⟨b, off + j * 7 + 6, none⟩ = some (.int .i64 y6)) ∧ Below w1.heap.size w1 W)) (by kernel_rfl) S0 (fun _ => ?_)
            refine tk9 (i := 0) (some 18) (.agg #[.int .i64 x0, .int .i64 x1, .int .i64 x2, .int .i64 x3, .int .i64 x4, .int .i64 x5, .int .i64 x6]) rfl rfl (fun W hSw => ?_) S0 ?_
            · (try dsimp only at hSw); go_simp <;> with_reducible rfl
            try simp only [Act.put, l9a, l9z, l9s]
            refine wpAnyH_ready (rs := [1]) (by kernel_rfl) (by simp) ?_
            refine AllReadyH.cons rfl (fun K hK => ?_) AllReadyH.nil
            go_simp
            go_at_call 61
            refine (evS_any _ x0 x1 x2 x3 x4 x5 x6).mono ?_
            rintro e wa ⟨rfl, hb8⟩
            rw [HQ.out]
            have hb9wa : Below w1.heap.size w1 wa := ((Below.refl w1.heap.size w1).drew).trans hb8
            have Swa : (fun W : World => (W.cell? ⟨wr.heap.size, 0, none⟩ = some (.int .i64 x0) ∧ W.cell? ⟨wr.heap.size, 1, none⟩ = some (.int .i64 x1) ∧ W.cell? ⟨wr.heap.size, 2, none⟩ = some (.int .i64 x2) ∧ W.cell? ⟨wr.heap.size, 3, none⟩ = some (.int .i64 x3) ∧ W.cell? ⟨wr.heap.size, 4, none⟩ = some (.int .i64 x4) ∧ W.cell? ⟨wr.heap.size, 5, none⟩ = some (.int .i64 x5) ∧ W.cell? ⟨wr.heap.size, 6, none⟩ = some (.int .i64 x6) ∧ W.cell? ⟨b, off + j * 7, none⟩ = some (.int .i64 y0) ∧ W.cell? ⟨b, off + j * 7 + 1, none⟩ = some (.int .i64 y1) ∧ W.cell? ⟨b, off + j * 7 + 2, none⟩ = some (.int .i64 y2) ∧ W.cell? ⟨b, off + j * 7 + 3, none⟩ = some (.int .i64 y3) ∧ W.cell? ⟨b, off + j * 7 + 4, none⟩ = some (.int .i64 y4) ∧ W.cell? ⟨b, off + j * 7 + 5, none⟩ = some (.int .i64 y5) ∧ W.cell? ⟨b, off + j * 7 + 6, none⟩ = some (.int .i64 y6)) ∧ Below w1.heap.size w1 W) wa := ⟨⟨(bold hb9wa _ _ (hzl)).trans S0.1.1, (bold hb9wa _ _ (hzl)).trans S0.1.2.1, (bold hb9wa _ _ (hzl)).trans S0.1.2.2.1, (bold hb9wa _ _ (hzl)).trans S0.1.2.2.2.1, (bold hb9wa _ _ (hzl)).trans S0.1.2.2.2.2.1, (bold hb9wa _ _ (hzl)).trans S0.1.2.2.2.2.2.1, (bold hb9wa _ _ (hzl)).trans S0.1.2.2.2.2.2.2.1, (bold hb9wa _ _ (hbl)).trans S0.1.2.2.2.2.2.2.2.1, (bold hb9wa _ _ (hbl)).trans S0.1.2.2.2.2.2.2.2.2.1, (bold hb9wa _ _ (hbl)).trans S0.1.2.2.2.2.2.2.2.2.2.1, (bold hb9wa _ _ (hbl)).trans S0.1.2.2.2.2.2.2.2.2.2.2.1, (bold hb9wa _ _ (hbl)).trans S0.1.2.2.2.2.2.2.2.2.2.2.2.1, (bold hb9wa _ _ (hbl)).trans S0.1.2.2.2.2.2.2.2.2.2.2.2.2.1, (bold hb9wa _ _ (hbl)).trans S0.1.2.2.2.2.2.2.2.2.2.2.2.2.2⟩, hb9wa⟩
            clear hb8
            go_wp2_with fail
            refine hK.out _ _ Swa (fun _ => ?_)
            clear hK K
            try simp only [Act.put, l9a, l9z, l9s]
            refine tk9 (i := 2) (some 20) (.bool false) rfl rfl (fun W hSw => ?_) Swa ?_
            · (try dsimp only at hSw); go_simp <;> with_reducible rfl
            try simp only [Act.put, l9a, l9z, l9s]
            refine tk9 (i := 3) (some 21) (.bool false) rfl rfl (fun W hSw => ?_) Swa ?_
            · (try dsimp only at hSw); go_simp <;> with_reducible rfl
            try simp only [Act.put, l9a, l9z, l9s]
            refine tk9 (i := 4) (some 22) (.int .i64 (k : Int)) rfl rfl (fun W hSw => ?_) Swa ?_
            · (try dsimp only at hSw); go_simp <;> with_reducible rfl
            try simp only [Act.put, l9a, l9z, l9s]
            refine tk9 (i := 5) (some 23) (.bool true) rfl rfl (fun W hSw => ?_) Swa ?_
            · (try dsimp only at hSw); go_simp <;> with_reducible rfl
            try simp only [Act.put, l9a, l9z, l9s]
            refine tk9 (i := 6) (some 24) (.bool true) rfl rfl (fun W hSw => ?_) Swa ?_
            · (try dsimp only at hSw); go_simp <;> with_reducible rfl
            try simp only [Act.put, l9a, l9z, l9s]
            refine tk9 (i := 7) (some 25) (.pointer (some ⟨wr.heap.size, 0, none⟩)) rfl rfl (fun W hSw => ?_) Swa ?_
            · (try dsimp only at hSw); go_simp <;> with_reducible rfl
            try simp only [Act.put, l9a, l9z, l9s]
            refine tk9 (i := 8) (some 26) (.int .i64 x0) rfl rfl (fun W hSw => ?_) Swa ?_
            · (try dsimp only at hSw); go_simp <;> with_reducible rfl
            try simp only [Act.put, l9a, l9z, l9s]
            refine tk9 (i := 9) (some 27) (.slice (some ⟨b, off, none⟩) l.length c) rfl rfl (fun W hSw => ?_) Swa ?_
            · (try dsimp only at hSw); go_simp <;> with_reducible rfl
            try simp only [Act.put, l9a, l9z, l9s]
            refine tk9 (i := 10) (some 28) (.int .i64 (k : Int)) rfl rfl (fun W hSw => ?_) Swa ?_
            · (try dsimp only at hSw); go_simp <;> with_reducible rfl
            try simp only [Act.put, l9a, l9z, l9s]
            refine tk9 (i := 11) (some 29) (.int .i64 (j : Int)) rfl rfl (fun W hSw => ?_) Swa ?_
            · (try dsimp only at hSw); go_simp <;> with_reducible rfl
            try simp only [Act.put, l9a, l9z, l9s]
            refine tk9 (i := 12) (some 30) (.pointer (some ⟨b, off + j * 7, none⟩)) rfl rfl (fun W hSw => ?_) Swa ?_
            · (try dsimp only at hSw); go_simp <;> with_reducible rfl
            try simp only [Act.put, l9a, l9z, l9s]
            refine tk9 (i := 13) (some 31) (.pointer (some ⟨b, off + j * 7, none⟩)) rfl rfl (fun W hSw => ?_) Swa ?_
            · (try dsimp only at hSw); go_simp <;> with_reducible rfl
            try simp only [Act.put, l9a, l9z, l9s]
            refine tk9 (i := 14) (some 32) (.int .i64 y0) rfl rfl (fun W hSw => ?_) Swa ?_
            · (try dsimp only at hSw); go_simp <;> with_reducible rfl
            try simp only [Act.put, l9a, l9z, l9s]
            refine tk9 (i := 15) (some 33) (.bool false) rfl rfl (fun W hSw => ?_) Swa ?_
            · (try dsimp only at hSw); go_simp <;> with_reducible rfl
            try simp only [Act.put, l9a, l9z, l9s]
            refine tk9 (i := 16) (some 34) (.bool false) rfl rfl (fun W hSw => ?_) Swa ?_
            · (try dsimp only at hSw); go_simp <;> with_reducible rfl
            try simp only [Act.put, l9a, l9z, l9s]
            refine tk9 (i := 17) (some 35) (.bool false) rfl rfl (fun W hSw => ?_) Swa ?_
            · (try dsimp only at hSw); go_simp <;> with_reducible rfl
            try simp only [Act.put, l9a, l9z, l9s]
            refine tk9 (i := 18) (some 36) (.bool false) rfl rfl (fun W hSw => ?_) Swa ?_
            · (try dsimp only at hSw); go_simp <;> with_reducible rfl
            try simp only [Act.put, l9a, l9z, l9s]
            refine tk9 (i := 19) (some 37) (.int .i64 (k : Int)) rfl rfl (fun W hSw => ?_) Swa ?_
            · (try dsimp only at hSw); go_simp <;> with_reducible rfl
            try simp only [Act.put, l9a, l9z, l9s]
            refine tk9 (i := 20) (some 38) (.bool true) rfl rfl (fun W hSw => ?_) Swa ?_
            · (try dsimp only at hSw); go_simp <;> with_reducible rfl
            try simp only [Act.put, l9a, l9z, l9s]
            refine tk9 (i := 21) (some 39) (.bool true) rfl rfl (fun W hSw => ?_) Swa ?_
            · (try dsimp only at hSw); go_simp <;> with_reducible rfl
            try simp only [Act.put, l9a, l9z, l9s]
            refine tk9 (i := 22) (some 40) (.pointer (some ⟨wr.heap.size, 0, none⟩)) rfl rfl (fun W hSw => ?_) Swa ?_
            · (try dsimp only at hSw); go_simp <;> with_reducible rfl
            try simp only [Act.put, l9a, l9z, l9s]
            refine tk9 (i := 23) (some 41) (.int .i64 x0) rfl rfl (fun W hSw => ?_) Swa ?_
            · (try dsimp only at hSw); go_simp <;> with_reducible rfl
            try simp only [Act.put, l9a, l9z, l9s]
            refine tk9 (i := 24) (some 42) (.slice (some ⟨b, off, none⟩) l.length c) rfl rfl (fun W hSw => ?_) Swa ?_
            · (try dsimp only at hSw); go_simp <;> with_reducible rfl
            try simp only [Act.put, l9a, l9z, l9s]
            refine tk9 (i := 25) (some 43) (.int .i64 (k : Int)) rfl rfl (fun W hSw => ?_) Swa ?_
            · (try dsimp only at hSw); go_simp <;> with_reducible rfl
            try simp only [Act.put, l9a, l9z, l9s]
            refine tk9 (i := 26) (some 44) (.int .i64 (j : Int)) rfl rfl (fun W hSw => ?_) Swa ?_
            · (try dsimp only at hSw); go_simp <;> with_reducible rfl
            try simp only [Act.put, l9a, l9z, l9s]
            refine tk9 (i := 27) (some 45) (.pointer (some ⟨b, off + j * 7, none⟩)) rfl rfl (fun W hSw => ?_) Swa ?_
            · (try dsimp only at hSw); go_simp <;> with_reducible rfl
            try simp only [Act.put, l9a, l9z, l9s]
            refine tk9 (i := 28) (some 46) (.pointer (some ⟨b, off + j * 7, none⟩)) rfl rfl (fun W hSw => ?_) Swa ?_
            · (try dsimp only at hSw); go_simp <;> with_reducible rfl
            try simp only [Act.put, l9a, l9z, l9s]
            refine tk9 (i := 29) (some 47) (.int .i64 y0) rfl rfl (fun W hSw => ?_) Swa ?_
            · (try dsimp only at hSw); go_simp <;> with_reducible rfl
            try simp only [Act.put, l9a, l9z, l9s]
            refine tk9 (i := 30) (some 48) (.bool true) rfl rfl (fun W hSw => ?_) Swa ?_
            · (try dsimp only at hSw); go_simp <;> with_reducible rfl
            try simp only [Act.put, l9a, l9z, l9s]
            refine tk9 (i := 31) (some 49) (.bool true) rfl rfl (fun W hSw => ?_) Swa ?_
            · (try dsimp only at hSw); go_simp <;> with_reducible rfl
            try simp only [Act.put, l9a, l9z, l9s]
            refine tk9 (i := 32) (some 50) (.bool true) rfl rfl (fun W hSw => ?_) Swa ?_
            · (try dsimp only at hSw); go_simp <;> with_reducible rfl
            try simp only [Act.put, l9a, l9z, l9s]
            refine tk9 (i := 33) (some 51) (.pointer (some ⟨wr.heap.size, 1, none⟩)) rfl rfl (fun W hSw => ?_) Swa ?_
            · (try dsimp only at hSw); go_simp <;> with_reducible rfl
            try simp only [Act.put, l9a, l9z, l9s]
            refine tk9 (i := 34) (some 52) (.int .i64 x1) rfl rfl (fun W hSw => ?_) Swa ?_
            · (try dsimp only at hSw); go_simp <;> with_reducible rfl
            try simp only [Act.put, l9a, l9z, l9s]
            refine tk9 (i := 35) (some 53) (.slice (some ⟨b, off, none⟩) l.length c) rfl rfl (fun W hSw => ?_) Swa ?_
            · (try dsimp only at hSw); go_simp <;> with_reducible rfl
            try simp only [Act.put, l9a, l9z, l9s]
            refine tk9 (i := 36) (some 54) (.int .i64 (k : Int)) rfl rfl (fun W hSw => ?_) Swa ?_
            · (try dsimp only at hSw); go_simp <;> with_reducible rfl
            try simp only [Act.put, l9a, l9z, l9s]
            refine tk9 (i := 37) (some 55) (.int .i64 (j : Int)) rfl rfl (fun W hSw => ?_) Swa ?_
            · (try dsimp only at hSw); go_simp <;> with_reducible rfl
            try simp only [Act.put, l9a, l9z, l9s]
            refine tk9 (i := 38) (some 56) (.pointer (some ⟨b, off + j * 7, none⟩)) rfl rfl (fun W hSw => ?_) Swa ?_
            · (try dsimp only at hSw); go_simp <;> with_reducible rfl
            try simp only [Act.put, l9a, l9z, l9s]
            refine tk9 (i := 39) (some 57) (.pointer (some ⟨b, off + j * 7 + 1, none⟩)) rfl rfl (fun W hSw => ?_) Swa ?_
            · (try dsimp only at hSw); go_simp <;> with_reducible rfl
            try simp only [Act.put, l9a, l9z, l9s]
            refine tk9 (i := 40) (some 58) (.int .i64 y1) rfl rfl (fun W hSw => ?_) Swa ?_
            · (try dsimp only at hSw); go_simp <;> with_reducible rfl
            try simp only [Act.put, l9a, l9z, l9s]
            refine tk9 (i := 41) (some 59) (.bool false) rfl rfl (fun W hSw => ?_) Swa ?_
            · (try dsimp only at hSw); go_simp <;> with_reducible rfl
            try simp only [Act.put, l9a, l9z, l9s]
            refine tk9 (i := 42) (some 60) (.bool false) rfl rfl (fun W hSw => ?_) Swa ?_
            · (try dsimp only at hSw); go_simp <;> with_reducible rfl
            try simp only [Act.put, l9a, l9z, l9s]
            refine tk9 (i := 43) (some 61) (.pointer (some ⟨wr.heap.size, 2, none⟩)) rfl rfl (fun W hSw => ?_) Swa ?_
            · (try dsimp only at hSw); go_simp <;> with_reducible rfl
            try simp only [Act.put, l9a, l9z, l9s]
            refine tk9 (i := 44) (some 62) (.int .i64 x2) rfl rfl (fun W hSw => ?_) Swa ?_
            · (try dsimp only at hSw); go_simp <;> with_reducible rfl
            try simp only [Act.put, l9a, l9z, l9s]
            refine tk9 (i := 45) (some 63) (.slice (some ⟨b, off, none⟩) l.length c) rfl rfl (fun W hSw => ?_) Swa ?_
            · (try dsimp only at hSw); go_simp <;> with_reducible rfl
            try simp only [Act.put, l9a, l9z, l9s]
            refine tk9 (i := 46) (some 64) (.int .i64 (k : Int)) rfl rfl (fun W hSw => ?_) Swa ?_
            · (try dsimp only at hSw); go_simp <;> with_reducible rfl
            try simp only [Act.put, l9a, l9z, l9s]
            refine tk9 (i := 47) (some 65) (.int .i64 (j : Int)) rfl rfl (fun W hSw => ?_) Swa ?_
            · (try dsimp only at hSw); go_simp <;> with_reducible rfl
            try simp only [Act.put, l9a, l9z, l9s]
            refine tk9 (i := 48) (some 66) (.pointer (some ⟨b, off + j * 7, none⟩)) rfl rfl (fun W hSw => ?_) Swa ?_
            · (try dsimp only at hSw); go_simp <;> with_reducible rfl
            try simp only [Act.put, l9a, l9z, l9s]
            refine tk9 (i := 49) (some 67) (.pointer (some ⟨b, off + j * 7 + 2, none⟩)) rfl rfl (fun W hSw => ?_) Swa ?_
            · (try dsimp only at hSw); go_simp <;> with_reducible rfl
            try simp only [Act.put, l9a, l9z, l9s]
            refine tk9 (i := 50) (some 68) (.int .i64 y2) rfl rfl (fun W hSw => ?_) Swa ?_
            · (try dsimp only at hSw); go_simp <;> with_reducible rfl
            try simp only [Act.put, l9a, l9z, l9s]
            refine tk9 (i := 51) (some 69) (.bool true) rfl rfl (fun W hSw => ?_) Swa ?_
            · (try dsimp only at hSw); go_simp <;> with_reducible rfl
            try simp only [Act.put, l9a, l9z, l9s]
            refine tk9 (i := 52) (some 70) (.bool true) rfl rfl (fun W hSw => ?_) Swa ?_
            · (try dsimp only at hSw); go_simp <;> with_reducible rfl
            try simp only [Act.put, l9a, l9z, l9s]
            refine tk9 (i := 53) (some 71) (.bool true) rfl rfl (fun W hSw => ?_) Swa ?_
            · (try dsimp only at hSw); go_simp <;> with_reducible rfl
            try simp only [Act.put, l9a, l9z, l9s]
            refine tk9 (i := 54) (some 72) (.bool true) rfl rfl (fun W hSw => ?_) Swa ?_
            · (try dsimp only at hSw); go_simp <;> with_reducible rfl
            try simp only [Act.put, l9a, l9z, l9s]
            refine wpAnyH_done (by kernel_rfl) ?_ _
            have hbreg : Below w1.heap.size w1 wa := Swa.2
            clear S0 Swa hb9wa
            go_wp2_with fail
            clear hkd hkp sA sB sC d0 d1 d2 d3
            go_ret
            exact ⟨rbool (jrn_off Hy.out (by rw [HJ.out]; exact Hx.out) HF.out).symm, (HB.out.trans ((HB1.out.trans (hbreg.mono hs1)).mono hsz))⟩
          · skip
            have HF := Lib.hid (show folB ⟨y0, y1, y2, y3, y4, y5, y6⟩ ⟨x0, x1, x2, x3, x4, x5, x6⟩ = true by rw [folB_iff]; dsimp only; omega)
            have d0 : decide (x0 < y0) = false := decide_eq_false h1
            have d1 : (x0 == y0) = true := by simp; omega
            have d2 : decide (x1 ≤ y1) = false := decide_eq_false h3
            have d3 : decide (x2 ≤ y2) = false := decide_eq_false h4
            clear h1 h2 h3 h4
            go_wp2_with fail
            generalize hX : (wr.alloc (.cells #[.int .i64 x0, .int .i64 x1, .int .i64 x2, .int .i64 x3, .int .i64 x4, .int .i64 x5, .int .i64 x6] 99)) = w1
            have hb1 : Below wr.heap.size wr w1 := by rw [← hX]; exact balloc _ _
            have za : Has w1 wr.heap.size 99 #[.int .i64 x0, .int .i64 x1, .int .i64 x2, .int .i64 x3, .int .i64 x4, .int .i64 x5, .int .i64 x6] := by rw [← hX]; exact has_new _ _ _
            clear hX
            have q0 := has_cell za 0 rfl; have q1 := has_cell za 1 rfl; have q2 := has_cell za 2 rfl; have q3 := has_cell za 3 rfl; have q4 := has_cell za 4 rfl; have q5 := has_cell za 5 rfl; have q6 := has_cell za 6 rfl
            have r0 := (bold hb1 _ _ (by omega)).trans hd0; have r1 := (bold hb1 _ _ (by omega)).trans hd1; have r2 := (bold hb1 _ _ (by omega)).trans hd2; have r3 := (bold hb1 _ _ (by omega)).trans hd3; have r4 := (bold hb1 _ _ (by omega)).trans hd4; have r5 := (bold hb1 _ _ (by omega)).trans hd5; have r6 := (bold hb1 _ _ (by omega)).trans hd6
            have hzl := has_lt za
            have hs1 := hb1.size
            have hbl : b < w1.heap.size := by omega
            clear hc0 hc1 hc2 hc3 hc4 hc5 hc6 hd0 hd1 hd2 hd3 hd4 hd5 hd6 za
            have HB := Lib.hid hb; have HB1 := Lib.hid hb1; clear hb hb1
            have S0 : (fun W : World => (W.cell? ⟨wr.heap.size, 0, none⟩ = some (.int .i64 x0) ∧ W.cell? ⟨wr.heap.size, 1, none⟩ = some (.int .i64 x1) ∧ W.cell? ⟨wr.heap.size, 2, none⟩ = some (.int .i64 x2) ∧ W.cell? ⟨wr.heap.size, 3, none⟩ = some (.int .i64 x3) ∧ W.cell? ⟨wr.heap.size, 4, none⟩ = some (.int .i64 x4) ∧ W.cell? ⟨wr.heap.size, 5, none⟩ = some (.int .i64 x5) ∧ W.cell? ⟨wr.heap.size, 6, none⟩ = some (.int .i64 x6) ∧ W.cell? ⟨b, off + j * 7, none⟩ = some (.int .i64 y0) ∧ W.cell? ⟨b, off + j * 7 + 1, none⟩ = some (.int .i64 y1) ∧ W.cell? ⟨b, off + j * 7 + 2, none⟩ = some (.int .i64 y2) ∧ W.cell? ⟨b, off + j * 7 + 3, none⟩ = some (.int .i64 y3) ∧ W.cell? ⟨b, off + j * 7 + 4, none⟩ = some (.int .i64 y4) ∧ W.cell? ⟨b, off + j * 7 + 5, none⟩ = some (.int .i64 y5) ∧ W.cell? ⟨b, off + j * 7 + 6, none⟩ = some (.int .i64 y6)) ∧ Below w1.heap.size w1 W) w1.drew := ⟨⟨q0, q1, q2, q3, q4, q5, q6, r0, r1, r2, r3, r4, r5, r6⟩, (Below.refl _ _).drew⟩
            clear q0 q1 q2 q3 q4 q5 q6 r0 r1 r2 r3 r4 r5 r6
            refine wp_region_held_drew (S := (fun W : World => (W.cell? ⟨wr.heap.size, 0, none⟩ = some (.int .i64 x0) ∧ W.cell? ⟨wr.heap.size, 1, none⟩ = some (.int .i64 x1) ∧ W.cell? ⟨wr.heap.size, 2, none⟩ = some (.int .i64 x2) ∧ W.cell? ⟨wr.heap.size, 3, none⟩ = some (.int .i64 x3) ∧ W.cell? ⟨wr.heap.size, 4, none⟩ = some (.int .i64 x4) ∧ W.cell? ⟨wr.heap.size, 5, none⟩ = some (.int .i64 x5) ∧ W.cell? ⟨wr.heap.size, 6, none⟩ = some (.int .i64 x6) ∧ W.cell? ⟨b, off + j * 7, none⟩ = some (.int .i64 y0) ∧ W.cell? ⟨b, off + j * 7 + 1, none⟩ = some (.int .i64 y1) ∧ W.cell? ⟨b, off + j * 7 + 2, none⟩ = some (.int .i64 y2) ∧ W.cell? ⟨b, off + j * 7 + 3, none⟩ = some (.int .i64 y3) ∧ W.cell? ⟨b, off + j * 7 + 4, none⟩ = some (.int .i64 y4) ∧ W.cell? ⟨b, off + j * 7 + 5, none⟩ = some (.int .i64 y5) ∧ W.cell? ⟨b, off + j * 7 + 6, none⟩ = some (.int .i64 y6)) ∧ Below w1.heap.size w1 W)) (by kernel_rfl) S0 (fun _ => ?_)
            refine tk9 (i := 0) (some 18) (.agg #[.int .i64 x0, .int .i64 x1, .int .i64 x2, .int .i64 x3, .int .i64 x4, .int .i64 x5, .int .i64 x6]) rfl rfl (fun W hSw => ?_) S0 ?_
            · (try dsimp only at hSw); go_simp <;> with_reducible rfl
            try simp only [Act.put, l9a, l9z, l9s]
            refine wpAnyH_ready (rs := [1]) (by kernel_rfl) (by simp) ?_
            refine AllReadyH.cons rfl (fun K hK => ?_) AllReadyH.nil
            go_simp
            go_at_call 61
            refine (evS_any _ x0 x1 x2 x3 x4 x5 x6).mono ?_
            rintro e wa ⟨rfl, hb8⟩
            rw [HQ.out]
            have hb9wa : Below w1.heap.size w1 wa := ((Below.refl w1.heap.size w1).drew).trans hb8
            have Swa : (fun W : World => (W.cell? ⟨wr.heap.size, 0, none⟩ = some (.int .i64 x0) ∧ W.cell? ⟨wr.heap.size, 1, none⟩ = some (.int .i64 x1) ∧ W.cell? ⟨wr.heap.size, 2, none⟩ = some (.int .i64 x2) ∧ W.cell? ⟨wr.heap.size, 3, none⟩ = some (.int .i64 x3) ∧ W.cell? ⟨wr.heap.size, 4, none⟩ = some (.int .i64 x4) ∧ W.cell? ⟨wr.heap.size, 5, none⟩ = some (.int .i64 x5) ∧ W.cell? ⟨wr.heap.size, 6, none⟩ = some (.int .i64 x6) ∧ W.cell? ⟨b, off + j * 7, none⟩ = some (.int .i64 y0) ∧ W.cell? ⟨b, off + j * 7 + 1, none⟩ = some (.int .i64 y1) ∧ W.cell? ⟨b, off + j * 7 + 2, none⟩ = some (.int .i64 y2) ∧ W.cell? ⟨b, off + j * 7 + 3, none⟩ = some (.int .i64 y3) ∧ W.cell? ⟨b, off + j * 7 + 4, none⟩ = some (.int .i64 y4) ∧ W.cell? ⟨b, off + j * 7 + 5, none⟩ = some (.int .i64 y5) ∧ W.cell? ⟨b, off + j * 7 + 6, none⟩ = some (.int .i64 y6)) ∧ Below w1.heap.size w1 W) wa := ⟨⟨(bold hb9wa _ _ (hzl)).trans S0.1.1, (bold hb9wa _ _ (hzl)).trans S0.1.2.1, (bold hb9wa _ _ (hzl)).trans S0.1.2.2.1, (bold hb9wa _ _ (hzl)).trans S0.1.2.2.2.1, (bold hb9wa _ _ (hzl)).trans S0.1.2.2.2.2.1, (bold hb9wa _ _ (hzl)).trans S0.1.2.2.2.2.2.1, (bold hb9wa _ _ (hzl)).trans S0.1.2.2.2.2.2.2.1, (bold hb9wa _ _ (hbl)).trans S0.1.2.2.2.2.2.2.2.1, (bold hb9wa _ _ (hbl)).trans S0.1.2.2.2.2.2.2.2.2.1, (bold hb9wa _ _ (hbl)).trans S0.1.2.2.2.2.2.2.2.2.2.1, (bold hb9wa _ _ (hbl)).trans S0.1.2.2.2.2.2.2.2.2.2.2.1, (bold hb9wa _ _ (hbl)).trans S0.1.2.2.2.2.2.2.2.2.2.2.2.1, (bold hb9wa _ _ (hbl)).trans S0.1.2.2.2.2.2.2.2.2.2.2.2.2.1, (bold hb9wa _ _ (hbl)).trans S0.1.2.2.2.2.2.2.2.2.2.2.2.2.2⟩, hb9wa⟩
            clear hb8
            go_wp2_with fail
            refine hK.out _ _ Swa (fun _ => ?_)
            clear hK K
            try simp only [Act.put, l9a, l9z, l9s]
            refine tk9 (i := 2) (some 20) (.bool false) rfl rfl (fun W hSw => ?_) Swa ?_
            · (try dsimp only at hSw); go_simp <;> with_reducible rfl
            try simp only [Act.put, l9a, l9z, l9s]
            refine tk9 (i := 3) (some 21) (.bool false) rfl rfl (fun W hSw => ?_) Swa ?_
            · (try dsimp only at hSw); go_simp <;> with_reducible rfl
            try simp only [Act.put, l9a, l9z, l9s]
            refine tk9 (i := 4) (some 22) (.int .i64 (k : Int)) rfl rfl (fun W hSw => ?_) Swa ?_
            · (try dsimp only at hSw); go_simp <;> with_reducible rfl
            try simp only [Act.put, l9a, l9z, l9s]
            refine tk9 (i := 5) (some 23) (.bool true) rfl rfl (fun W hSw => ?_) Swa ?_
            · (try dsimp only at hSw); go_simp <;> with_reducible rfl
            try simp only [Act.put, l9a, l9z, l9s]
            refine tk9 (i := 6) (some 24) (.bool true) rfl rfl (fun W hSw => ?_) Swa ?_
            · (try dsimp only at hSw); go_simp <;> with_reducible rfl
            try simp only [Act.put, l9a, l9z, l9s]
            refine tk9 (i := 7) (some 25) (.pointer (some ⟨wr.heap.size, 0, none⟩)) rfl rfl (fun W hSw => ?_) Swa ?_
            · (try dsimp only at hSw); go_simp <;> with_reducible rfl
            try simp only [Act.put, l9a, l9z, l9s]
            refine tk9 (i := 8) (some 26) (.int .i64 x0) rfl rfl (fun W hSw => ?_) Swa ?_
            · (try dsimp only at hSw); go_simp <;> with_reducible rfl
            try simp only [Act.put, l9a, l9z, l9s]
            refine tk9 (i := 9) (some 27) (.slice (some ⟨b, off, none⟩) l.length c) rfl rfl (fun W hSw => ?_) Swa ?_
            · (try dsimp only at hSw); go_simp <;> with_reducible rfl
            try simp only [Act.put, l9a, l9z, l9s]
            refine tk9 (i := 10) (some 28) (.int .i64 (k : Int)) rfl rfl (fun W hSw => ?_) Swa ?_
            · (try dsimp only at hSw); go_simp <;> with_reducible rfl
            try simp only [Act.put, l9a, l9z, l9s]
            refine tk9 (i := 11) (some 29) (.int .i64 (j : Int)) rfl rfl (fun W hSw => ?_) Swa ?_
            · (try dsimp only at hSw); go_simp <;> with_reducible rfl
            try simp only [Act.put, l9a, l9z, l9s]
            refine tk9 (i := 12) (some 30) (.pointer (some ⟨b, off + j * 7, none⟩)) rfl rfl (fun W hSw => ?_) Swa ?_
            · (try dsimp only at hSw); go_simp <;> with_reducible rfl
            try simp only [Act.put, l9a, l9z, l9s]
            refine tk9 (i := 13) (some 31) (.pointer (some ⟨b, off + j * 7, none⟩)) rfl rfl (fun W hSw => ?_) Swa ?_
            · (try dsimp only at hSw); go_simp <;> with_reducible rfl
            try simp only [Act.put, l9a, l9z, l9s]
            refine tk9 (i := 14) (some 32) (.int .i64 y0) rfl rfl (fun W hSw => ?_) Swa ?_
            · (try dsimp only at hSw); go_simp <;> with_reducible rfl
            try simp only [Act.put, l9a, l9z, l9s]
            refine tk9 (i := 15) (some 33) (.bool false) rfl rfl (fun W hSw => ?_) Swa ?_
            · (try dsimp only at hSw); go_simp <;> with_reducible rfl
            try simp only [Act.put, l9a, l9z, l9s]
            refine tk9 (i := 16) (some 34) (.bool false) rfl rfl (fun W hSw => ?_) Swa ?_
            · (try dsimp only at hSw); go_simp <;> with_reducible rfl
            try simp only [Act.put, l9a, l9z, l9s]
            refine tk9 (i := 17) (some 35) (.bool false) rfl rfl (fun W hSw => ?_) Swa ?_
            · (try dsimp only at hSw); go_simp <;> with_reducible rfl
            try simp only [Act.put, l9a, l9z, l9s]
            refine tk9 (i := 18) (some 36) (.bool false) rfl rfl (fun W hSw => ?_) Swa ?_
            · (try dsimp only at hSw); go_simp <;> with_reducible rfl
            try simp only [Act.put, l9a, l9z, l9s]
            refine tk9 (i := 19) (some 37) (.int .i64 (k : Int)) rfl rfl (fun W hSw => ?_) Swa ?_
            · (try dsimp only at hSw); go_simp <;> with_reducible rfl
            try simp only [Act.put, l9a, l9z, l9s]
            refine tk9 (i := 20) (some 38) (.bool true) rfl rfl (fun W hSw => ?_) Swa ?_
            · (try dsimp only at hSw); go_simp <;> with_reducible rfl
            try simp only [Act.put, l9a, l9z, l9s]
            refine tk9 (i := 21) (some 39) (.bool true) rfl rfl (fun W hSw => ?_) Swa ?_
            · (try dsimp only at hSw); go_simp <;> with_reducible rfl
            try simp only [Act.put, l9a, l9z, l9s]
            refine tk9 (i := 22) (some 40) (.pointer (some ⟨wr.heap.size, 0, none⟩)) rfl rfl (fun W hSw => ?_) Swa ?_
            · (try dsimp only at hSw); go_simp <;> with_reducible rfl
            try simp only [Act.put, l9a, l9z, l9s]
            refine tk9 (i := 23) (some 41) (.int .i64 x0) rfl rfl (fun W hSw => ?_) Swa ?_
            · (try dsimp only at hSw); go_simp <;> with_reducible rfl
            try simp only [Act.put, l9a, l9z, l9s]
            refine tk9 (i := 24) (some 42) (.slice (some ⟨b, off, none⟩) l.length c) rfl rfl (fun W hSw => ?_) Swa ?_
            · (try dsimp only at hSw); go_simp <;> with_reducible rfl
            try simp only [Act.put, l9a, l9z, l9s]
            refine tk9 (i := 25) (some 43) (.int .i64 (k : Int)) rfl rfl (fun W hSw => ?_) Swa ?_
            · (try dsimp only at hSw); go_simp <;> with_reducible rfl
            try simp only [Act.put, l9a, l9z, l9s]
            refine tk9 (i := 26) (some 44) (.int .i64 (j : Int)) rfl rfl (fun W hSw => ?_) Swa ?_
            · (try dsimp only at hSw); go_simp <;> with_reducible rfl
            try simp only [Act.put, l9a, l9z, l9s]
            refine tk9 (i := 27) (some 45) (.pointer (some ⟨b, off + j * 7, none⟩)) rfl rfl (fun W hSw => ?_) Swa ?_
            · (try dsimp only at hSw); go_simp <;> with_reducible rfl
            try simp only [Act.put, l9a, l9z, l9s]
            refine tk9 (i := 28) (some 46) (.pointer (some ⟨b, off + j * 7, none⟩)) rfl rfl (fun W hSw => ?_) Swa ?_
            · (try dsimp only at hSw); go_simp <;> with_reducible rfl
            try simp only [Act.put, l9a, l9z, l9s]
            refine tk9 (i := 29) (some 47) (.int .i64 y0) rfl rfl (fun W hSw => ?_) Swa ?_
            · (try dsimp only at hSw); go_simp <;> with_reducible rfl
            try simp only [Act.put, l9a, l9z, l9s]
            refine tk9 (i := 30) (some 48) (.bool true) rfl rfl (fun W hSw => ?_) Swa ?_
            · (try dsimp only at hSw); go_simp <;> with_reducible rfl
            try simp only [Act.put, l9a, l9z, l9s]
            refine tk9 (i := 31) (some 49) (.bool true) rfl rfl (fun W hSw => ?_) Swa ?_
            · (try dsimp only at hSw); go_simp <;> with_reducible rfl
            try simp only [Act.put, l9a, l9z, l9s]
            refine tk9 (i := 32) (some 50) (.bool true) rfl rfl (fun W hSw => ?_) Swa ?_
            · (try dsimp only at hSw); go_simp <;> with_reducible rfl
            try simp only [Act.put, l9a, l9z, l9s]
            refine tk9 (i := 33) (some 51) (.pointer (some ⟨wr.heap.size, 1, none⟩)) rfl rfl (fun W hSw => ?_) Swa ?_
            · (try dsimp only at hSw); go_simp <;> with_reducible rfl
            try simp only [Act.put, l9a, l9z, l9s]
            refine tk9 (i := 34) (some 52) (.int .i64 x1) rfl rfl (fun W hSw => ?_) Swa ?_
            · (try dsimp only at hSw); go_simp <;> with_reducible rfl
            try simp only [Act.put, l9a, l9z, l9s]
            refine tk9 (i := 35) (some 53) (.slice (some ⟨b, off, none⟩) l.length c) rfl rfl (fun W hSw => ?_) Swa ?_
            · (try dsimp only at hSw); go_simp <;> with_reducible rfl
            try simp only [Act.put, l9a, l9z, l9s]
            refine tk9 (i := 36) (some 54) (.int .i64 (k : Int)) rfl rfl (fun W hSw => ?_) Swa ?_
            · (try dsimp only at hSw); go_simp <;> with_reducible rfl
            try simp only [Act.put, l9a, l9z, l9s]
            refine tk9 (i := 37) (some 55) (.int .i64 (j : Int)) rfl rfl (fun W hSw => ?_) Swa ?_
            · (try dsimp only at hSw); go_simp <;> with_reducible rfl
            try simp only [Act.put, l9a, l9z, l9s]
            refine tk9 (i := 38) (some 56) (.pointer (some ⟨b, off + j * 7, none⟩)) rfl rfl (fun W hSw => ?_) Swa ?_
            · (try dsimp only at hSw); go_simp <;> with_reducible rfl
            try simp only [Act.put, l9a, l9z, l9s]
            refine tk9 (i := 39) (some 57) (.pointer (some ⟨b, off + j * 7 + 1, none⟩)) rfl rfl (fun W hSw => ?_) Swa ?_
            · (try dsimp only at hSw); go_simp <;> with_reducible rfl
            try simp only [Act.put, l9a, l9z, l9s]
            refine tk9 (i := 40) (some 58) (.int .i64 y1) rfl rfl (fun W hSw => ?_) Swa ?_
            · (try dsimp only at hSw); go_simp <;> with_reducible rfl
            try simp only [Act.put, l9a, l9z, l9s]
            refine tk9 (i := 41) (some 59) (.bool false) rfl rfl (fun W hSw => ?_) Swa ?_
            · (try dsimp only at hSw); go_simp <;> with_reducible rfl
            try simp only [Act.put, l9a, l9z, l9s]
            refine tk9 (i := 42) (some 60) (.bool false) rfl rfl (fun W hSw => ?_) Swa ?_
            · (try dsimp only at hSw); go_simp <;> with_reducible rfl
            try simp only [Act.put, l9a, l9z, l9s]
            refine tk9 (i := 43) (some 61) (.pointer (some ⟨wr.heap.size, 2, none⟩)) rfl rfl (fun W hSw => ?_) Swa ?_
            · (try dsimp only at hSw); go_simp <;> with_reducible rfl
            try simp only [Act.put, l9a, l9z, l9s]
            refine tk9 (i := 44) (some 62) (.int .i64 x2) rfl rfl (fun W hSw => ?_) Swa ?_
            · (try dsimp only at hSw); go_simp <;> with_reducible rfl
            try simp only [Act.put, l9a, l9z, l9s]
            refine tk9 (i := 45) (some 63) (.slice (some ⟨b, off, none⟩) l.length c) rfl rfl (fun W hSw => ?_) Swa ?_
            · (try dsimp only at hSw); go_simp <;> with_reducible rfl
            try simp only [Act.put, l9a, l9z, l9s]
            refine tk9 (i := 46) (some 64) (.int .i64 (k : Int)) rfl rfl (fun W hSw => ?_) Swa ?_
            · (try dsimp only at hSw); go_simp <;> with_reducible rfl
            try simp only [Act.put, l9a, l9z, l9s]
            refine tk9 (i := 47) (some 65) (.int .i64 (j : Int)) rfl rfl (fun W hSw => ?_) Swa ?_
            · (try dsimp only at hSw); go_simp <;> with_reducible rfl
            try simp only [Act.put, l9a, l9z, l9s]
            refine tk9 (i := 48) (some 66) (.pointer (some ⟨b, off + j * 7, none⟩)) rfl rfl (fun W hSw => ?_) Swa ?_
            · (try dsimp only at hSw); go_simp <;> with_reducible rfl
            try simp only [Act.put, l9a, l9z, l9s]
            refine tk9 (i := 49) (some 67) (.pointer (some ⟨b, off + j * 7 + 2, none⟩)) rfl rfl (fun W hSw => ?_) Swa ?_
            · (try dsimp only at hSw); go_simp <;> with_reducible rfl
            try simp only [Act.put, l9a, l9z, l9s]
            refine tk9 (i := 50) (some 68) (.int .i64 y2) rfl rfl (fun W hSw => ?_) Swa ?_
            · (try dsimp only at hSw); go_simp <;> with_reducible rfl
            try simp only [Act.put, l9a, l9z, l9s]
            refine tk9 (i := 51) (some 69) (.bool false) rfl rfl (fun W hSw => ?_) Swa ?_
            · (try dsimp only at hSw); go_simp <;> with_reducible rfl
            try simp only [Act.put, l9a, l9z, l9s]
            refine tk9 (i := 52) (some 70) (.bool false) rfl rfl (fun W hSw => ?_) Swa ?_
            · (try dsimp only at hSw); go_simp <;> with_reducible rfl
            try simp only [Act.put, l9a, l9z, l9s]
            refine tk9 (i := 53) (some 71) (.bool false) rfl rfl (fun W hSw => ?_) Swa ?_
            · (try dsimp only at hSw); go_simp <;> with_reducible rfl
            try simp only [Act.put, l9a, l9z, l9s]
            refine tk9 (i := 54) (some 72) (.bool false) rfl rfl (fun W hSw => ?_) Swa ?_
            · (try dsimp only at hSw); go_simp <;> with_reducible rfl
            try simp only [Act.put, l9a, l9z, l9s]
            refine wpAnyH_done (by kernel_rfl) ?_ _
            have hbreg : Below w1.heap.size w1 wa := Swa.2
            clear S0 Swa hb9wa
            go_wp2_with fail
            clear hkd hkp sA sB sC d0 d1 d2 d3
            go_roundw
            case rel => exact ⟨k + 1, by omega, by go_num, jrnTo_succ Hno.out Hx.out HQ.out (fun x _ h => by rw [← HJ.out, Nat.add_sub_cancel, Hy.out] at h; injection h with h; subst h; exact HF.out), (HB.out.trans ((HB1.out.trans (hbreg.mono hs1)).mono hsz))⟩
            case measure => simp [intOf]; omega
          · skip
            have HF := Lib.hid (show folB ⟨y0, y1, y2, y3, y4, y5, y6⟩ ⟨x0, x1, x2, x3, x4, x5, x6⟩ = true by rw [folB_iff]; dsimp only; omega)
            have d0 : decide (x0 < y0) = false := decide_eq_false h1
            have d1 : (x0 == y0) = false := by simp; omega
            clear h1 h2
            go_wp2_with fail
            generalize hX : (wr.alloc (.cells #[.int .i64 x0, .int .i64 x1, .int .i64 x2, .int .i64 x3, .int .i64 x4, .int .i64 x5, .int .i64 x6] 99)) = w1
            have hb1 : Below wr.heap.size wr w1 := by rw [← hX]; exact balloc _ _
            have za : Has w1 wr.heap.size 99 #[.int .i64 x0, .int .i64 x1, .int .i64 x2, .int .i64 x3, .int .i64 x4, .int .i64 x5, .int .i64 x6] := by rw [← hX]; exact has_new _ _ _
            clear hX
            have q0 := has_cell za 0 rfl; have q1 := has_cell za 1 rfl; have q2 := has_cell za 2 rfl; have q3 := has_cell za 3 rfl; have q4 := has_cell za 4 rfl; have q5 := has_cell za 5 rfl; have q6 := has_cell za 6 rfl
            have r0 := (bold hb1 _ _ (by omega)).trans hd0; have r1 := (bold hb1 _ _ (by omega)).trans hd1; have r2 := (bold hb1 _ _ (by omega)).trans hd2; have r3 := (bold hb1 _ _ (by omega)).trans hd3; have r4 := (bold hb1 _ _ (by omega)).trans hd4; have r5 := (bold hb1 _ _ (by omega)).trans hd5; have r6 := (bold hb1 _ _ (by omega)).trans hd6
            have hzl := has_lt za
            have hs1 := hb1.size
            have hbl : b < w1.heap.size := by omega
            clear hc0 hc1 hc2 hc3 hc4 hc5 hc6 hd0 hd1 hd2 hd3 hd4 hd5 hd6 za
            have HB := Lib.hid hb; have HB1 := Lib.hid hb1; clear hb hb1
            have S0 : (fun W : World => (W.cell? ⟨wr.heap.size, 0, none⟩ = some (.int .i64 x0) ∧ W.cell? ⟨wr.heap.size, 1, none⟩ = some (.int .i64 x1) ∧ W.cell? ⟨wr.heap.size, 2, none⟩ = some (.int .i64 x2) ∧ W.cell? ⟨wr.heap.size, 3, none⟩ = some (.int .i64 x3) ∧ W.cell? ⟨wr.heap.size, 4, none⟩ = some (.int .i64 x4) ∧ W.cell? ⟨wr.heap.size, 5, none⟩ = some (.int .i64 x5) ∧ W.cell? ⟨wr.heap.size, 6, none⟩ = some (.int .i64 x6) ∧ W.cell? ⟨b, off + j * 7, none⟩ = some (.int .i64 y0) ∧ W.cell? ⟨b, off + j * 7 + 1, none⟩ = some (.int .i64 y1) ∧ W.cell? ⟨b, off + j * 7 + 2, none⟩ = some (.int .i64 y2) ∧ W.cell? ⟨b, off + j * 7 + 3, none⟩ = some (.int .i64 y3) ∧ W.cell? ⟨b, off + j * 7 + 4, none⟩ = some (.int .i64 y4) ∧ W.cell? ⟨b, off + j * 7 + 5, none⟩ = some (.int .i64 y5) ∧ W.cell? ⟨b, off + j * 7 + 6, none⟩ = some (.int .i64 y6)) ∧ Below w1.heap.size w1 W) w1.drew := ⟨⟨q0, q1, q2, q3, q4, q5, q6, r0, r1, r2, r3, r4, r5, r6⟩, (Below.refl _ _).drew⟩
            clear q0 q1 q2 q3 q4 q5 q6 r0 r1 r2 r3 r4 r5 r6
            refine wp_region_held_drew (S := (fun W : World => (W.cell? ⟨wr.heap.size, 0, none⟩ = some (.int .i64 x0) ∧ W.cell? ⟨wr.heap.size, 1, none⟩ = some (.int .i64 x1) ∧ W.cell? ⟨wr.heap.size, 2, none⟩ = some (.int .i64 x2) ∧ W.cell? ⟨wr.heap.size, 3, none⟩ = some (.int .i64 x3) ∧ W.cell? ⟨wr.heap.size, 4, none⟩ = some (.int .i64 x4) ∧ W.cell? ⟨wr.heap.size, 5, none⟩ = some (.int .i64 x5) ∧ W.cell? ⟨wr.heap.size, 6, none⟩ = some (.int .i64 x6) ∧ W.cell? ⟨b, off + j * 7, none⟩ = some (.int .i64 y0) ∧ W.cell? ⟨b, off + j * 7 + 1, none⟩ = some (.int .i64 y1) ∧ W.cell? ⟨b, off + j * 7 + 2, none⟩ = some (.int .i64 y2) ∧ W.cell? ⟨b, off + j * 7 + 3, none⟩ = some (.int .i64 y3) ∧ W.cell? ⟨b, off + j * 7 + 4, none⟩ = some (.int .i64 y4) ∧ W.cell? ⟨b, off + j * 7 + 5, none⟩ = some (.int .i64 y5) ∧ W.cell? ⟨b, off + j * 7 + 6, none⟩ = some (.int .i64 y6)) ∧ Below w1.heap.size w1 W)) (by kernel_rfl) S0 (fun _ => ?_)
            refine tk9 (i := 0) (some 18) (.agg #[.int .i64 x0, .int .i64 x1, .int .i64 x2, .int .i64 x3, .int .i64 x4, .int .i64 x5, .int .i64 x6]) rfl rfl (fun W hSw => ?_) S0 ?_
            · (try dsimp only at hSw); go_simp <;> with_reducible rfl
            try simp only [Act.put, l9a, l9z, l9s]
            refine wpAnyH_ready (rs := [1]) (by kernel_rfl) (by simp) ?_
            refine AllReadyH.cons rfl (fun K hK => ?_) AllReadyH.nil
            go_simp
            go_at_call 61
            refine (evS_any _ x0 x1 x2 x3 x4 x5 x6).mono ?_
            rintro e wa ⟨rfl, hb8⟩
            rw [HQ.out]
            have hb9wa : Below w1.heap.size w1 wa := ((Below.refl w1.heap.size w1).drew).trans hb8
            have Swa : (fun W : World => (W.cell? ⟨wr.heap.size, 0, none⟩ = some (.int .i64 x0) ∧ W.cell? ⟨wr.heap.size, 1, none⟩ = some (.int .i64 x1) ∧ W.cell? ⟨wr.heap.size, 2, none⟩ = some (.int .i64 x2) ∧ W.cell? ⟨wr.heap.size, 3, none⟩ = some (.int .i64 x3) ∧ W.cell? ⟨wr.heap.size, 4, none⟩ = some (.int .i64 x4) ∧ W.cell? ⟨wr.heap.size, 5, none⟩ = some (.int .i64 x5) ∧ W.cell? ⟨wr.heap.size, 6, none⟩ = some (.int .i64 x6) ∧ W.cell? ⟨b, off + j * 7, none⟩ = some (.int .i64 y0) ∧ W.cell? ⟨b, off + j * 7 + 1, none⟩ = some (.int .i64 y1) ∧ W.cell? ⟨b, off + j * 7 + 2, none⟩ = some (.int .i64 y2) ∧ W.cell? ⟨b, off + j * 7 + 3, none⟩ = some (.int .i64 y3) ∧ W.cell? ⟨b, off + j * 7 + 4, none⟩ = some (.int .i64 y4) ∧ W.cell? ⟨b, off + j * 7 + 5, none⟩ = some (.int .i64 y5) ∧ W.cell? ⟨b, off + j * 7 + 6, none⟩ = some (.int .i64 y6)) ∧ Below w1.heap.size w1 W) wa := ⟨⟨(bold hb9wa _ _ (hzl)).trans S0.1.1, (bold hb9wa _ _ (hzl)).trans S0.1.2.1, (bold hb9wa _ _ (hzl)).trans S0.1.2.2.1, (bold hb9wa _ _ (hzl)).trans S0.1.2.2.2.1, (bold hb9wa _ _ (hzl)).trans S0.1.2.2.2.2.1, (bold hb9wa _ _ (hzl)).trans S0.1.2.2.2.2.2.1, (bold hb9wa _ _ (hzl)).trans S0.1.2.2.2.2.2.2.1, (bold hb9wa _ _ (hbl)).trans S0.1.2.2.2.2.2.2.2.1, (bold hb9wa _ _ (hbl)).trans S0.1.2.2.2.2.2.2.2.2.1, (bold hb9wa _ _ (hbl)).trans S0.1.2.2.2.2.2.2.2.2.2.1, (bold hb9wa _ _ (hbl)).trans S0.1.2.2.2.2.2.2.2.2.2.2.1, (bold hb9wa _ _ (hbl)).trans S0.1.2.2.2.2.2.2.2.2.2.2.2.1, (bold hb9wa _ _ (hbl)).trans S0.1.2.2.2.2.2.2.2.2.2.2.2.2.1, (bold hb9wa _ _ (hbl)).trans S0.1.2.2.2.2.2.2.2.2.2.2.2.2.2⟩, hb9wa⟩
            clear hb8
            go_wp2_with fail
            refine hK.out _ _ Swa (fun _ => ?_)
            clear hK K
            try simp only [Act.put, l9a, l9z, l9s]
            refine tk9 (i := 2) (some 20) (.bool false) rfl rfl (fun W hSw => ?_) Swa ?_
            · (try dsimp only at hSw); go_simp <;> with_reducible rfl
            try simp only [Act.put, l9a, l9z, l9s]
            refine tk9 (i := 3) (some 21) (.bool false) rfl rfl (fun W hSw => ?_) Swa ?_
            · (try dsimp only at hSw); go_simp <;> with_reducible rfl
            try simp only [Act.put, l9a, l9z, l9s]
            refine tk9 (i := 4) (some 22) (.int .i64 (k : Int)) rfl rfl (fun W hSw => ?_) Swa ?_
            · (try dsimp only at hSw); go_simp <;> with_reducible rfl
            try simp only [Act.put, l9a, l9z, l9s]
            refine tk9 (i := 5) (some 23) (.bool true) rfl rfl (fun W hSw => ?_) Swa ?_
            · (try dsimp only at hSw); go_simp <;> with_reducible rfl
            try simp only [Act.put, l9a, l9z, l9s]
            refine tk9 (i := 6) (some 24) (.bool true) rfl rfl (fun W hSw => ?_) Swa ?_
            · (try dsimp only at hSw); go_simp <;> with_reducible rfl
            try simp only [Act.put, l9a, l9z, l9s]
            refine tk9 (i := 7) (some 25) (.pointer (some ⟨wr.heap.size, 0, none⟩)) rfl rfl (fun W hSw => ?_) Swa ?_
            · (try dsimp only at hSw); go_simp <;> with_reducible rfl
            try simp only [Act.put, l9a, l9z, l9s]
            refine tk9 (i := 8) (some 26) (.int .i64 x0) rfl rfl (fun W hSw => ?_) Swa ?_
            · (try dsimp only at hSw); go_simp <;> with_reducible rfl
            try simp only [Act.put, l9a, l9z, l9s]
            refine tk9 (i := 9) (some 27) (.slice (some ⟨b, off, none⟩) l.length c) rfl rfl (fun W hSw => ?_) Swa ?_
            · (try dsimp only at hSw); go_simp <;> with_reducible rfl
            try simp only [Act.put, l9a, l9z, l9s]
            refine tk9 (i := 10) (some 28) (.int .i64 (k : Int)) rfl rfl (fun W hSw => ?_) Swa ?_
            · (try dsimp only at hSw); go_simp <;> with_reducible rfl
            try simp only [Act.put, l9a, l9z, l9s]
            refine tk9 (i := 11) (some 29) (.int .i64 (j : Int)) rfl rfl (fun W hSw => ?_) Swa ?_
            · (try dsimp only at hSw); go_simp <;> with_reducible rfl
            try simp only [Act.put, l9a, l9z, l9s]
            refine tk9 (i := 12) (some 30) (.pointer (some ⟨b, off + j * 7, none⟩)) rfl rfl (fun W hSw => ?_) Swa ?_
            · (try dsimp only at hSw); go_simp <;> with_reducible rfl
            try simp only [Act.put, l9a, l9z, l9s]
            refine tk9 (i := 13) (some 31) (.pointer (some ⟨b, off + j * 7, none⟩)) rfl rfl (fun W hSw => ?_) Swa ?_
            · (try dsimp only at hSw); go_simp <;> with_reducible rfl
            try simp only [Act.put, l9a, l9z, l9s]
            refine tk9 (i := 14) (some 32) (.int .i64 y0) rfl rfl (fun W hSw => ?_) Swa ?_
            · (try dsimp only at hSw); go_simp <;> with_reducible rfl
            try simp only [Act.put, l9a, l9z, l9s]
            refine tk9 (i := 15) (some 33) (.bool false) rfl rfl (fun W hSw => ?_) Swa ?_
            · (try dsimp only at hSw); go_simp <;> with_reducible rfl
            try simp only [Act.put, l9a, l9z, l9s]
            refine tk9 (i := 16) (some 34) (.bool false) rfl rfl (fun W hSw => ?_) Swa ?_
            · (try dsimp only at hSw); go_simp <;> with_reducible rfl
            try simp only [Act.put, l9a, l9z, l9s]
            refine tk9 (i := 17) (some 35) (.bool false) rfl rfl (fun W hSw => ?_) Swa ?_
            · (try dsimp only at hSw); go_simp <;> with_reducible rfl
            try simp only [Act.put, l9a, l9z, l9s]
            refine tk9 (i := 18) (some 36) (.bool false) rfl rfl (fun W hSw => ?_) Swa ?_
            · (try dsimp only at hSw); go_simp <;> with_reducible rfl
            try simp only [Act.put, l9a, l9z, l9s]
            refine tk9 (i := 19) (some 37) (.int .i64 (k : Int)) rfl rfl (fun W hSw => ?_) Swa ?_
            · (try dsimp only at hSw); go_simp <;> with_reducible rfl
            try simp only [Act.put, l9a, l9z, l9s]
            refine tk9 (i := 20) (some 38) (.bool true) rfl rfl (fun W hSw => ?_) Swa ?_
            · (try dsimp only at hSw); go_simp <;> with_reducible rfl
            try simp only [Act.put, l9a, l9z, l9s]
            refine tk9 (i := 21) (some 39) (.bool true) rfl rfl (fun W hSw => ?_) Swa ?_
            · (try dsimp only at hSw); go_simp <;> with_reducible rfl
            try simp only [Act.put, l9a, l9z, l9s]
            refine tk9 (i := 22) (some 40) (.pointer (some ⟨wr.heap.size, 0, none⟩)) rfl rfl (fun W hSw => ?_) Swa ?_
            · (try dsimp only at hSw); go_simp <;> with_reducible rfl
            try simp only [Act.put, l9a, l9z, l9s]
            refine tk9 (i := 23) (some 41) (.int .i64 x0) rfl rfl (fun W hSw => ?_) Swa ?_
            · (try dsimp only at hSw); go_simp <;> with_reducible rfl
            try simp only [Act.put, l9a, l9z, l9s]
            refine tk9 (i := 24) (some 42) (.slice (some ⟨b, off, none⟩) l.length c) rfl rfl (fun W hSw => ?_) Swa ?_
            · (try dsimp only at hSw); go_simp <;> with_reducible rfl
            try simp only [Act.put, l9a, l9z, l9s]
            refine tk9 (i := 25) (some 43) (.int .i64 (k : Int)) rfl rfl (fun W hSw => ?_) Swa ?_
            · (try dsimp only at hSw); go_simp <;> with_reducible rfl
            try simp only [Act.put, l9a, l9z, l9s]
            refine tk9 (i := 26) (some 44) (.int .i64 (j : Int)) rfl rfl (fun W hSw => ?_) Swa ?_
            · (try dsimp only at hSw); go_simp <;> with_reducible rfl
            try simp only [Act.put, l9a, l9z, l9s]
            refine tk9 (i := 27) (some 45) (.pointer (some ⟨b, off + j * 7, none⟩)) rfl rfl (fun W hSw => ?_) Swa ?_
            · (try dsimp only at hSw); go_simp <;> with_reducible rfl
            try simp only [Act.put, l9a, l9z, l9s]
            refine tk9 (i := 28) (some 46) (.pointer (some ⟨b, off + j * 7, none⟩)) rfl rfl (fun W hSw => ?_) Swa ?_
            · (try dsimp only at hSw); go_simp <;> with_reducible rfl
            try simp only [Act.put, l9a, l9z, l9s]
            refine tk9 (i := 29) (some 47) (.int .i64 y0) rfl rfl (fun W hSw => ?_) Swa ?_
            · (try dsimp only at hSw); go_simp <;> with_reducible rfl
            try simp only [Act.put, l9a, l9z, l9s]
            refine tk9 (i := 30) (some 48) (.bool false) rfl rfl (fun W hSw => ?_) Swa ?_
            · (try dsimp only at hSw); go_simp <;> with_reducible rfl
            try simp only [Act.put, l9a, l9z, l9s]
            refine tk9 (i := 31) (some 49) (.bool false) rfl rfl (fun W hSw => ?_) Swa ?_
            · (try dsimp only at hSw); go_simp <;> with_reducible rfl
            try simp only [Act.put, l9a, l9z, l9s]
            refine tk9 (i := 32) (some 50) (.bool false) rfl rfl (fun W hSw => ?_) Swa ?_
            · (try dsimp only at hSw); go_simp <;> with_reducible rfl
            try simp only [Act.put, l9a, l9z, l9s]
            refine sk9 (i := 33) (some 51) rfl rfl Swa ?_
            try simp only [Act.put, l9a, l9z, l9s]
            refine sk9 (i := 34) (some 52) rfl rfl Swa ?_
            try simp only [Act.put, l9a, l9z, l9s]
            refine sk9 (i := 35) (some 53) rfl rfl Swa ?_
            try simp only [Act.put, l9a, l9z, l9s]
            refine sk9 (i := 36) (some 54) rfl rfl Swa ?_
            try simp only [Act.put, l9a, l9z, l9s]
            refine sk9 (i := 37) (some 55) rfl rfl Swa ?_
            try simp only [Act.put, l9a, l9z, l9s]
            refine sk9 (i := 38) (some 56) rfl rfl Swa ?_
            try simp only [Act.put, l9a, l9z, l9s]
            refine sk9 (i := 39) (some 57) rfl rfl Swa ?_
            try simp only [Act.put, l9a, l9z, l9s]
            refine sk9 (i := 40) (some 58) rfl rfl Swa ?_
            try simp only [Act.put, l9a, l9z, l9s]
            refine sk9 (i := 41) (some 59) rfl rfl Swa ?_
            try simp only [Act.put, l9a, l9z, l9s]
            refine sk9 (i := 42) (some 60) rfl rfl Swa ?_
            try simp only [Act.put, l9a, l9z, l9s]
            refine sk9 (i := 43) (some 61) rfl rfl Swa ?_
            try simp only [Act.put, l9a, l9z, l9s]
            refine sk9 (i := 44) (some 62) rfl rfl Swa ?_
            try simp only [Act.put, l9a, l9z, l9s]
            refine sk9 (i := 45) (some 63) rfl rfl Swa ?_
            try simp only [Act.put, l9a, l9z, l9s]
            refine sk9 (i := 46) (some 64) rfl rfl Swa ?_
            try simp only [Act.put, l9a, l9z, l9s]
            refine sk9 (i := 47) (some 65) rfl rfl Swa ?_
            try simp only [Act.put, l9a, l9z, l9s]
            refine sk9 (i := 48) (some 66) rfl rfl Swa ?_
            try simp only [Act.put, l9a, l9z, l9s]
            refine sk9 (i := 49) (some 67) rfl rfl Swa ?_
            try simp only [Act.put, l9a, l9z, l9s]
            refine sk9 (i := 50) (some 68) rfl rfl Swa ?_
            try simp only [Act.put, l9a, l9z, l9s]
            refine sk9 (i := 51) (some 69) rfl rfl Swa ?_
            try simp only [Act.put, l9a, l9z, l9s]
            refine sk9 (i := 52) (some 70) rfl rfl Swa ?_
            try simp only [Act.put, l9a, l9z, l9s]
            refine tk9 (i := 53) (some 71) (.bool false) rfl rfl (fun W hSw => ?_) Swa ?_
            · (try dsimp only at hSw); go_simp <;> with_reducible rfl
            try simp only [Act.put, l9a, l9z, l9s]
            refine tk9 (i := 54) (some 72) (.bool false) rfl rfl (fun W hSw => ?_) Swa ?_
            · (try dsimp only at hSw); go_simp <;> with_reducible rfl
            try simp only [Act.put, l9a, l9z, l9s]
            refine wpAnyH_done (by kernel_rfl) ?_ _
            have hbreg : Below w1.heap.size w1 wa := Swa.2
            clear S0 Swa hb9wa
            go_wp2_with fail
            clear hkd hkp sA sB sC d0 d1
            go_roundw
            case rel => exact ⟨k + 1, by omega, by go_num, jrnTo_succ Hno.out Hx.out HQ.out (fun x _ h => by rw [← HJ.out, Nat.add_sub_cancel, Hy.out] at h; injection h with h; subst h; exact HF.out), (HB.out.trans ((HB1.out.trans (hbreg.mono hs1)).mono hsz))⟩
            case measure => simp [intOf]; omega
    · go_wp2
      go_ret
      have hkl : k = l.length := by omega
      subst hkl
      exact ⟨rbool (jrn_all (by omega) Hno.out).symm, hb⟩
end Go.Proofs.YtjpkpfmpjgeeiaaGreat
