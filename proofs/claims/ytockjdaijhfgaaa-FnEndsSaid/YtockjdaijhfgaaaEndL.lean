/- Chapter 5: the walk of the law FnEnds. -/
import Derived.Test.YtockjdaijhfgaaaGrH
import Derived.Test.YtockjdaijhfgaaaEndQ
import Derived.Test.YtockjdaijhfgaaaEndW
import Derived.Test.YtockjdaijhfgaaaGraU
import Derived.Deep.RegionHeld3
import Derived.Deep.DeepMust
namespace Go.Proofs.Ytockjdaijhfgaaa
open Go.RowKit
set_option linter.unusedVariables false
set_option maxRecDepth 100000 in
set_option maxHeartbeats 16000000 in
theorem ends_walk (w : World) (A : Option Addr) (na ca : Nat) (hn : na ≤ maxLen) (hS : BS w w.heap.size A na) : Calls Try.prog 6 #[.slice A na ca] w fun e w' => e = .returned (.bool true) ∧ Below w.heap.size w w' := by
  have HS := Lib.hid hS; clear hS
  have HBG := Lib.hid (fun W => big_any W A na ca hn)
  have HDR := Lib.hid (fun W (h : BS W W.heap.size A na) => eofD_any W A na ca hn h)
  clear hn
  by_cases hbig : (1048576 : Int) < na
  · have hd : decide ((1048576 : Int) < na) = true := by simpa using hbig
    have HD := Lib.hid hd; clear hd
    go_enter Try.func6, Try.ntmps6
    go_wp2_with (refine (HBG.out _).mono ?_; rintro e w' ⟨rfl, hw⟩; rw [hw, HD.out]; clear hw)
    go_ret
    exact ⟨rfl, Below.refl _ _⟩
  have hd : decide ((1048576 : Int) < na) = false := by simpa using hbig
  have HD := Lib.hid hd; clear hd hbig
  go_enter Try.func6, Try.ntmps6
  go_wp2_with (go_at_call 7; refine (HBG.out _).mono ?_; rintro e w' ⟨rfl, hw⟩; rw [hw, HD.out]; clear hw)
  refine (HDR.out w HS.out).mono ?_
  rintro e w1 ⟨A0, c0, l, o, q, p, t, rfl, hl, ho, hq, hp, ht, hor, hb⟩
  have hs1 := hb.size
  have HG := Lib.hid hor.gr; have ZB := Lib.hid hb; clear hor hb ho hq hp
  have hl2 : l.length ≤ 1048576 := by omega
  obtain ⟨E, hE⟩ : ∃ E, endV l o q p t = E := ⟨_, rfl⟩
  obtain ⟨H, hH⟩ : ∃ H, holdersL l o p t = H := ⟨_, rfl⟩
  have HLN := Lib.hid (show H.length ≤ 40 by rw [← hH]; exact hold_len l o p t)
  have HMM := Lib.hid (show ∀ (n : Nat) (x : Int), H[n]? = some x → mayB l o x p t = true by rw [← hH]; exact fun n x hx => (hold_mem.1 (List.mem_of_getElem? hx)).2)
  have HAS := Lib.hid (show ∀ (n m : Nat) (x y : Int), n < m → H[m]? = some x → H[n]? = some y → y < x by rw [← hH]; exact fun n m x y h hx hy => hold_next h hx hy)
  have HHS := Lib.hid (show hasB H q = mayB l o q p t by rw [← hH]; exact hold_has)
  have HE := Lib.hid hE; have HH := Lib.hid hH; clear hE hH
  go_wp2_with fail
  refine (endI_any w1 w1.heap.size A0 c0 l o q p t hl2 (Nat.le_refl _) HG.out).mono ?_
  rintro e w2 ⟨rfl, hb⟩
  rw [HE.out]
  have hs2 := hb.size
  have Z2 := Lib.hid hb; clear hb
  go_wp2_with fail
  refine (holdI_any w2 w1.heap.size A0 c0 l o p t hl2 (by omega) (HG.out.below Z2.out)).mono ?_
  rintro e w3 ⟨AH, cH, rfl, hoH, hb⟩
  rw [HH.out] at hoH ⊢
  have hs3 := hb.size
  have Z3 := Lib.hid (bthen Z2.out hb); have HI := Lib.hid hoH.il; clear hb hoH Z2
  go_wp2_with fail
  refine (endS_any w3 w1.heap.size A0 c0 l o q p t hl2 (by omega) (HG.out.below Z3.out)).mono ?_
  rintro e w4 ⟨rfl, hb⟩
  rw [HE.out]
  have hs4 := hb.size
  have Z4 := Lib.hid (bthen Z3.out hb); have Y4 := Lib.hid hb; clear hb Z3
  have hee : (E == E) = true := beq_self_eq_true _
  go_wp2_with fail
  refine (holdS_any w4 w1.heap.size A0 c0 l o p t hl2 (by omega) (HG.out.below Z4.out)).mono ?_
  rintro e w5 ⟨AK, cK, rfl, hoK, hb⟩
  rw [HH.out] at hoK ⊢
  have hs5 := hb.size
  have Z5 := Lib.hid (bthen Z4.out hb); have Y5 := Lib.hid (bthen Y4.out hb); have HK := Lib.hid hoK.il; clear hb hoK Z4 Y4
  go_wp2_with fail
  refine (sameL_any w5 w5.heap.size AH AK cH cK H (by have := HLN.out; omega) (Nat.le_refl _) ((HI.out.below Y5.out).more (by omega)) HK.out).mono ?_
  rintro e w6 ⟨rfl, hb⟩
  have hs6 := hb.size
  have Z6 := Lib.hid (bthen Z5.out hb); have Y6 := Lib.hid (bthen Y5.out hb); clear hb Z5 Y5 HK hee
  go_wp2_with fail
  go_loopw [10] (fun i wr => ∃ m : Nat, m ≤ H.length ∧ i = .int .i64 m ∧ Below w6.heap.size w6 wr) (fun i _ => H.length - (intOf i).toNat)
  case atStart => exact ⟨0, Nat.zero_le _, rfl, Below.refl _ _⟩
  case round =>
    obtain ⟨m, hm, rfl, hbr⟩ := hrel
    have hsr := hbr.size
    have HBR := Lib.hid hbr; have ZR := Lib.hid (bthen Z6.out hbr); have YR := Lib.hid (bthen Y6.out hbr); clear hbr
    have hH40 := HLN.out
    by_cases hlt : m < H.length
    · rcases (HI.out.below YR.out) with hnil | ⟨b, off, rfl, hbB, hcs⟩
      · rw [hnil] at hlt; simp at hlt
      have hx := List.getElem?_eq_getElem hlt
      generalize H[m] = x at hx
      have hcx := hcs m x hx
      have HM := Lib.hid (HMM.out m x hx)
      have hbl : b < wr.heap.size := by have := YR.out.size; omega
      have hi0 : (0 : Int) ≤ (m : Int) := by omega
      have hi1 : (m : Int) < (H.length : Int) := by omega
      by_cases hm0 : m = 0
      · clear hx hcs
        have S0 : (fun W : World => (W.cell? ⟨b, off + m, none⟩ = some (.int .i64 x)) ∧ Below wr.heap.size wr W) wr.drew := ⟨hcx, (Below.refl _ _).drew⟩
        have hdz : decide ((0 : Int) < (m : Int)) = false := decide_eq_false (by omega)
        have hnz : ¬ 0 < m := (by omega); clear hm0
        go_wp2_with fail
        refine wp_region_held_drew (S := (fun W : World => (W.cell? ⟨b, off + m, none⟩ = some (.int .i64 x)) ∧ Below wr.heap.size wr W)) (by kernel_rfl) S0 (fun _ => ?_)
        refine any_take (i := 0) (some 57) (.slice A0 l.length c0) rfl rfl (by kernel_rfl) (by kernel_rfl) (by kernel_rfl) (fun _ _ _ h => h) rfl (fun W hSw => ?_) (S0) ?_
        · (try dsimp only at hSw); go_simp <;> with_reducible rfl
        try simp only [Act.put, List.setIfInBounds_toArray, List.set_cons_zero, List.set_cons_succ]
        refine any_take (i := 1) (some 58) (.int .i64 o) rfl rfl (by kernel_rfl) (by kernel_rfl) (by kernel_rfl) (fun _ _ _ h => h) rfl (fun W hSw => ?_) (S0) ?_
        · (try dsimp only at hSw); go_simp <;> with_reducible rfl
        try simp only [Act.put, List.setIfInBounds_toArray, List.set_cons_zero, List.set_cons_succ]
        refine any_take (i := 2) (some 59) (.slice (some ⟨b, off, none⟩) H.length cH) rfl rfl (by kernel_rfl) (by kernel_rfl) (by kernel_rfl) (fun _ _ _ h => h) rfl (fun W hSw => ?_) (S0) ?_
        · (try dsimp only at hSw); go_simp <;> with_reducible rfl
        try simp only [Act.put, List.setIfInBounds_toArray, List.set_cons_zero, List.set_cons_succ]
        refine any_take (i := 3) (some 60) (.int .i64 (m : Int)) rfl rfl (by kernel_rfl) (by kernel_rfl) (by kernel_rfl) (fun _ _ _ h => h) rfl (fun W hSw => ?_) (S0) ?_
        · (try dsimp only at hSw); go_simp <;> with_reducible rfl
        try simp only [Act.put, List.setIfInBounds_toArray, List.set_cons_zero, List.set_cons_succ]
        refine any_take (i := 4) (some 61) (.pointer (some ⟨b, off + m, none⟩)) rfl rfl (by kernel_rfl) (by kernel_rfl) (by kernel_rfl) (fun _ _ _ h => h) rfl (fun W hSw => ?_) (S0) ?_
        · (try dsimp only at hSw); go_simp <;> with_reducible rfl
        try simp only [Act.put, List.setIfInBounds_toArray, List.set_cons_zero, List.set_cons_succ]
        refine any_take (i := 5) (some 62) (.int .i64 x) rfl rfl (by kernel_rfl) (by kernel_rfl) (by kernel_rfl) (fun _ _ _ h => h) rfl (fun W hSw => ?_) (S0) ?_
        · (try dsimp only at hSw); go_simp <;> with_reducible rfl
        try simp only [Act.put, List.setIfInBounds_toArray, List.set_cons_zero, List.set_cons_succ]
        refine any_take (i := 6) (some 63) (.int .i64 p) rfl rfl (by kernel_rfl) (by kernel_rfl) (by kernel_rfl) (fun _ _ _ h => h) rfl (fun W hSw => ?_) (S0) ?_
        · (try dsimp only at hSw); go_simp <;> with_reducible rfl
        try simp only [Act.put, List.setIfInBounds_toArray, List.set_cons_zero, List.set_cons_succ]
        refine any_take (i := 7) (some 64) (.int .i64 t) rfl rfl (by kernel_rfl) (by kernel_rfl) (by kernel_rfl) (fun _ _ _ h => h) rfl (fun W hSw => ?_) (S0) ?_
        · (try dsimp only at hSw); go_simp <;> with_reducible rfl
        try simp only [Act.put, List.setIfInBounds_toArray, List.set_cons_zero, List.set_cons_succ]
        refine wpAnyH_ready (rs := [8]) (by kernel_rfl) (by simp) ?_
        refine AllReadyH.cons rfl (fun K hK => ?_) AllReadyH.nil
        go_simp
        go_at_call 12
        refine (mayI_any _ w1.heap.size A0 c0 l o x p t hl2 (by have := ZR.out.size; simp; omega) (HG.out.below ZR.out.drew)).mono ?_
        rintro e w9 ⟨rfl, hb8⟩
        rw [HM.out]
        have hb9 : Below wr.heap.size wr w9 := ((Below.refl wr.heap.size wr).drew).trans hb8
        clear hb8
        have S9 : (fun W : World => (W.cell? ⟨b, off + m, none⟩ = some (.int .i64 x)) ∧ Below wr.heap.size wr W) w9 := ⟨(bold hb9 _ _ hbl).trans S0.1, hb9⟩
        go_wp2_with fail
        refine hK.out _ _ S9 (fun _ => ?_)
        clear hK K
        try simp only [Act.put, List.setIfInBounds_toArray, List.set_cons_zero, List.set_cons_succ]
        refine any_take (i := 9) (some 66) (.bool false) rfl rfl (by kernel_rfl) (by kernel_rfl) (by kernel_rfl) (fun _ _ _ h => h) rfl (fun W hSw => ?_) (S9) ?_
        · (try dsimp only at hSw); go_simp <;> with_reducible rfl
        try simp only [Act.put, List.setIfInBounds_toArray, List.set_cons_zero, List.set_cons_succ]
        refine any_take (i := 10) (some 67) (.bool false) rfl rfl (by kernel_rfl) (by kernel_rfl) (by kernel_rfl) (fun _ _ _ h => h) rfl (fun W hSw => ?_) (S9) ?_
        · (try dsimp only at hSw); go_simp <;> with_reducible rfl
        try simp only [Act.put, List.setIfInBounds_toArray, List.set_cons_zero, List.set_cons_succ]
        refine any_take (i := 11) (some 68) (.int .i64 (m : Int)) rfl rfl (by kernel_rfl) (by kernel_rfl) (by kernel_rfl) (fun _ _ _ h => h) rfl (fun W hSw => ?_) (S9) ?_
        · (try dsimp only at hSw); go_simp <;> with_reducible rfl
        try simp only [Act.put, List.setIfInBounds_toArray, List.set_cons_zero, List.set_cons_succ]
        refine any_take (i := 12) (some 69) (.bool false) rfl rfl (by kernel_rfl) (by kernel_rfl) (by kernel_rfl) (fun _ _ _ h => h) rfl (fun W hSw => ?_) (S9) ?_
        · (try dsimp only at hSw); go_simp <;> with_reducible rfl
        try simp only [Act.put, List.setIfInBounds_toArray, List.set_cons_zero, List.set_cons_succ]
        refine any_take (i := 13) (some 70) (.bool false) rfl rfl (by kernel_rfl) (by kernel_rfl) (by kernel_rfl) (fun _ _ _ h => h) rfl (fun W hSw => ?_) (S9) ?_
        · (try dsimp only at hSw); go_simp <;> with_reducible rfl
        try simp only [Act.put, List.setIfInBounds_toArray, List.set_cons_zero, List.set_cons_succ]
        refine any_skip (i := 14) (some 71) rfl rfl (by kernel_rfl) (by kernel_rfl) (by kernel_rfl) (fun _ _ _ h => h) rfl (S9) ?_
        try simp only [Act.put, List.setIfInBounds_toArray, List.set_cons_zero, List.set_cons_succ]
        refine any_skip (i := 15) (some 72) rfl rfl (by kernel_rfl) (by kernel_rfl) (by kernel_rfl) (fun _ _ _ h => h) rfl (S9) ?_
        try simp only [Act.put, List.setIfInBounds_toArray, List.set_cons_zero, List.set_cons_succ]
        refine any_skip (i := 16) (some 73) rfl rfl (by kernel_rfl) (by kernel_rfl) (by kernel_rfl) (fun _ _ _ h => h) rfl (S9) ?_
        try simp only [Act.put, List.setIfInBounds_toArray, List.set_cons_zero, List.set_cons_succ]
        refine any_skip (i := 17) (some 74) rfl rfl (by kernel_rfl) (by kernel_rfl) (by kernel_rfl) (fun _ _ _ h => h) rfl (S9) ?_
        try simp only [Act.put, List.setIfInBounds_toArray, List.set_cons_zero, List.set_cons_succ]
        refine any_skip (i := 18) (some 75) rfl rfl (by kernel_rfl) (by kernel_rfl) (by kernel_rfl) (fun _ _ _ h => h) rfl (S9) ?_
        try simp only [Act.put, List.setIfInBounds_toArray, List.set_cons_zero, List.set_cons_succ]
        refine any_skip (i := 19) (some 76) rfl rfl (by kernel_rfl) (by kernel_rfl) (by kernel_rfl) (fun _ _ _ h => h) rfl (S9) ?_
        try simp only [Act.put, List.setIfInBounds_toArray, List.set_cons_zero, List.set_cons_succ]
        refine any_skip (i := 20) (some 77) rfl rfl (by kernel_rfl) (by kernel_rfl) (by kernel_rfl) (fun _ _ _ h => h) rfl (S9) ?_
        try simp only [Act.put, List.setIfInBounds_toArray, List.set_cons_zero, List.set_cons_succ]
        refine any_skip (i := 21) (some 78) rfl rfl (by kernel_rfl) (by kernel_rfl) (by kernel_rfl) (fun _ _ _ h => h) rfl (S9) ?_
        try simp only [Act.put, List.setIfInBounds_toArray, List.set_cons_zero, List.set_cons_succ]
        refine any_skip (i := 22) (some 79) rfl rfl (by kernel_rfl) (by kernel_rfl) (by kernel_rfl) (fun _ _ _ h => h) rfl (S9) ?_
        try simp only [Act.put, List.setIfInBounds_toArray, List.set_cons_zero, List.set_cons_succ]
        refine any_skip (i := 23) (some 80) rfl rfl (by kernel_rfl) (by kernel_rfl) (by kernel_rfl) (fun _ _ _ h => h) rfl (S9) ?_
        try simp only [Act.put, List.setIfInBounds_toArray, List.set_cons_zero, List.set_cons_succ]
        refine any_take (i := 24) (some 81) (.bool false) rfl rfl (by kernel_rfl) (by kernel_rfl) (by kernel_rfl) (fun _ _ _ h => h) rfl (fun W hSw => ?_) (S9) ?_
        · (try dsimp only at hSw); go_simp <;> with_reducible rfl
        try simp only [Act.put, List.setIfInBounds_toArray, List.set_cons_zero, List.set_cons_succ]
        refine any_take (i := 25) (some 82) (.bool false) rfl rfl (by kernel_rfl) (by kernel_rfl) (by kernel_rfl) (fun _ _ _ h => h) rfl (fun W hSw => ?_) (S9) ?_
        · (try dsimp only at hSw); go_simp <;> with_reducible rfl
        try simp only [Act.put, List.setIfInBounds_toArray, List.set_cons_zero, List.set_cons_succ]
        refine wpAnyH_done (by kernel_rfl) ?_ _
        clear S0 S9
        have HB9 := Lib.hid (bthen HBR.out hb9); clear hb9
        go_wp2_with fail
        go_roundw
        case rel => exact ⟨m + 1, by omega, by go_num, HB9.out⟩
        case measure => simp [intOf]; omega
      · obtain ⟨n, hn1⟩ : ∃ n, n + 1 = m := ⟨m - 1, by omega⟩
        have hy := List.getElem?_eq_getElem (show n < H.length by omega)
        generalize H[n] = y at hy
        have hcy := hcs n y hy
        have HLT := Lib.hid (HAS.out n m x y (by omega) hx hy)
        clear hx hy hcs
        have S0 : (fun W : World => (W.cell? ⟨b, off + m, none⟩ = some (.int .i64 x) ∧ W.cell? ⟨b, off + n, none⟩ = some (.int .i64 y)) ∧ Below wr.heap.size wr W) wr.drew := ⟨⟨hcx, hcy⟩, (Below.refl _ _).drew⟩
        have hdz : decide ((0 : Int) < (m : Int)) = true := decide_eq_true (by omega)
        have hnz : 0 < m := (by omega); clear hm0
        have hdl : decide (x ≤ y) = false := decide_eq_false (by have := HLT.out; omega)
        have sA : IntKind.i64.wrap ((m : Int) - 1) = (n : Int) := by rw [IntWalk.i64_in _ (by omega)]; omega
        have sB : (0 : Int) ≤ (n : Int) := (by omega); have sC : (n : Int) < (H.length : Int) := (by omega)
        have sD : (0 : Int) < (m : Int) := (by omega)
        go_wp2_with fail
        refine wp_region_held_drew (S := (fun W : World => (W.cell? ⟨b, off + m, none⟩ = some (.int .i64 x) ∧ W.cell? ⟨b, off + n, none⟩ = some (.int .i64 y)) ∧ Below wr.heap.size wr W)) (by kernel_rfl) S0 (fun _ => ?_)
        refine any_take (i := 0) (some 57) (.slice A0 l.length c0) rfl rfl (by kernel_rfl) (by kernel_rfl) (by kernel_rfl) (fun _ _ _ h => h) rfl (fun W hSw => ?_) (S0) ?_
        · (try dsimp only at hSw); go_simp <;> with_reducible rfl
        try simp only [Act.put, List.setIfInBounds_toArray, List.set_cons_zero, List.set_cons_succ]
        refine any_take (i := 1) (some 58) (.int .i64 o) rfl rfl (by kernel_rfl) (by kernel_rfl) (by kernel_rfl) (fun _ _ _ h => h) rfl (fun W hSw => ?_) (S0) ?_
        · (try dsimp only at hSw); go_simp <;> with_reducible rfl
        try simp only [Act.put, List.setIfInBounds_toArray, List.set_cons_zero, List.set_cons_succ]
        refine any_take (i := 2) (some 59) (.slice (some ⟨b, off, none⟩) H.length cH) rfl rfl (by kernel_rfl) (by kernel_rfl) (by kernel_rfl) (fun _ _ _ h => h) rfl (fun W hSw => ?_) (S0) ?_
        · (try dsimp only at hSw); go_simp <;> with_reducible rfl
        try simp only [Act.put, List.setIfInBounds_toArray, List.set_cons_zero, List.set_cons_succ]
        refine any_take (i := 3) (some 60) (.int .i64 (m : Int)) rfl rfl (by kernel_rfl) (by kernel_rfl) (by kernel_rfl) (fun _ _ _ h => h) rfl (fun W hSw => ?_) (S0) ?_
        · (try dsimp only at hSw); go_simp <;> with_reducible rfl
        try simp only [Act.put, List.setIfInBounds_toArray, List.set_cons_zero, List.set_cons_succ]
        refine any_take (i := 4) (some 61) (.pointer (some ⟨b, off + m, none⟩)) rfl rfl (by kernel_rfl) (by kernel_rfl) (by kernel_rfl) (fun _ _ _ h => h) rfl (fun W hSw => ?_) (S0) ?_
        · (try dsimp only at hSw); go_simp <;> with_reducible rfl
        try simp only [Act.put, List.setIfInBounds_toArray, List.set_cons_zero, List.set_cons_succ]
        refine any_take (i := 5) (some 62) (.int .i64 x) rfl rfl (by kernel_rfl) (by kernel_rfl) (by kernel_rfl) (fun _ _ _ h => h) rfl (fun W hSw => ?_) (S0) ?_
        · (try dsimp only at hSw); go_simp <;> with_reducible rfl
        try simp only [Act.put, List.setIfInBounds_toArray, List.set_cons_zero, List.set_cons_succ]
        refine any_take (i := 6) (some 63) (.int .i64 p) rfl rfl (by kernel_rfl) (by kernel_rfl) (by kernel_rfl) (fun _ _ _ h => h) rfl (fun W hSw => ?_) (S0) ?_
        · (try dsimp only at hSw); go_simp <;> with_reducible rfl
        try simp only [Act.put, List.setIfInBounds_toArray, List.set_cons_zero, List.set_cons_succ]
        refine any_take (i := 7) (some 64) (.int .i64 t) rfl rfl (by kernel_rfl) (by kernel_rfl) (by kernel_rfl) (fun _ _ _ h => h) rfl (fun W hSw => ?_) (S0) ?_
        · (try dsimp only at hSw); go_simp <;> with_reducible rfl
        try simp only [Act.put, List.setIfInBounds_toArray, List.set_cons_zero, List.set_cons_succ]
        refine wpAnyH_ready (rs := [8]) (by kernel_rfl) (by simp) ?_
        refine AllReadyH.cons rfl (fun K hK => ?_) AllReadyH.nil
        go_simp
        go_at_call 12
        refine (mayI_any _ w1.heap.size A0 c0 l o x p t hl2 (by have := ZR.out.size; simp; omega) (HG.out.below ZR.out.drew)).mono ?_
        rintro e w9 ⟨rfl, hb8⟩
        rw [HM.out]
        have hb9 : Below wr.heap.size wr w9 := ((Below.refl wr.heap.size wr).drew).trans hb8
        clear hb8
        have S9 : (fun W : World => (W.cell? ⟨b, off + m, none⟩ = some (.int .i64 x) ∧ W.cell? ⟨b, off + n, none⟩ = some (.int .i64 y)) ∧ Below wr.heap.size wr W) w9 := ⟨⟨(bold hb9 _ _ hbl).trans S0.1.1, (bold hb9 _ _ hbl).trans S0.1.2⟩, hb9⟩
        go_wp2_with fail
        refine hK.out _ _ S9 (fun _ => ?_)
        clear hK K
        try simp only [Act.put, List.setIfInBounds_toArray, List.set_cons_zero, List.set_cons_succ]
        refine any_take (i := 9) (some 66) (.bool false) rfl rfl (by kernel_rfl) (by kernel_rfl) (by kernel_rfl) (fun _ _ _ h => h) rfl (fun W hSw => ?_) (S9) ?_
        · (try dsimp only at hSw); go_simp <;> with_reducible rfl
        try simp only [Act.put, List.setIfInBounds_toArray, List.set_cons_zero, List.set_cons_succ]
        refine any_take (i := 10) (some 67) (.bool false) rfl rfl (by kernel_rfl) (by kernel_rfl) (by kernel_rfl) (fun _ _ _ h => h) rfl (fun W hSw => ?_) (S9) ?_
        · (try dsimp only at hSw); go_simp <;> with_reducible rfl
        try simp only [Act.put, List.setIfInBounds_toArray, List.set_cons_zero, List.set_cons_succ]
        refine any_take (i := 11) (some 68) (.int .i64 (m : Int)) rfl rfl (by kernel_rfl) (by kernel_rfl) (by kernel_rfl) (fun _ _ _ h => h) rfl (fun W hSw => ?_) (S9) ?_
        · (try dsimp only at hSw); go_simp <;> with_reducible rfl
        try simp only [Act.put, List.setIfInBounds_toArray, List.set_cons_zero, List.set_cons_succ]
        refine any_take (i := 12) (some 69) (.bool true) rfl rfl (by kernel_rfl) (by kernel_rfl) (by kernel_rfl) (fun _ _ _ h => h) rfl (fun W hSw => ?_) (S9) ?_
        · (try dsimp only at hSw); go_simp <;> with_reducible rfl
        try simp only [Act.put, List.setIfInBounds_toArray, List.set_cons_zero, List.set_cons_succ]
        refine any_take (i := 13) (some 70) (.bool true) rfl rfl (by kernel_rfl) (by kernel_rfl) (by kernel_rfl) (fun _ _ _ h => h) rfl (fun W hSw => ?_) (S9) ?_
        · (try dsimp only at hSw); go_simp <;> with_reducible rfl
        try simp only [Act.put, List.setIfInBounds_toArray, List.set_cons_zero, List.set_cons_succ]
        refine any_take (i := 14) (some 71) (.slice (some ⟨b, off, none⟩) H.length cH) rfl rfl (by kernel_rfl) (by kernel_rfl) (by kernel_rfl) (fun _ _ _ h => h) rfl (fun W hSw => ?_) (S9) ?_
        · (try dsimp only at hSw); go_simp <;> with_reducible rfl
        try simp only [Act.put, List.setIfInBounds_toArray, List.set_cons_zero, List.set_cons_succ]
        refine any_take (i := 15) (some 72) (.int .i64 (m : Int)) rfl rfl (by kernel_rfl) (by kernel_rfl) (by kernel_rfl) (fun _ _ _ h => h) rfl (fun W hSw => ?_) (S9) ?_
        · (try dsimp only at hSw); go_simp <;> with_reducible rfl
        try simp only [Act.put, List.setIfInBounds_toArray, List.set_cons_zero, List.set_cons_succ]
        refine any_take (i := 16) (some 73) (.pointer (some ⟨b, off + m, none⟩)) rfl rfl (by kernel_rfl) (by kernel_rfl) (by kernel_rfl) (fun _ _ _ h => h) rfl (fun W hSw => ?_) (S9) ?_
        · (try dsimp only at hSw); go_simp <;> with_reducible rfl
        try simp only [Act.put, List.setIfInBounds_toArray, List.set_cons_zero, List.set_cons_succ]
        refine any_take (i := 17) (some 74) (.int .i64 x) rfl rfl (by kernel_rfl) (by kernel_rfl) (by kernel_rfl) (fun _ _ _ h => h) rfl (fun W hSw => ?_) (S9) ?_
        · (try dsimp only at hSw); go_simp <;> with_reducible rfl
        try simp only [Act.put, List.setIfInBounds_toArray, List.set_cons_zero, List.set_cons_succ]
        refine any_take (i := 18) (some 75) (.slice (some ⟨b, off, none⟩) H.length cH) rfl rfl (by kernel_rfl) (by kernel_rfl) (by kernel_rfl) (fun _ _ _ h => h) rfl (fun W hSw => ?_) (S9) ?_
        · (try dsimp only at hSw); go_simp <;> with_reducible rfl
        try simp only [Act.put, List.setIfInBounds_toArray, List.set_cons_zero, List.set_cons_succ]
        refine any_take (i := 19) (some 76) (.int .i64 (m : Int)) rfl rfl (by kernel_rfl) (by kernel_rfl) (by kernel_rfl) (fun _ _ _ h => h) rfl (fun W hSw => ?_) (S9) ?_
        · (try dsimp only at hSw); go_simp <;> with_reducible rfl
        try simp only [Act.put, List.setIfInBounds_toArray, List.set_cons_zero, List.set_cons_succ]
        refine any_take (i := 20) (some 77) (.int .i64 (n : Int)) rfl rfl (by kernel_rfl) (by kernel_rfl) (by kernel_rfl) (fun _ _ _ h => h) rfl (fun W hSw => ?_) (S9) ?_
        · (try dsimp only at hSw); go_simp <;> with_reducible rfl
        try simp only [Act.put, List.setIfInBounds_toArray, List.set_cons_zero, List.set_cons_succ]
        refine any_take (i := 21) (some 78) (.pointer (some ⟨b, off + n, none⟩)) rfl rfl (by kernel_rfl) (by kernel_rfl) (by kernel_rfl) (fun _ _ _ h => h) rfl (fun W hSw => ?_) (S9) ?_
        · (try dsimp only at hSw); go_simp <;> with_reducible rfl
        try simp only [Act.put, List.setIfInBounds_toArray, List.set_cons_zero, List.set_cons_succ]
        refine any_take (i := 22) (some 79) (.int .i64 y) rfl rfl (by kernel_rfl) (by kernel_rfl) (by kernel_rfl) (fun _ _ _ h => h) rfl (fun W hSw => ?_) (S9) ?_
        · (try dsimp only at hSw); go_simp <;> with_reducible rfl
        try simp only [Act.put, List.setIfInBounds_toArray, List.set_cons_zero, List.set_cons_succ]
        refine any_take (i := 23) (some 80) (.bool false) rfl rfl (by kernel_rfl) (by kernel_rfl) (by kernel_rfl) (fun _ _ _ h => h) rfl (fun W hSw => ?_) (S9) ?_
        · (try dsimp only at hSw); go_simp <;> with_reducible rfl
        try simp only [Act.put, List.setIfInBounds_toArray, List.set_cons_zero, List.set_cons_succ]
        refine any_take (i := 24) (some 81) (.bool false) rfl rfl (by kernel_rfl) (by kernel_rfl) (by kernel_rfl) (fun _ _ _ h => h) rfl (fun W hSw => ?_) (S9) ?_
        · (try dsimp only at hSw); go_simp <;> with_reducible rfl
        try simp only [Act.put, List.setIfInBounds_toArray, List.set_cons_zero, List.set_cons_succ]
        refine any_take (i := 25) (some 82) (.bool false) rfl rfl (by kernel_rfl) (by kernel_rfl) (by kernel_rfl) (fun _ _ _ h => h) rfl (fun W hSw => ?_) (S9) ?_
        · (try dsimp only at hSw); go_simp <;> with_reducible rfl
        try simp only [Act.put, List.setIfInBounds_toArray, List.set_cons_zero, List.set_cons_succ]
        refine wpAnyH_done (by kernel_rfl) ?_ _
        clear S0 S9
        have HB9 := Lib.hid (bthen HBR.out hb9); clear hb9
        go_wp2_with fail
        go_roundw
        case rel => exact ⟨m + 1, by omega, by go_num, HB9.out⟩
        case measure => simp [intOf]; omega
    · have hmn : m = H.length := by omega
      subst hmn
      have hH40 := HLN.out
      cases hmay : mayB l o q p t
      · have hE1 : E = -1 := by rw [← HE.out]; exact endV_no hmay
        subst hE1
        have hh := HHS.out; rw [hmay] at hh
        have HMAY := Lib.hid hmay; have HHQ := Lib.hid hh; clear hmay hh
        go_wp2_with fail
        refine (mayI_any wr w1.heap.size A0 c0 l o q p t hl2 (by have := ZR.out.size; omega) (HG.out.below ZR.out)).mono ?_
        rintro e w7 ⟨rfl, hb⟩
        rw [HMAY.out]
        have hs7 := hb.size
        have B7 := Lib.hid (bthen HBR.out hb); have Y7 := Lib.hid (bthen YR.out hb); clear hb
        go_wp2_with fail
        refine (hasL_any w7 w3.heap.size AH cH H q (by omega) (by omega) (HI.out.below Y7.out)).mono ?_
        rintro e w8 ⟨rfl, hb⟩
        rw [HHQ.out]
        have B8 := Lib.hid (bthen B7.out hb); clear hb
        go_wp2_with fail
        go_ret
        exact ⟨rfl, bthen (bthen ZB.out Z6.out) B8.out⟩
      · have hend : IsEnd l o q p t E := by rw [← HE.out]; exact endV_spec hmay
        have hgt := good_time (may_good hmay)
        have hh := HHS.out; rw [hmay] at hh
        have HMAY := Lib.hid hmay; have HHQ := Lib.hid hh; have HEND := Lib.hid hend
        have hE1 : t < E := hend.1
        have hE2 : E ≤ 20001 := by
          rcases Int.lt_or_le 20001 E with h4 | h4
          · have h5 := hend.2.2 20001 (by omega) h4
            rw [may_late l o q p (by omega)] at h5; cases h5
          · exact h4
        clear hmay hh hend
        have hE0 : ¬ E < 0 := by omega
        have hE3 : decide (E < 0) = false := decide_eq_false hE0
        go_wp2_with fail
        go_loopw [11] (fun i wr => ∃ s : Int, i = .int .i64 s ∧ t ≤ s ∧ s ≤ E ∧ Below w6.heap.size w6 wr) (fun i _ => (E - intOf i).toNat)
        case atStart => exact ⟨t, rfl, Int.le_refl _, by omega, HBR.out⟩
        case round =>
          clear HBR ZR YR hsr
          obtain ⟨s, rfl, h1, h2, hbr⟩ := hrel
          have hsr := hbr.size
          have HBR := Lib.hid hbr; have ZR := Lib.hid (bthen Z6.out hbr); have YR := Lib.hid (bthen Y6.out hbr); clear hbr
          have hzs := ZR.out.size
          have hwt : IntKind.i64.wrap (t + 60) = t + 60 := IntWalk.i64_in _ (by omega)
          by_cases hlt : s < E
          · by_cases h60 : s < t + 60
            · have HMS := Lib.hid (show mayB l o q p s = true by
                rcases Int.lt_or_le t s with h5 | h5
                · exact HEND.out.2.2 s h5 hlt
                · rw [show s = t by omega]; exact HMAY.out)
              go_wp2_with fail
              refine (mayI_any wr w1.heap.size A0 c0 l o q p s hl2 (by omega) (HG.out.below ZR.out)).mono ?_
              rintro e w7 ⟨rfl, hb⟩
              rw [HMS.out]
              have B7 := Lib.hid (bthen HBR.out hb); clear hb
              go_wp2_with fail
              go_roundw
              case rel => exact ⟨s + 1, by go_num, by omega, by omega, B7.out⟩
              case measure => simp [intOf]; omega
            · skip
              go_wp2_with fail
              refine (hasL_any wr w3.heap.size AH cH H q (by omega) (by omega) (HI.out.below YR.out)).mono ?_
              rintro e w7 ⟨rfl, hb⟩
              rw [HHQ.out]
              have hs7 := hb.size
              have B7 := Lib.hid (bthen HBR.out hb); have Z7 := Lib.hid (bthen ZR.out hb); clear hb
              go_wp2_with fail
              refine (mayI_any w7 w1.heap.size A0 c0 l o q p E hl2 (by omega) (HG.out.below Z7.out)).mono ?_
              rintro e w8 ⟨rfl, hb⟩
              rw [HEND.out.2.1]
              have B8 := Lib.hid (bthen B7.out hb); clear hb
              go_wp2_with fail
              go_ret
              exact ⟨rfl, bthen (bthen ZB.out Z6.out) B8.out⟩
          · skip
            go_wp2_with fail
            refine (hasL_any wr w3.heap.size AH cH H q (by omega) (by omega) (HI.out.below YR.out)).mono ?_
            rintro e w7 ⟨rfl, hb⟩
            rw [HHQ.out]
            have hs7 := hb.size
            have B7 := Lib.hid (bthen HBR.out hb); have Z7 := Lib.hid (bthen ZR.out hb); clear hb
            go_wp2_with fail
            refine (mayI_any w7 w1.heap.size A0 c0 l o q p E hl2 (by omega) (HG.out.below Z7.out)).mono ?_
            rintro e w8 ⟨rfl, hb⟩
            rw [HEND.out.2.1]
            have B8 := Lib.hid (bthen B7.out hb); clear hb
            go_wp2_with fail
            go_ret
            exact ⟨rfl, bthen (bthen ZB.out Z6.out) B8.out⟩
end Go.Proofs.Ytockjdaijhfgaaa
