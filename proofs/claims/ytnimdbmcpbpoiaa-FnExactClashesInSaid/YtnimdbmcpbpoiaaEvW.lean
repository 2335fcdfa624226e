/- Chapter 8: OrderOf of the model (gen_evw.py). -/
import Derived.Test.YtnimdbmcpbpoiaaEvA
import Derived.Test.YtnimdbmcpbpoiaaEvQ
import Derived.Test.YtnimdbmcpbpoiaaGraC
namespace Go.Proofs.Ytnimdbmcpbpoiaa
open Go.RowKit
set_option linter.unusedVariables false
/-- the answer is a list of numbers -/
def AnsO (R : List Int) (w : World) (e : Ending) (w' : World) : Prop := ∃ A' c', e = .returned (.slice A' R.length c') ∧ OR w' w.heap.size 3 A' (intV R) ∧ Below w.heap.size w w'
theorem owned_drewN {w : World} {base size n : Nat} {e : TypeId} {v : Value} {xs : List Value} (h : w.ownsRow base e size v n xs) (m : Nat) : (w.drewN m).ownsRow base e size v n xs := h
theorem natV_len (L : List Nat) : (intV (natI L)).length = L.length := by rw [intV_len, natI_len]
theorem natV_at {L : List Nat} {k i : Nat} (h : L[k]? = some i) : (intV (natI L))[k]? = some (.int .i64 (i : Int)) := intV_at (natI_at h)
theorem natV_set (L : List Nat) (k x : Nat) : (intV (natI L)).set k (.int .i64 (x : Int)) = intV (natI (L.set k x)) := by simp [intV, natI, List.map_set]
theorem ins_swap (pre post : List Nat) (p i : Nat) : (((pre ++ [p]) ++ i :: post).set (pre.length + 1) p).set pre.length i = pre ++ i :: p :: post := by
  induction pre with
  | nil => simp
  | cons a r ih => simp [ih]
theorem snoc_of {pre : List Nat} (h : 0 < pre.length) : ∃ pr p, pre = pr ++ [p] := by
  rcases List.eq_nil_or_concat pre with e | ⟨q, x, e⟩
  · rw [e] at h; simp at h
  · exact ⟨q, x, by rw [e, List.concat_eq_append]⟩
theorem ins_at1 (pre post : List Nat) (p i : Nat) : ((pre ++ [p]) ++ i :: post)[pre.length]? = some p := by simp
theorem ins_at2 (pre post : List Nat) (p i : Nat) : ((pre ++ [p]) ++ i :: post)[pre.length + 1]? = some i := by simp

set_option maxRecDepth 100000 in
set_option maxHeartbeats 2000000 in
theorem orderS_bad (w : World) (B : Nat) (A : Option Addr) (c : Nat) (l : List Ev) (hl : l.length ≤ 1048576) (hB : B ≤ w.heap.size) (hS : evL w B A l) (hq : jrnB l = false) : Calls Try.prog 8 #[.slice A l.length c] w (AnsO (orderE l) w) := by
  have HQ := Lib.hid hq; clear hq
  have hlm : l.length ≤ maxLen := by unfold maxLen; omega
  have HLM := Lib.hid hlm; unfold maxLen at hlm
  have HS := Lib.hid hS; clear hS
  go_enter Try.func8, Try.ntmps8
  go_wp2
  go_loopw [3, 4] (fun v i wr => v = .slice (some ⟨w.heap.size, 0, none⟩) 0 0 ∧ i = .int .i64 0 ∧ wr = w.alloc (.cells #[] 3)) (fun _ i _ => 0)
  case atStart => exact ⟨rfl, rfl, rfl⟩
  case round =>
    obtain ⟨rfl, rfl, rfl⟩ := hrel
    by_cases h0 : 0 < l.length
    · go_wp2_with (go_at_call 23; refine (jrnS_any _ B A c l HLM.out (by simp; omega) (HS.out.later hB (balloc _ _))).mono ?_; rintro e w1 ⟨rfl, hb1⟩; rw [HQ.out])
      go_ret
      exact ⟨_, _, retv (by rw [orderE_bad HQ.out]; rfl), .inl (by rw [orderE_bad HQ.out]; rfl), bthen (balloc _ _) hb1⟩
    · go_wp2
      go_ret
      exact ⟨_, _, retv (by rw [orderE_bad HQ.out]; rfl), .inl (by rw [orderE_bad HQ.out]; rfl), balloc _ _⟩
set_option maxRecDepth 100000 in
set_option maxHeartbeats 16000000 in
theorem orderS_good (w : World) (B : Nat) (A : Option Addr) (c : Nat) (l : List Ev) (hl : l.length ≤ 1048576) (hB : B ≤ w.heap.size) (hS : evL w B A l) (hq : jrnB l = true) : Calls Try.prog 8 #[.slice A l.length c] w (AnsO (orderE l) w) := by
  have HQ := Lib.hid hq; clear hq
  have hlm : l.length ≤ maxLen := by unfold maxLen; omega
  have HLM := Lib.hid hlm; unfold maxLen at hlm
  have HS := Lib.hid hS; clear hS
  obtain ⟨i0, hi0, hz0, hz1, hz2⟩ := info_parts intInfo
  have I0 := Lib.hid hi0; have Z0 := Lib.hid hz0; have Z1 := Lib.hid hz1; have Z2 := Lib.hid hz2; clear hi0 hz0 hz1 hz2
  go_enter Try.func8, Try.ntmps8
  go_wp2
  go_loopw [3, 4] (fun v i wr => ∃ (k : Nat) (L : List Nat), k ≤ l.length ∧ i = .int .i64 k ∧ L.length = k ∧ L.Perm (List.range k) ∧ L.Pairwise (fun a b => ordLe l a b = true) ∧ wr.ownsRow w.heap.size 3 1 v k (intV (natI L)) ∧ Below w.heap.size w wr) (fun _ i _ => l.length - (intOf i).toNat)
  case atStart => exact ⟨0, [], Nat.zero_le _, rfl, rfl, .refl _, .nil, owns_new w w.heap.size 3 1 (Nat.le_refl _), balloc _ _⟩
  case round =>
    obtain ⟨k, L, hk, rfl, hLk, hp, hs, hown, hb⟩ := hrel
    have HLk := Lib.hid hLk; have HP := Lib.hid hp; have HSR := Lib.hid hs; clear hLk hp hs
    have hsz := hb.size
    have HO := Lib.hid hown; have HB := Lib.hid hb; clear hown hb
    by_cases hlt : k < l.length
    · have hkn : (intV (natI L)).length = k := by rw [natV_len, HLk.out]
      have HKN := Lib.hid hkn; clear hkn
      go_wp2_with (first | (go_at_call 23; refine (jrnS_any _ B A c l HLM.out (by omega) (HS.out.below (HB.out.mono hB))).mono ?_; rintro e w1 ⟨rfl, hb1⟩; rw [HQ.out]; have HO1 := Lib.hid (own_kept HO.out hb1); have HB1 := Lib.hid (HB.out.trans (hb1.mono hsz)); have hs1 := HB1.out.size; clear HO HB hb1) | (at_builtin; go_must (refine list_app rfl _ _ 24 rfl w.heap.size 3 i0 (.int .i64 0) 1 8 Try.underlying24 I0.out Z0.out Z1.out Z2.out rfl (by decide) _ _ _ rfl (HO1.out.alloc _) _ 1 1 (#[.int .i64 (k : Int)] : Array Value).toList rfl (src_box _ _ #[.int .i64 (k : Int)] 1 rfl (by simp [Value.oneCell'])) (by unfold maxLen; omega) (by omega) (by simp; omega) ?_); intro A3 c3 w4 hown4 hgrow _; have hb4 : Below w.heap.size w w4 := (HB1.out.alloc hs1 _).grown hgrow (by simp; omega) (fun k hk => (HO1.out.lt k hk).1); have HO4 := Lib.hid hown4; have HB4 := Lib.hid hb4; clear hown4 hgrow hb4))
      obtain ⟨g, cap, hform, hg1, hg2⟩ := HO4.out.form (Nat.succ_pos k)
      injection hform with hf1 hf2 hf3
      subst hf1 hf3; clear hf2
      have hs4 := HB4.out.size
      go_loopw [5] (fun i wz => ∃ (j : Nat) (pre post : List Nat), i = .int .i64 j ∧ pre.length = j ∧ j ≤ k ∧ InsI l k pre post ∧ wz.ownsRow w.heap.size 3 1 (.slice (some ⟨g, 0, none⟩) (k + 1) c3) (k + 1) (intV (natI (pre ++ k :: post))) ∧ Below w.heap.size w wz) (fun i _ => (intOf i).toNat)
      case atStart => exact ⟨k, L, [], rfl, HLk.out, Nat.le_refl _, insI_start HP.out HSR.out, by rw [natI_app, show intV (natI L ++ natI [k]) = intV (natI L) ++ [.int .i64 (k : Int)] by simp [intV, natI]]; exact HO4.out, HB4.out⟩
      case round =>
        obtain ⟨j, pre, post, rfl, hpj, hjk, hins, hown5, hb5⟩ := hrel
        rename World => wz
        have hsz5 := hb5.size
        have HPJ := Lib.hid hpj; have HI := Lib.hid hins; have HO5 := Lib.hid hown5; have HB5 := Lib.hid hb5; clear hpj hins hown5 hb5 HO4 HB4
        have hg5 : g < wz.heap.size := by have := (HO5.out.lt g rfl).2; exact this
        by_cases hj0 : j = 0
        · skip
          have HJ0 := Lib.hid hj0; have hkd : decide (0 < j) = false := decide_eq_false (by omega); clear hj0
          go_wp2_with fail
          have S0 : (fun W : World => (True) ∧ Below wz.heap.size wz W) wz.drew := ⟨trivial, (Below.refl _ _).drew⟩
          refine wp_region_held_drew (S := (fun W : World => (True) ∧ Below wz.heap.size wz W)) (by kernel_rfl) S0 (fun _ => ?_)
          refine any_take (i := 0) (some 23) (.int .i64 (j : Int)) rfl rfl (by kernel_rfl) (by kernel_rfl) (by kernel_rfl) (fun _ _ _ h => h) rfl (fun W hSw => ?_) (S0) ?_
          · (try dsimp only at hSw); go_simp <;> with_reducible rfl
          try simp only [Act.put, List.setIfInBounds_toArray, List.set_cons_zero, List.set_cons_succ]
          refine any_take (i := 1) (some 24) (.bool false) rfl rfl (by kernel_rfl) (by kernel_rfl) (by kernel_rfl) (fun _ _ _ h => h) rfl (fun W hSw => ?_) (S0) ?_
          · (try dsimp only at hSw); go_simp <;> with_reducible rfl
          try simp only [Act.put, List.setIfInBounds_toArray, List.set_cons_zero, List.set_cons_succ]
          refine any_take (i := 2) (some 25) (.bool false) rfl rfl (by kernel_rfl) (by kernel_rfl) (by kernel_rfl) (fun _ _ _ h => h) rfl (fun W hSw => ?_) (S0) ?_
          · (try dsimp only at hSw); go_simp <;> with_reducible rfl
          try simp only [Act.put, List.setIfInBounds_toArray, List.set_cons_zero, List.set_cons_succ]
          refine any_skip (i := 3) (some 26) rfl rfl (by kernel_rfl) (by kernel_rfl) (by kernel_rfl) (fun _ _ _ h => h) rfl (S0) ?_
          try simp only [Act.put, List.setIfInBounds_toArray, List.set_cons_zero, List.set_cons_succ]
          refine any_skip (i := 4) (some 27) rfl rfl (by kernel_rfl) (by kernel_rfl) (by kernel_rfl) (fun _ _ _ h => h) rfl (S0) ?_
          try simp only [Act.put, List.setIfInBounds_toArray, List.set_cons_zero, List.set_cons_succ]
          refine any_skip (i := 5) (some 28) rfl rfl (by kernel_rfl) (by kernel_rfl) (by kernel_rfl) (fun _ _ _ h => h) rfl (S0) ?_
          try simp only [Act.put, List.setIfInBounds_toArray, List.set_cons_zero, List.set_cons_succ]
          refine any_skip (i := 6) (some 29) rfl rfl (by kernel_rfl) (by kernel_rfl) (by kernel_rfl) (fun _ _ _ h => h) rfl (S0) ?_
          try simp only [Act.put, List.setIfInBounds_toArray, List.set_cons_zero, List.set_cons_succ]
          refine any_skip (i := 7) (some 30) rfl rfl (by kernel_rfl) (by kernel_rfl) (by kernel_rfl) (fun _ _ _ h => h) rfl (S0) ?_
          try simp only [Act.put, List.setIfInBounds_toArray, List.set_cons_zero, List.set_cons_succ]
          refine any_skip (i := 8) (some 31) rfl rfl (by kernel_rfl) (by kernel_rfl) (by kernel_rfl) (fun _ _ _ h => h) rfl (S0) ?_
          try simp only [Act.put, List.setIfInBounds_toArray, List.set_cons_zero, List.set_cons_succ]
          refine any_skip (i := 9) (some 32) rfl rfl (by kernel_rfl) (by kernel_rfl) (by kernel_rfl) (fun _ _ _ h => h) rfl (S0) ?_
          try simp only [Act.put, List.setIfInBounds_toArray, List.set_cons_zero, List.set_cons_succ]
          refine any_skip (i := 10) (some 33) rfl rfl (by kernel_rfl) (by kernel_rfl) (by kernel_rfl) (fun _ _ _ h => h) rfl (S0) ?_
          try simp only [Act.put, List.setIfInBounds_toArray, List.set_cons_zero, List.set_cons_succ]
          refine any_skip (i := 11) (some 34) rfl rfl (by kernel_rfl) (by kernel_rfl) (by kernel_rfl) (fun _ _ _ h => h) rfl (S0) ?_
          try simp only [Act.put, List.setIfInBounds_toArray, List.set_cons_zero, List.set_cons_succ]
          refine any_skip (i := 12) (some 35) rfl rfl (by kernel_rfl) (by kernel_rfl) (by kernel_rfl) (fun _ _ _ h => h) rfl (S0) ?_
          try simp only [Act.put, List.setIfInBounds_toArray, List.set_cons_zero, List.set_cons_succ]
          refine any_skip (i := 13) (some 36) rfl rfl (by kernel_rfl) (by kernel_rfl) (by kernel_rfl) (fun _ _ _ h => h) rfl (S0) ?_
          try simp only [Act.put, List.setIfInBounds_toArray, List.set_cons_zero, List.set_cons_succ]
          refine any_skip (i := 14) (some 37) rfl rfl (by kernel_rfl) (by kernel_rfl) (by kernel_rfl) (fun _ _ _ h => h) rfl (S0) ?_
          try simp only [Act.put, List.setIfInBounds_toArray, List.set_cons_zero, List.set_cons_succ]
          refine any_skip (i := 15) (some 38) rfl rfl (by kernel_rfl) (by kernel_rfl) (by kernel_rfl) (fun _ _ _ h => h) rfl (S0) ?_
          try simp only [Act.put, List.setIfInBounds_toArray, List.set_cons_zero, List.set_cons_succ]
          refine any_skip (i := 16) (some 39) rfl rfl (by kernel_rfl) (by kernel_rfl) (by kernel_rfl) (fun _ _ _ h => h) rfl (S0) ?_
          try simp only [Act.put, List.setIfInBounds_toArray, List.set_cons_zero, List.set_cons_succ]
          refine any_skip (i := 17) (some 40) rfl rfl (by kernel_rfl) (by kernel_rfl) (by kernel_rfl) (fun _ _ _ h => h) rfl (S0) ?_
          try simp only [Act.put, List.setIfInBounds_toArray, List.set_cons_zero, List.set_cons_succ]
          refine any_skip (i := 18) (some 41) rfl rfl (by kernel_rfl) (by kernel_rfl) (by kernel_rfl) (fun _ _ _ h => h) rfl (S0) ?_
          try simp only [Act.put, List.setIfInBounds_toArray, List.set_cons_zero, List.set_cons_succ]
          refine any_skip (i := 19) (some 42) rfl rfl (by kernel_rfl) (by kernel_rfl) (by kernel_rfl) (fun _ _ _ h => h) rfl (S0) ?_
          try simp only [Act.put, List.setIfInBounds_toArray, List.set_cons_zero, List.set_cons_succ]
          refine any_skip (i := 20) (some 43) rfl rfl (by kernel_rfl) (by kernel_rfl) (by kernel_rfl) (fun _ _ _ h => h) rfl (S0) ?_
          try simp only [Act.put, List.setIfInBounds_toArray, List.set_cons_zero, List.set_cons_succ]
          refine any_take (i := 21) (some 44) (.bool false) rfl rfl (by kernel_rfl) (by kernel_rfl) (by kernel_rfl) (fun _ _ _ h => h) rfl (fun W hSw => ?_) (S0) ?_
          · (try dsimp only at hSw); go_simp <;> with_reducible rfl
          try simp only [Act.put, List.setIfInBounds_toArray, List.set_cons_zero, List.set_cons_succ]
          refine wpAnyH_done (by kernel_rfl) ?_ _
          have hbreg : Below wz.heap.size wz wz.drew := S0.2
          clear S0
          clear hkd
          have HB6 := Lib.hid (HB5.out.trans (hbreg.mono hsz5)); have HO6 := Lib.hid (own_kept HO5.out hbreg); clear hbreg
          go_wp2_with fail
          go_roundw
          case rel => exact ⟨k + 1, pre ++ k :: post, by omega, by go_num, by have := (insI_end HI.out (fun p hp => by have h := HPJ.out; rw [HJ0.out] at h; rw [List.eq_nil_of_length_eq_zero h] at hp; simp at hp)).1.length_eq; simpa using this, (insI_end HI.out (fun p hp => by have h := HPJ.out; rw [HJ0.out] at h; rw [List.eq_nil_of_length_eq_zero h] at hp; simp at hp)).1, (insI_end HI.out (fun p hp => by have h := HPJ.out; rw [HJ0.out] at h; rw [List.eq_nil_of_length_eq_zero h] at hp; simp at hp)).2, HO6.out, HB6.out⟩
          case measure => simp [intOf]; omega
        · skip
          obtain ⟨j2, hj2⟩ : ∃ j2, j2 + 1 = j := ⟨j - 1, by omega⟩
          obtain ⟨pr, p, hpp⟩ := snoc_of (show 0 < pre.length by rw [HPJ.out]; omega)
          have hprl : pr.length = j2 := by have := HPJ.out; rw [hpp] at this; simp at this; omega
          have hpk : p < k := by have := (HI.out.perm.mem_iff (a := p)).1 (by rw [hpp]; simp); simpa using this
          subst hpp
          obtain ⟨b, off, xk, xp, hA, hbB, hxk, hxp, ⟨hc0, hc1, hc2, hc3, hc4, hc5, hc6⟩, hd0, hd1, hd2, hd3, hd4, hd5, hd6⟩ := (HS.out.below (HB5.out.mono hB)).two hlt (show p < l.length by omega)
          have ek := kI_at hxk; have ep := kI_at hxp
          subst hA
          obtain ⟨sk, hsk⟩ : ∃ s, xk.stm = s := ⟨_, rfl⟩; obtain ⟨sp, hsp⟩ : ∃ s, xp.stm = s := ⟨_, rfl⟩; rw [hsk] at hc2; rw [hsp] at hd2
          have EK := Lib.hid (show (kI l k).stm = sk by rw [ek]; exact hsk); have EP := Lib.hid (show (kI l p).stm = sp by rw [ep]; exact hsp)
          clear hc0 hc1 hc3 hc4 hc5 hc6 hd0 hd1 hd3 hd4 hd5 hd6 hxk hxp ek ep hsk hsp
          have r0 : wz.cell? ⟨g, j2, none⟩ = some (.int .i64 (p : Int)) := (HO5.out.cellAt j2 (by omega)).trans (natV_at (by rw [← hprl]; exact ins_at1 pr post p k))
          have r1 : wz.cell? ⟨g, j, none⟩ = some (.int .i64 (k : Int)) := (HO5.out.cellAt j (by omega)).trans (natV_at (by rw [← hj2, ← hprl]; exact ins_at2 pr post p k))
          have fz0 := HO5.out.frozenAt j2; have fz1 := HO5.out.frozenAt j
          have hkd : decide (0 < j) = true := decide_eq_true (by omega)
          have hkp : 0 < j := by omega
          have sA : IntKind.i64.wrap ((j : Int) - 1) = (j2 : Int) := by rw [IntWalk.i64_in _ (by omega)]; omega
          have s1 : (0 : Int) ≤ j2 := by omega
          have s2 : (j2 : Int) < (k : Int) + 1 := by omega
          have s3 : (j : Int) < (k : Int) + 1 := by omega
          have s4 : (0 : Int) ≤ j := by omega
          have s5 : (0 : Int) ≤ p := by omega
          have s6 : (p : Int) < l.length := by omega
          have s7 : (0 : Int) ≤ k := by omega
          have s8 : (k : Int) < l.length := by omega
          have t2 : j2 < k + 1 := by omega
          have t3 : j < k + 1 := by omega
          have t6 : p < l.length := by omega
          have HJ2 := Lib.hid hj2; have HPR := Lib.hid hprl; clear hj2 hprl hj0
          have hbw : b < wz.heap.size := by omega
          by_cases hgt : sk < sp
          · skip
            have hgd : decide (sk < sp) = true := decide_eq_true hgt
            go_wp2_with fail
            have S0 : (fun W : World => (W.cell? ⟨g, j2, none⟩ = some (.int .i64 (p : Int)) ∧ W.cell? ⟨g, j, none⟩ = some (.int .i64 (k : Int)) ∧ W.cell? ⟨b, off + p * 7 + 2, none⟩ = some (.int .i64 sp) ∧ W.cell? ⟨b, off + k * 7 + 2, none⟩ = some (.int .i64 sk)) ∧ Below wz.heap.size wz W) wz.drew := ⟨⟨r0, r1, hd2, hc2⟩, (Below.refl _ _).drew⟩
            clear hd2 hc2
            refine wp_region_held_drew (S := (fun W : World => (W.cell? ⟨g, j2, none⟩ = some (.int .i64 (p : Int)) ∧ W.cell? ⟨g, j, none⟩ = some (.int .i64 (k : Int)) ∧ W.cell? ⟨b, off + p * 7 + 2, none⟩ = some (.int .i64 sp) ∧ W.cell? ⟨b, off + k * 7 + 2, none⟩ = some (.int .i64 sk)) ∧ Below wz.heap.size wz W)) (by kernel_rfl) S0 (fun _ => ?_)
            refine any_take (i := 0) (some 23) (.int .i64 (j : Int)) rfl rfl (by kernel_rfl) (by kernel_rfl) (by kernel_rfl) (fun _ _ _ h => h) rfl (fun W hSw => ?_) (S0) ?_
            · (try dsimp only at hSw); go_simp <;> with_reducible rfl
            try simp only [Act.put, List.setIfInBounds_toArray, List.set_cons_zero, List.set_cons_succ]
            refine any_take (i := 1) (some 24) (.bool true) rfl rfl (by kernel_rfl) (by kernel_rfl) (by kernel_rfl) (fun _ _ _ h => h) rfl (fun W hSw => ?_) (S0) ?_
            · (try dsimp only at hSw); go_simp <;> with_reducible rfl
            try simp only [Act.put, List.setIfInBounds_toArray, List.set_cons_zero, List.set_cons_succ]
            refine any_take (i := 2) (some 25) (.bool true) rfl rfl (by kernel_rfl) (by kernel_rfl) (by kernel_rfl) (fun _ _ _ h => h) rfl (fun W hSw => ?_) (S0) ?_
            · (try dsimp only at hSw); go_simp <;> with_reducible rfl
            try simp only [Act.put, List.setIfInBounds_toArray, List.set_cons_zero, List.set_cons_succ]
            refine any_take (i := 3) (some 26) (.slice (some ⟨b, off, none⟩) l.length c) rfl rfl (by kernel_rfl) (by kernel_rfl) (by kernel_rfl) (fun _ _ _ h => h) rfl (fun W hSw => ?_) (S0) ?_
            · (try dsimp only at hSw); go_simp <;> with_reducible rfl
            try simp only [Act.put, List.setIfInBounds_toArray, List.set_cons_zero, List.set_cons_succ]
            refine any_take (i := 4) (some 27) (.slice (some ⟨g, 0, none⟩) (k + 1) c3) rfl rfl (by kernel_rfl) (by kernel_rfl) (by kernel_rfl) (fun _ _ _ h => h) rfl (fun W hSw => ?_) (S0) ?_
            · (try dsimp only at hSw); go_simp <;> with_reducible rfl
            try simp only [Act.put, List.setIfInBounds_toArray, List.set_cons_zero, List.set_cons_succ]
            refine any_take (i := 5) (some 28) (.int .i64 (j : Int)) rfl rfl (by kernel_rfl) (by kernel_rfl) (by kernel_rfl) (fun _ _ _ h => h) rfl (fun W hSw => ?_) (S0) ?_
            · (try dsimp only at hSw); go_simp <;> with_reducible rfl
            try simp only [Act.put, List.setIfInBounds_toArray, List.set_cons_zero, List.set_cons_succ]
            refine any_take (i := 6) (some 29) (.int .i64 (j2 : Int)) rfl rfl (by kernel_rfl) (by kernel_rfl) (by kernel_rfl) (fun _ _ _ h => h) rfl (fun W hSw => ?_) (S0) ?_
            · (try dsimp only at hSw); go_simp <;> with_reducible rfl
            try simp only [Act.put, List.setIfInBounds_toArray, List.set_cons_zero, List.set_cons_succ]
            refine any_take (i := 7) (some 30) (.pointer (some ⟨g, j2, none⟩)) rfl rfl (by kernel_rfl) (by kernel_rfl) (by kernel_rfl) (fun _ _ _ h => h) rfl (fun W hSw => ?_) (S0) ?_
            · (try dsimp only at hSw); go_simp <;> with_reducible rfl
            try simp only [Act.put, List.setIfInBounds_toArray, List.set_cons_zero, List.set_cons_succ]
            refine any_take (i := 8) (some 31) (.int .i64 (p : Int)) rfl rfl (by kernel_rfl) (by kernel_rfl) (by kernel_rfl) (fun _ _ _ h => h) rfl (fun W hSw => ?_) (S0) ?_
            · (try dsimp only at hSw); go_simp <;> with_reducible rfl
            try simp only [Act.put, List.setIfInBounds_toArray, List.set_cons_zero, List.set_cons_succ]
            refine any_take (i := 9) (some 32) (.pointer (some ⟨b, off + p * 7, none⟩)) rfl rfl (by kernel_rfl) (by kernel_rfl) (by kernel_rfl) (fun _ _ _ h => h) rfl (fun W hSw => ?_) (S0) ?_
            · (try dsimp only at hSw); go_simp <;> with_reducible rfl
            try simp only [Act.put, List.setIfInBounds_toArray, List.set_cons_zero, List.set_cons_succ]
            refine any_take (i := 10) (some 33) (.pointer (some ⟨b, off + p * 7 + 2, none⟩)) rfl rfl (by kernel_rfl) (by kernel_rfl) (by kernel_rfl) (fun _ _ _ h => h) rfl (fun W hSw => ?_) (S0) ?_
            · (try dsimp only at hSw); go_simp <;> with_reducible rfl
            try simp only [Act.put, List.setIfInBounds_toArray, List.set_cons_zero, List.set_cons_succ]
            refine any_take (i := 11) (some 34) (.int .i64 sp) rfl rfl (by kernel_rfl) (by kernel_rfl) (by kernel_rfl) (fun _ _ _ h => h) rfl (fun W hSw => ?_) (S0) ?_
            · (try dsimp only at hSw); go_simp <;> with_reducible rfl
            try simp only [Act.put, List.setIfInBounds_toArray, List.set_cons_zero, List.set_cons_succ]
            refine any_take (i := 12) (some 35) (.slice (some ⟨b, off, none⟩) l.length c) rfl rfl (by kernel_rfl) (by kernel_rfl) (by kernel_rfl) (fun _ _ _ h => h) rfl (fun W hSw => ?_) (S0) ?_
            · (try dsimp only at hSw); go_simp <;> with_reducible rfl
            try simp only [Act.put, List.setIfInBounds_toArray, List.set_cons_zero, List.set_cons_succ]
            refine any_take (i := 13) (some 36) (.slice (some ⟨g, 0, none⟩) (k + 1) c3) rfl rfl (by kernel_rfl) (by kernel_rfl) (by kernel_rfl) (fun _ _ _ h => h) rfl (fun W hSw => ?_) (S0) ?_
            · (try dsimp only at hSw); go_simp <;> with_reducible rfl
            try simp only [Act.put, List.setIfInBounds_toArray, List.set_cons_zero, List.set_cons_succ]
            refine any_take (i := 14) (some 37) (.int .i64 (j : Int)) rfl rfl (by kernel_rfl) (by kernel_rfl) (by kernel_rfl) (fun _ _ _ h => h) rfl (fun W hSw => ?_) (S0) ?_
            · (try dsimp only at hSw); go_simp <;> with_reducible rfl
            try simp only [Act.put, List.setIfInBounds_toArray, List.set_cons_zero, List.set_cons_succ]
            refine any_take (i := 15) (some 38) (.pointer (some ⟨g, j, none⟩)) rfl rfl (by kernel_rfl) (by kernel_rfl) (by kernel_rfl) (fun _ _ _ h => h) rfl (fun W hSw => ?_) (S0) ?_
            · (try dsimp only at hSw); go_simp <;> with_reducible rfl
            try simp only [Act.put, List.setIfInBounds_toArray, List.set_cons_zero, List.set_cons_succ]
            refine any_take (i := 16) (some 39) (.int .i64 (k : Int)) rfl rfl (by kernel_rfl) (by kernel_rfl) (by kernel_rfl) (fun _ _ _ h => h) rfl (fun W hSw => ?_) (S0) ?_
            · (try dsimp only at hSw); go_simp <;> with_reducible rfl
            try simp only [Act.put, List.setIfInBounds_toArray, List.set_cons_zero, List.set_cons_succ]
            refine any_take (i := 17) (some 40) (.pointer (some ⟨b, off + k * 7, none⟩)) rfl rfl (by kernel_rfl) (by kernel_rfl) (by kernel_rfl) (fun _ _ _ h => h) rfl (fun W hSw => ?_) (S0) ?_
            · (try dsimp only at hSw); go_simp <;> with_reducible rfl
            try simp only [Act.put, List.setIfInBounds_toArray, List.set_cons_zero, List.set_cons_succ]
            refine any_take (i := 18) (some 41) (.pointer (some ⟨b, off + k * 7 + 2, none⟩)) rfl rfl (by kernel_rfl) (by kernel_rfl) (by kernel_rfl) (fun _ _ _ h => h) rfl (fun W hSw => ?_) (S0) ?_
            · (try dsimp only at hSw); go_simp <;> with_reducible rfl
            try simp only [Act.put, List.setIfInBounds_toArray, List.set_cons_zero, List.set_cons_succ]
            refine any_take (i := 19) (some 42) (.int .i64 sk) rfl rfl (by kernel_rfl) (by kernel_rfl) (by kernel_rfl) (fun _ _ _ h => h) rfl (fun W hSw => ?_) (S0) ?_
            · (try dsimp only at hSw); go_simp <;> with_reducible rfl
            try simp only [Act.put, List.setIfInBounds_toArray, List.set_cons_zero, List.set_cons_succ]
            refine any_take (i := 20) (some 43) (.bool true) rfl rfl (by kernel_rfl) (by kernel_rfl) (by kernel_rfl) (fun _ _ _ h => h) rfl (fun W hSw => ?_) (S0) ?_
            · (try dsimp only at hSw); go_simp <;> with_reducible rfl
            try simp only [Act.put, List.setIfInBounds_toArray, List.set_cons_zero, List.set_cons_succ]
            refine any_take (i := 21) (some 44) (.bool true) rfl rfl (by kernel_rfl) (by kernel_rfl) (by kernel_rfl) (fun _ _ _ h => h) rfl (fun W hSw => ?_) (S0) ?_
            · (try dsimp only at hSw); go_simp <;> with_reducible rfl
            try simp only [Act.put, List.setIfInBounds_toArray, List.set_cons_zero, List.set_cons_succ]
            refine wpAnyH_done (by kernel_rfl) ?_ _
            have hbreg : Below wz.heap.size wz wz.drew := S0.2
            clear S0
            have HB6 := Lib.hid (HB5.out.trans (hbreg.mono hsz5)); have HO6 := Lib.hid (own_kept HO5.out hbreg)
            skip
            clear hbreg hkd hkp hgd
            have r2 : (wz.setCell ⟨g, j, none⟩ (.int .i64 (p : Int))).cell? ⟨g, j2, none⟩ = some (.int .i64 (p : Int)) := by have h := (HO5.out.stored j (.int .i64 (p : Int))).1.cellAt j2 (by omega); rw [h, List.getElem?_set_ne (by have := HJ2.out; omega)]; exact natV_at (by rw [← HPR.out]; exact ins_at1 pr post p k)
            have fz2 := (HO5.out.stored j (.int .i64 (p : Int))).1.frozenAt j2
            go_wp2_with fail
            go_roundw
            case rel => exact ⟨j2, pr, p :: post, by go_num, HPR.out, by omega, insI_step HI.out (by rw [EK.out, EP.out]; exact hgt), by have h := ((HO6.out.stored j (.int .i64 (p : Int))).1.stored j2 (.int .i64 (k : Int))).1; rw [natV_set, natV_set, ← HJ2.out, ← HPR.out, ins_swap] at h; rw [← HJ2.out, ← HPR.out]; exact h, (HB6.out.setCell (by omega) _).setCell (by omega) _⟩
            case measure => simp [intOf]; have := HJ2.out; omega
          · skip
            have hgd : decide (sk < sp) = false := decide_eq_false hgt
            go_wp2_with fail
            have S0 : (fun W : World => (W.cell? ⟨g, j2, none⟩ = some (.int .i64 (p : Int)) ∧ W.cell? ⟨g, j, none⟩ = some (.int .i64 (k : Int)) ∧ W.cell? ⟨b, off + p * 7 + 2, none⟩ = some (.int .i64 sp) ∧ W.cell? ⟨b, off + k * 7 + 2, none⟩ = some (.int .i64 sk)) ∧ Below wz.heap.size wz W) wz.drew := ⟨⟨r0, r1, hd2, hc2⟩, (Below.refl _ _).drew⟩
            clear r0 r1 hd2 hc2
            refine wp_region_held_drew (S := (fun W : World => (W.cell? ⟨g, j2, none⟩ = some (.int .i64 (p : Int)) ∧ W.cell? ⟨g, j, none⟩ = some (.int .i64 (k : Int)) ∧ W.cell? ⟨b, off + p * 7 + 2, none⟩ = some (.int .i64 sp) ∧ W.cell? ⟨b, off + k * 7 + 2, none⟩ = some (.int .i64 sk)) ∧ Below wz.heap.size wz W)) (by kernel_rfl) S0 (fun _ => ?_)
            refine any_take (i := 0) (some 23) (.int .i64 (j : Int)) rfl rfl (by kernel_rfl) (by kernel_rfl) (by kernel_rfl) (fun _ _ _ h => h) rfl (fun W hSw => ?_) (S0) ?_
            · (try dsimp only at hSw); go_simp <;> with_reducible rfl
            try simp only [Act.put, List.setIfInBounds_toArray, List.set_cons_zero, List.set_cons_succ]
            refine any_take (i := 1) (some 24) (.bool true) rfl rfl (by kernel_rfl) (by kernel_rfl) (by kernel_rfl) (fun _ _ _ h => h) rfl (fun W hSw => ?_) (S0) ?_
            · (try dsimp only at hSw); go_simp <;> with_reducible rfl
            try simp only [Act.put, List.setIfInBounds_toArray, List.set_cons_zero, List.set_cons_succ]
            refine any_take (i := 2) (some 25) (.bool true) rfl rfl (by kernel_rfl) (by kernel_rfl) (by kernel_rfl) (fun _ _ _ h => h) rfl (fun W hSw => ?_) (S0) ?_
            · (try dsimp only at hSw); go_simp <;> with_reducible rfl
            try simp only [Act.put, List.setIfInBounds_toArray, List.set_cons_zero, List.set_cons_succ]
            refine any_take (i := 3) (some 26) (.slice (some ⟨b, off, none⟩) l.length c) rfl rfl (by kernel_rfl) (by kernel_rfl) (by kernel_rfl) (fun _ _ _ h => h) rfl (fun W hSw => ?_) (S0) ?_
            · (try dsimp only at hSw); go_simp <;> with_reducible rfl
            try simp only [Act.put, List.setIfInBounds_toArray, List.set_cons_zero, List.set_cons_succ]
            refine any_take (i := 4) (some 27) (.slice (some ⟨g, 0, none⟩) (k + 1) c3) rfl rfl (by kernel_rfl) (by kernel_rfl) (by kernel_rfl) (fun _ _ _ h => h) rfl (fun W hSw => ?_) (S0) ?_
            · (try dsimp only at hSw); go_simp <;> with_reducible rfl
            try simp only [Act.put, List.setIfInBounds_toArray, List.set_cons_zero, List.set_cons_succ]
            refine any_take (i := 5) (some 28) (.int .i64 (j : Int)) rfl rfl (by kernel_rfl) (by kernel_rfl) (by kernel_rfl) (fun _ _ _ h => h) rfl (fun W hSw => ?_) (S0) ?_
            · (try dsimp only at hSw); go_simp <;> with_reducible rfl
            try simp only [Act.put, List.setIfInBounds_toArray, List.set_cons_zero, List.set_cons_succ]
            refine any_take (i := 6) (some 29) (.int .i64 (j2 : Int)) rfl rfl (by kernel_rfl) (by kernel_rfl) (by kernel_rfl) (fun _ _ _ h => h) rfl (fun W hSw => ?_) (S0) ?_
            · (try dsimp only at hSw); go_simp <;> with_reducible rfl
            try simp only [Act.put, List.setIfInBounds_toArray, List.set_cons_zero, List.set_cons_succ]
            refine any_take (i := 7) (some 30) (.pointer (some ⟨g, j2, none⟩)) rfl rfl (by kernel_rfl) (by kernel_rfl) (by kernel_rfl) (fun _ _ _ h => h) rfl (fun W hSw => ?_) (S0) ?_
            · (try dsimp only at hSw); go_simp <;> with_reducible rfl
            try simp only [Act.put, List.setIfInBounds_toArray, List.set_cons_zero, List.set_cons_succ]
            refine any_take (i := 8) (some 31) (.int .i64 (p : Int)) rfl rfl (by kernel_rfl) (by kernel_rfl) (by kernel_rfl) (fun _ _ _ h => h) rfl (fun W hSw => ?_) (S0) ?_
            · (try dsimp only at hSw); go_simp <;> with_reducible rfl
            try simp only [Act.put, List.setIfInBounds_toArray, List.set_cons_zero, List.set_cons_succ]
            refine any_take (i := 9) (some 32) (.pointer (some ⟨b, off + p * 7, none⟩)) rfl rfl (by kernel_rfl) (by kernel_rfl) (by kernel_rfl) (fun _ _ _ h => h) rfl (fun W hSw => ?_) (S0) ?_
            · (try dsimp only at hSw); go_simp <;> with_reducible rfl
            try simp only [Act.put, List.setIfInBounds_toArray, List.set_cons_zero, List.set_cons_succ]
            refine any_take (i := 10) (some 33) (.pointer (some ⟨b, off + p * 7 + 2, none⟩)) rfl rfl (by kernel_rfl) (by kernel_rfl) (by kernel_rfl) (fun _ _ _ h => h) rfl (fun W hSw => ?_) (S0) ?_
            · (try dsimp only at hSw); go_simp <;> with_reducible rfl
            try simp only [Act.put, List.setIfInBounds_toArray, List.set_cons_zero, List.set_cons_succ]
            refine any_take (i := 11) (some 34) (.int .i64 sp) rfl rfl (by kernel_rfl) (by kernel_rfl) (by kernel_rfl) (fun _ _ _ h => h) rfl (fun W hSw => ?_) (S0) ?_
            · (try dsimp only at hSw); go_simp <;> with_reducible rfl
            try simp only [Act.put, List.setIfInBounds_toArray, List.set_cons_zero, List.set_cons_succ]
            refine any_take (i := 12) (some 35) (.slice (some ⟨b, off, none⟩) l.length c) rfl rfl (by kernel_rfl) (by kernel_rfl) (by kernel_rfl) (fun _ _ _ h => h) rfl (fun W hSw => ?_) (S0) ?_
            · (try dsimp only at hSw); go_simp <;> with_reducible rfl
            try simp only [Act.put, List.setIfInBounds_toArray, List.set_cons_zero, List.set_cons_succ]
            refine any_take (i := 13) (some 36) (.slice (some ⟨g, 0, none⟩) (k + 1) c3) rfl rfl (by kernel_rfl) (by kernel_rfl) (by kernel_rfl) (fun _ _ _ h => h) rfl (fun W hSw => ?_) (S0) ?_
            · (try dsimp only at hSw); go_simp <;> with_reducible rfl
            try simp only [Act.put, List.setIfInBounds_toArray, List.set_cons_zero, List.set_cons_succ]
            refine any_take (i := 14) (some 37) (.int .i64 (j : Int)) rfl rfl (by kernel_rfl) (by kernel_rfl) (by kernel_rfl) (fun _ _ _ h => h) rfl (fun W hSw => ?_) (S0) ?_
            · (try dsimp only at hSw); go_simp <;> with_reducible rfl
            try simp only [Act.put, List.setIfInBounds_toArray, List.set_cons_zero, List.set_cons_succ]
            refine any_take (i := 15) (some 38) (.pointer (some ⟨g, j, none⟩)) rfl rfl (by kernel_rfl) (by kernel_rfl) (by kernel_rfl) (fun _ _ _ h => h) rfl (fun W hSw => ?_) (S0) ?_
            · (try dsimp only at hSw); go_simp <;> with_reducible rfl
            try simp only [Act.put, List.setIfInBounds_toArray, List.set_cons_zero, List.set_cons_succ]
            refine any_take (i := 16) (some 39) (.int .i64 (k : Int)) rfl rfl (by kernel_rfl) (by kernel_rfl) (by kernel_rfl) (fun _ _ _ h => h) rfl (fun W hSw => ?_) (S0) ?_
            · (try dsimp only at hSw); go_simp <;> with_reducible rfl
            try simp only [Act.put, List.setIfInBounds_toArray, List.set_cons_zero, List.set_cons_succ]
            refine any_take (i := 17) (some 40) (.pointer (some ⟨b, off + k * 7, none⟩)) rfl rfl (by kernel_rfl) (by kernel_rfl) (by kernel_rfl) (fun _ _ _ h => h) rfl (fun W hSw => ?_) (S0) ?_
            · (try dsimp only at hSw); go_simp <;> with_reducible rfl
            try simp only [Act.put, List.setIfInBounds_toArray, List.set_cons_zero, List.set_cons_succ]
            refine any_take (i := 18) (some 41) (.pointer (some ⟨b, off + k * 7 + 2, none⟩)) rfl rfl (by kernel_rfl) (by kernel_rfl) (by kernel_rfl) (fun _ _ _ h => h) rfl (fun W hSw => ?_) (S0) ?_
            · (try dsimp only at hSw); go_simp <;> with_reducible rfl
            try simp only [Act.put, List.setIfInBounds_toArray, List.set_cons_zero, List.set_cons_succ]
            refine any_take (i := 19) (some 42) (.int .i64 sk) rfl rfl (by kernel_rfl) (by kernel_rfl) (by kernel_rfl) (fun _ _ _ h => h) rfl (fun W hSw => ?_) (S0) ?_
            · (try dsimp only at hSw); go_simp <;> with_reducible rfl
            try simp only [Act.put, List.setIfInBounds_toArray, List.set_cons_zero, List.set_cons_succ]
            refine any_take (i := 20) (some 43) (.bool false) rfl rfl (by kernel_rfl) (by kernel_rfl) (by kernel_rfl) (fun _ _ _ h => h) rfl (fun W hSw => ?_) (S0) ?_
            · (try dsimp only at hSw); go_simp <;> with_reducible rfl
            try simp only [Act.put, List.setIfInBounds_toArray, List.set_cons_zero, List.set_cons_succ]
            refine any_take (i := 21) (some 44) (.bool false) rfl rfl (by kernel_rfl) (by kernel_rfl) (by kernel_rfl) (fun _ _ _ h => h) rfl (fun W hSw => ?_) (S0) ?_
            · (try dsimp only at hSw); go_simp <;> with_reducible rfl
            try simp only [Act.put, List.setIfInBounds_toArray, List.set_cons_zero, List.set_cons_succ]
            refine wpAnyH_done (by kernel_rfl) ?_ _
            have hbreg : Below wz.heap.size wz wz.drew := S0.2
            clear S0
            have HB6 := Lib.hid (HB5.out.trans (hbreg.mono hsz5)); have HO6 := Lib.hid (own_kept HO5.out hbreg)
            clear hbreg hkd hkp sA hgd
            go_wp2_with fail
            go_roundw
            case rel => exact ⟨k + 1, pr ++ [p] ++ k :: post, by omega, by go_num, by have := (insI_end HI.out (fun q hq => by simp at hq; subst hq; rw [EK.out, EP.out]; omega)).1.length_eq; simpa using this, (insI_end HI.out (fun q hq => by simp at hq; subst hq; rw [EK.out, EP.out]; omega)).1, (insI_end HI.out (fun q hq => by simp at hq; subst hq; rw [EK.out, EP.out]; omega)).2, HO6.out, HB6.out⟩
            case measure => simp [intOf]; omega
    · have hkl : k = l.length := by omega
      subst hkl
      have hLL := order_unique HP.out HSR.out
      obtain ⟨A2, c2, rfl, hor⟩ := or_own HO.out
      have HOR := Lib.hid hor; have HLL := Lib.hid hLL; clear hor HO hLL
      go_wp2
      go_ret
      exact ⟨A2, c2, retv (by rw [orderE_good HQ.out, natI_len, orderN_len]; rfl), by rw [orderE_good HQ.out, ← HLL.out]; exact HOR.out, HB.out⟩
theorem orderS_any (w : World) (B : Nat) (A : Option Addr) (c : Nat) (l : List Ev) (hl : l.length ≤ 1048576) (hB : B ≤ w.heap.size) (hS : evL w B A l) : Calls Try.prog 8 #[.slice A l.length c] w (AnsO (orderE l) w) := by
  cases hq : jrnB l
  · exact orderS_bad w B A c l hl hB hS hq
  · exact orderS_good w B A c l hl hB hS hq
end Go.Proofs.Ytnimdbmcpbpoiaa
