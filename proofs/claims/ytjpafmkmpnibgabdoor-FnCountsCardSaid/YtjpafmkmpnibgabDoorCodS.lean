/- Chapter 3: contract of the model's CodeOf. -/
import Derived.Test.YtjpafmkmpnibgabDoorLckA
import Derived.Test.YtjpafmkmpnibgabDoorFmt
namespace Go.Proofs.YtjpafmkmpnibgabDoor
open Go.RowKit
set_option linter.unusedVariables false

theorem pad_dec : ∀ n f m, m < 10 ^ n → n ≤ f → (decR f m).length ≤ n ∧ List.replicate (n - (decR f m).length) 48 ++ decR f m = lowD n m
  | 0, f, m, hm, _ => by
    have : m = 0 := by simpa using hm
    subst this
    rw [decR_zero]; exact ⟨Nat.le_refl _, rfl⟩
  | n + 1, f, m, hm, hf => by
    obtain ⟨f', rfl⟩ : ∃ f', f = f' + 1 := ⟨f - 1, by omega⟩
    by_cases h0 : m = 0
    · subst h0
      rw [decR_zero]
      exact ⟨Nat.zero_le _, by rw [lowD_zero]; simp⟩
    · have ih := pad_dec n f' (m / 10) (by rw [Nat.pow_succ] at hm; omega) (by omega)
      rw [decR_step f' m h0, lowD_snoc, ← ih.2]
      refine ⟨by simp; omega, ?_⟩
      rw [List.length_append, List.length_singleton, Nat.add_sub_add_right, List.append_assoc]
theorem pad_decN (m : Nat) (hm : m < 1000000) : (decN m).length ≤ 6 ∧ List.replicate (6 - (decN m).length) 48 ++ decN m = lowD 6 m := by
  by_cases h0 : m = 0
  · subst h0; exact ⟨by decide, by decide⟩
  · have := pad_dec 6 20 m (by simpa using hm) (by omega)
    unfold decN
    rw [if_neg h0]
    exact this
def iterX (s c : Int) : Nat → Int
  | 0 => start3 s c
  | n + 1 => mul1 (iterX s c n)
theorem iterX_bd (s c : Int) : ∀ n, 0 ≤ iterX s c n ∧ iterX s c n < 2147483647
  | 0 => start3_bd s c
  | n + 1 => mul1_bd _ (iterX_bd s c n).1
theorem iterX3 (s c : Int) : iterX s c 3 = codeX s c := rfl
theorem codeT_at {s c : Int} (h : secB s = true) (h' : cntB3 c = true) : codeT s c = strOfNums (lowD 6 (iterX s c 3).toNat) := codeT_yes h h'

set_option maxRecDepth 100000 in
set_option maxHeartbeats 2000000 in
theorem codeS_any (w : World) (s c : Int) : Calls Tryd.prog 9 #[.int .i64 s, .int .i64 c] w fun e w' => e = .returned (.string (codeT s c)) ∧ Below w.heap.size w w' := by
  cases h1 : secB s
  · have HK := Lib.hid (codeT_no (s := s) (c := c) fun h => by rw [h1] at h; cases h.1)
    go_enter Tryd.func9, Tryd.ntmps9
    go_wp2_with (refine (secS_any _ _).mono ?_; rintro e w' ⟨rfl, rfl⟩; rw [h1])
    go_ret
    exact ⟨retv3 HK.out, Below.refl _ _⟩
  cases h2 : inR c 0 1000000
  · have HK := Lib.hid (codeT_no (s := s) (c := c) fun h => by have h3 := h.2; rw [show cntB3 c = inR c 0 1000000 from rfl, h2] at h3; cases h3)
    go_enter Tryd.func9, Tryd.ntmps9
    go_wp2_with (first | (go_at_call 24; refine (secS_any _ _).mono ?_; rintro e w' ⟨rfl, rfl⟩; rw [h1]) | (refine (inR_any _ _ _ _).mono ?_; rintro e w' ⟨rfl, rfl⟩; rw [h2]))
    go_ret
    exact ⟨retv3 HK.out, Below.refl _ _⟩
  have HK := Lib.hid (codeT_at h1 (show cntB3 c = true from h2))
  have g1 := secB_iff.1 h1
  have g2 := inR_iff.1 h2
  have hs := start3_bd s c
  unfold start3 at hs
  obtain ⟨a1, a2⟩ := g1
  obtain ⟨b1, b2⟩ := g2
  obtain ⟨d1, d2⟩ := hs
  go_enter Tryd.func9, Tryd.ntmps9
  go_wp2_with (first | (go_at_call 24; refine (secS_any _ _).mono ?_; rintro e w' ⟨rfl, hw⟩; rw [hw, h1]; clear hw) | (refine (inR_any _ _ _ _).mono ?_; rintro e w' ⟨rfl, hw⟩; rw [hw, h2]; clear hw))
  clear h1 h2
  go_loopw [5, 6] (fun xv iv wr => ∃ k : Nat, k ≤ 3 ∧ iv = .int .i64 k ∧ xv = .int .i64 (iterX s c k) ∧ Below w.heap.size w wr) (fun _ iv _ => 3 - (intOf iv).toNat)
  case atStart => exact ⟨0, by omega, rfl, rfl, Below.refl _ _⟩
  case round =>
    obtain ⟨k, hk, rfl, rfl, hb0w⟩ := hrel
    have HBW := Lib.hid hb0w; clear hb0w
    have hb := iterX_bd s c k
    obtain ⟨hb0, hb1⟩ := hb
    by_cases hlt : k < 3
    · have hm := mul1_bd (iterX s c k) hb0
      unfold mul1 at hm
      obtain ⟨hm0, hm1⟩ := hm
      have HS := Lib.hid (show iterX s c (k + 1) = iterX s c k * 48271 % 2147483647 from rfl)
      generalize iterX s c k = x at *
      go_wp2
      go_roundw
      case rel => exact ⟨k + 1, by omega, by go_num, by rw [HS.out], HBW.out⟩
      case measure => simp [intOf]; omega
    · have hk3 : k = 3 := by omega
      subst hk3
      obtain ⟨x, hx⟩ := Int.eq_ofNat_of_zero_le hb0
      rw [hx] at hb1
      have hmod : ((x : Nat) : Int) % 1000000 = ((x % 1000000 : Nat) : Int) := by omega
      have hml : x % 1000000 < 1000000 := by omega
      have hpd := pad_decN (x % 1000000) hml
      rw [lowD_mod] at hpd
      have hf : codeT s c = strOfNums (lowD 6 x) := by rw [HK.out, hx]; rfl
      have HF := Lib.hid hf; have HPD := Lib.hid hpd
      clear hf hpd HK
      rw [hx]
      clear hx
      generalize hy : x % 1000000 = y at *
      have HY := Lib.hid hy; clear hy
      go_wp2_with fail
      refine (fmt_any _ y (by omega)).mono ?_
      rintro e w1 ⟨rfl, hb1⟩
      have HB1 := Lib.hid (bthen HBW.out hb1); clear hb1
      go_wp2
      go_loopw [7] (fun sv wr' => ∃ j : Nat, j + (decN y).length ≤ 6 ∧ sv = .string (strOfNums (List.replicate j 48 ++ decN y)) ∧ Below w.heap.size w wr') (fun sv _ => match sv with | .string t => 6 - t.size | _ => 0)
      case atStart => exact ⟨0, by have := HPD.out.1; omega, rfl, HB1.out⟩
      case round =>
        obtain ⟨j, hj, rfl, hbj⟩ := hrel
        have HBJ := Lib.hid hbj; clear hbj
        have hsz : (strOfNums (List.replicate j 48 ++ decN y)).size = j + (decN y).length := by rw [strOfNums_size]; simp
        have hap := str_append [48] (List.replicate j 48 ++ decN y)
        have hnx : [48] ++ (List.replicate j 48 ++ decN y) = List.replicate (j + 1) 48 ++ decN y := by rw [List.replicate_succ]; rfl
        rw [hnx] at hap
        have hsz2 : (strOfNums (List.replicate (j + 1) 48 ++ decN y)).size = j + 1 + (decN y).length := by rw [strOfNums_size]; simp
        have hs1 : (strOfNums [48]).size = 1 := by rw [strOfNums_size]; rfl
        clear hnx
        obtain ⟨q', hq'⟩ : ∃ q', strOfNums (List.replicate (j + 1) 48 ++ decN y) = q' := ⟨_, rfl⟩
        rw [hq'] at hap hsz2
        have HQ' := Lib.hid hq'; clear hq'
        by_cases hlt6 : j + (decN y).length < 6
        · obtain ⟨q, hq⟩ : ∃ q, strOfNums (List.replicate j 48 ++ decN y) = q := ⟨_, rfl⟩
          rw [hq] at hap hsz ⊢
          clear hq
          have hlen : (strOfNums [48]).size + q.size ≤ 9223372036854775807 := by omega
          have hlt7 : (q.size : Int) < 6 := by omega
          have hap2 : (⟨#[48]⟩ : ByteArray) ++ q = q' := hap
          have HAP := Lib.hid hap2; clear hap2 hap
          have hlen2 : (⟨#[48]⟩ : ByteArray).size + q.size ≤ 9223372036854775807 := hlen
          have HSZ := Lib.hid hsz; have HSZ2 := Lib.hid hsz2; have HS1 := Lib.hid hs1; have HJ := Lib.hid hj; have HL := Lib.hid hlt6
          clear hsz hsz2 hj hlt6
          go_wp2
          go_roundw
          case rel => exact ⟨j + 1, by have := HL.out; omega, by rw [HQ'.out, HAP.out], HBJ.out⟩
          case measure => rw [HAP.out]; show 6 - q'.size < 6 - q.size; rw [HSZ.out, HSZ2.out]; have := HL.out; omega
        · have hj6 : 6 - (decN y).length = j := by omega
          have hfin := HPD.out.2
          rw [hj6] at hfin
          have hres : codeT s c = strOfNums (List.replicate j 48 ++ decN y) := by rw [HF.out, ← hfin]
          have hq6 : (strOfNums (List.replicate j 48 ++ decN y)).size = 6 := by rw [hsz]; omega
          clear hfin hj6 hap hsz hsz2 hs1
          generalize strOfNums (List.replicate j 48 ++ decN y) = q at *
          have HRES := Lib.hid hres; clear hres
          go_wp2
          go_ret
          exact ⟨retv3 HRES.out, HBJ.out⟩
end Go.Proofs.YtjpafmkmpnibgabDoor
