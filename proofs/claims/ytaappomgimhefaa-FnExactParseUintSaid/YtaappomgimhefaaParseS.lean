/- Chapter 1: contract of the model's ParseUint. -/
import Derived.Test.YtaappomgimhefaaParseP
import Derived.WideShapes
namespace Go.Proofs.Ytaappomgimhefaa
open Go.RowKit
set_option linter.unusedVariables false
theorem decR_bd : ∀ (f n : Nat), ∀ x ∈ decR f n, 0 ≤ x ∧ x < 256
  | 0, n, x, h => by cases h
  | f + 1, n, x, h => by
    by_cases h0 : n = 0
    · rw [h0, decR_zero] at h; cases h
    · rw [decR_step f n h0, List.mem_append] at h
      rcases h with h | h
      · exact decR_bd f _ x h
      · simp at h; omega
theorem decN_bd (n : Nat) : ∀ x ∈ decN n, 0 ≤ x ∧ x < 256 := fun x h => by
  unfold decN at h
  by_cases h0 : n = 0
  · rw [if_pos h0] at h; simp at h; omega
  · rw [if_neg h0] at h; exact decR_bd 20 n x h
set_option maxRecDepth 100000 in
set_option maxHeartbeats 1000000 in
theorem parseS_any (w : World) (s : ByteArray) (hs : s.size ≤ maxLen) :
    Calls Try.prog 25 #[.string s] w fun e w' => e = .returned (parseV (bts s)) ∧ Below w.heap.size w w' := by
  unfold maxLen at hs
  by_cases hbig : 10 < s.size
  · go_enter Try.func25, Try.ntmps25
    go_wp2
    go_ret2
    exact ⟨ret_eq (parse_long _ (by rw [bts_len]; exact hbig)).symm, Below.refl _ _⟩
  go_enter Try.func25, Try.ntmps25
  go_wp2
  go_loop [4, 5] (fun nv iv => ∃ k : Nat, k ≤ s.size ∧ iv = .int .i64 k ∧ nv = .int .i64 (numL ((bts s).take k)) ∧ digs ((bts s).take k) = true) (fun _ iv => s.size - (intOf iv).toNat)
  case atStart => exact ⟨0, Nat.zero_le _, rfl, rfl, rfl⟩
  case round =>
    obtain ⟨k, hk, rfl, rfl, hd⟩ := hrel
    have hlen : ((bts s).take k).length = k := by rw [List.length_take, bts_len]; omega
    have h0 := numL_nonneg _ _ hlen hd
    have h1 := num_small _ _ hlen hd
    have h2 : (10 : Int) ^ k ≤ 10000000000 := by
      have h3 : (10 : Int) ^ k ≤ 10 ^ 10 := by exact_mod_cast Nat.pow_le_pow_right (n := 10) (by omega) (show k ≤ 10 by omega)
      have h6 : (10 : Int) ^ 10 = 10000000000 := by decide
      omega
    have h4 : numL ((bts s).take k) < 10000000000 := by omega
    clear h1 h2 hlen
    have HD := Lib.hid hd; clear hd
    by_cases hlt : k < s.size
    · have hat := bts_at hlt
      have htk := take_bts hlt
      obtain ⟨u, hu⟩ : ∃ u, s[k] = u := ⟨_, rfl⟩
      rw [hu] at hat htk
      have hub := byteAt_lt u
      obtain ⟨hb0, hb1⟩ := hub
      have HAT := Lib.hid hat; clear hat
      have hn := numL_snoc ((bts s).take k) (u.toNat : Int)
      rw [← htk] at hn
      have hdg := digs_snoc ((bts s).take k) (u.toNat : Int)
      rw [← htk, HD.out] at hdg
      have HN := Lib.hid hn; have HDG := Lib.hid hdg
      clear hn hdg htk
      generalize numL ((bts s).take k) = q at *
      have hkb : ((k : Int)).toNat = k := by omega
      by_cases c0 : (u.toNat : Int) < 48
      · go_wp2
        go_ret2
        exact ⟨ret_eq (parse_no _ fun h => by have := digs_bad HAT.out (.inl c0); rw [this] at h; cases h.1).symm, Below.refl _ _⟩
      by_cases c1 : 57 < (u.toNat : Int)
      · go_wp2
        go_ret2
        exact ⟨ret_eq (parse_no _ fun h => by have := digs_bad HAT.out (.inr c1); rw [this] at h; cases h.1).symm, Below.refl _ _⟩
      · go_wp2
        go_round
        case rel => exact ⟨k + 1, by omega, by go_num, by rw [HN.out]; go_num, by rw [HDG.out]; simp; omega⟩
        case measure => simp [intOf]; omega
    · have hkk : k = s.size := by omega
      have hall : (bts s).take k = bts s := List.take_of_length_le (by rw [bts_len]; omega)
      rw [hall] at h0 h4 HD ⊢
      clear hall hkk
      have hlen : (bts s).length ≤ 10 := by rw [bts_len]; omega
      by_cases c0 : 1000000000 < numL (bts s)
      · go_wp2
        go_ret2
        exact ⟨ret_eq (parse_no _ fun h => by omega).symm, Below.refl _ _⟩
      · have hot := own_text (bts s) HD.out hlen (by omega)
        obtain ⟨m, hm⟩ := Int.eq_ofNat_of_zero_le h0
        have HM := Lib.hid hm
        have hdm : ∀ x ∈ decN m, 0 ≤ x ∧ x < 256 := decN_bd m
        have hinj := bts_inj (s := s) hdm
        rw [hm, Int.toNat_natCast] at hot
        have hyes : canonB (bts s) = true → parseV (bts s) = .tuple #[.int .i64 (m : Int), .bool true] := fun h => by
          rw [← hm]; exact parse_yes _ ⟨HD.out, h, by omega⟩
        have hno : canonB (bts s) = false → parseV (bts s) = .tuple #[.int .i64 0, .bool false] := fun h => parse_no _ fun g => by rw [h] at g; cases g.2.1
        have hmb : m ≤ 1000000000 := by omega
        rw [hm] at h4 ⊢
        clear hm HM h4 h0 c0 hdm HD
        cases hc : canonB (bts s)
        · have hne : strOfNums (decN m) ≠ s := fun e => by
            have := hot.1 (hinj.1 e)
            rw [hc] at this; cases this
          have HF := Lib.hid (hno hc)
          clear hyes hno hot hinj hc
          obtain ⟨t, ht⟩ : ∃ t, strOfNums (decN m) = t := ⟨_, rfl⟩
          rw [ht] at hne
          have HT := Lib.hid ht; clear ht
          have htl : (t.toList == s.toList) = false := by
            rw [beq_eq_false_iff_ne, ByteArray.toList_eq, ByteArray.toList_eq]
            exact fun e => hne (WideShapes.bytes_inj e)
          clear hne
          go_wp2_with fail
          refine (fmt_any w m (by omega)).mono ?_
          rintro e w1 ⟨rfl, hb1⟩
          rw [HT.out]
          go_wp2_with fail
          go_ret2
          exact ⟨ret_eq HF.out.symm, hb1⟩
        · have heq : strOfNums (decN m) = s := hinj.2 (hot.2 hc)
          have HF := Lib.hid (hyes hc)
          have HE := Lib.hid heq
          clear hyes hno hot hinj hc heq
          go_wp2_with fail
          refine (fmt_any w m (by omega)).mono ?_
          rintro e w1 ⟨rfl, hb1⟩
          rw [HE.out]
          go_wp2_with fail
          go_ret2
          exact ⟨ret_eq HF.out.symm, hb1⟩
end Go.Proofs.Ytaappomgimhefaa
