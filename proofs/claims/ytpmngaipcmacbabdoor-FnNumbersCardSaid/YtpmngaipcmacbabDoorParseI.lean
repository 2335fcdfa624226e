/- Chapter 1: contract of the program's ParseUint. -/
import Derived.Test.YtpmngaipcmacbabDoorParseS
namespace Go.Proofs.YtpmngaipcmacbabDoor
open Go.RowKit
set_option linter.unusedVariables false
theorem digs_take_bad {l : List Int} {k : Nat} {x : Int} (h : l[k]? = some x) (hx : x < 48 ∨ 57 < x) : ¬ (digs l = true ∧ canonB l = true ∧ numL l ≤ 1000000000) := fun g => by
  rw [digs_bad h hx] at g; cases g.1
set_option maxRecDepth 100000 in
set_option maxHeartbeats 1000000 in
theorem parseI_any (w : World) (s : ByteArray) (hs : s.size ≤ maxLen) :
    Calls Tryd.prog 12 #[.string s] w fun e w' => e = .returned (parseV (bts s)) ∧ Below w.heap.size w w' := by
  unfold maxLen at hs
  rcases Nat.eq_zero_or_pos s.size with h0 | h0
  · have hnil : s.toList = [] := by rw [ByteArray.toList_eq]; exact List.eq_nil_of_length_eq_zero (by simpa using h0)
    have hb : bts s = [] := List.eq_nil_of_length_eq_zero (by rw [bts_len]; exact h0)
    have hp : parseV (bts s) = .tuple #[.int .i64 0, .bool false] := by rw [hb]; rfl
    have HP := Lib.hid hp; clear hp hb
    go_enter Tryd.func12, Tryd.ntmps12
    go_wp2
    go_ret2
    exact ⟨ret_eq HP.out.symm, Below.refl _ _⟩
  have hlist : ∃ a r, s.data.toList = a :: r := by
    cases hh : s.data.toList
    · have h1 : s.data.toList.length = s.size := by simp
      rw [hh] at h1; simp at h1; omega
    · exact ⟨_, _, rfl⟩
  obtain ⟨u0, r0, hl⟩ := hlist
  have hne : (s.toList == []) = false := by rw [beq_eq_false_iff_ne, ByteArray.toList_eq, hl]; simp
  have hne2 : s.toList.isEmpty = false := by rw [ByteArray.toList_eq, hl]; rfl
  have hb : bts s = (u0.toNat : Int) :: r0.map fun u => (u.toNat : Int) := by unfold bts; rw [hl]; rfl
  have hat : s[0] = u0 := by
    have h1 : s.data.toList[0]? = some u0 := by rw [hl]; rfl
    have h2 : (bts s)[0]? = some ((s[0].toNat : Int)) := bts_at h0
    rw [hb] at h2
    have h3 : (u0.toNat : Int) = (s[0].toNat : Int) := by injection h2
    exact (UInt8.toNat_inj.1 (by omega)).symm
  by_cases hu48 : (u0.toNat : Int) = 48
  · have hu0 : u0 = 48 := UInt8.toNat_inj.1 (by show u0.toNat = 48; omega)
    have h48 : ((u0.toNat : Int) == 48) = true := by simp [hu48]
    cases r0 with
    | nil =>
      have h0l : (s.toList == [48]) = true := by rw [beq_iff_eq, ByteArray.toList_eq, hl, hu0]
      have hc : canonB (bts s) = true := by rw [hb]; rfl
      have HC := Lib.hid hc; clear hc hb hl hu0 hu48
      go_enter Tryd.func12, Tryd.ntmps12
      go_wp2
      clear hne hne2 hat h48 h0l
      go_loopw [4] (fun nv wr => ∃ k : Nat, k ≤ s.size ∧ wr = w.iter s k ∧ nv = .int .i64 (numL ((bts s).take k)) ∧ digs ((bts s).take k) = true ∧ numL ((bts s).take k) ≤ 1000000000) (fun _ wr => s.size - wr.iterPos w.heap.size)
      case atStart => exact ⟨0, Nat.zero_le _, rfl, rfl, rfl, by show (0 : Int) ≤ 1000000000; omega⟩
      case round =>
        obtain ⟨k, hk, rfl, rfl, hd, hq9⟩ := hrel
        have hlen : ((bts s).take k).length = k := by rw [List.length_take, bts_len]; omega
        have hq0 := numL_nonneg _ _ hlen hd
        clear hlen
        have HD := Lib.hid hd; clear hd
        by_cases hlt : k < s.size
        · have hat := bts_at hlt
          have htk := take_bts hlt
          obtain ⟨u, hu⟩ : ∃ u, s[k] = u := ⟨_, rfl⟩
          rw [hu] at hat htk
          have hub := byteAt_lt u
          obtain ⟨hb0, hb1⟩ := hub
          have HAT := Lib.hid hat; clear hat
          have hn := numL_snoc ((bts s).take k) (u.toNat : Int)
          rw [← htk] at hn
          have hdg := digs_snoc ((bts s).take k) (u.toNat : Int)
          rw [← htk, HD.out] at hdg
          have htake := num_take (bts s)
          have HN := Lib.hid hn; have HDG := Lib.hid hdg; have HTK := Lib.hid htake
          clear hn hdg htk htake
          generalize numL ((bts s).take k) = q at *
          by_cases ha : u.toNat < 128
          · have hnx : ∀ ty, (Instr.next (.pointer (some ⟨w.heap.size, 0, none⟩)) true ty).run Tryd.prog (w.iter s k) = .ok (.tuple #[.bool true, .int .i64 k, .int .i32 u.toNat]) (w.iter s (k + 1)) := fun ty => by
              have := run_next_ascii (P := Tryd.prog) w s k ty hlt (by rw [hu]; exact ha)
              rw [hu] at this
              exact this
            clear hu
            by_cases c0 : (u.toNat : Int) < 48
            · go_wp2
              go_ret2
              exact ⟨ret_eq (parse_no _ (digs_take_bad HAT.out (.inl c0))).symm, balloc _ _⟩
            by_cases c1 : 57 < (u.toNat : Int)
            · go_wp2
              go_ret2
              exact ⟨ret_eq (parse_no _ (digs_take_bad HAT.out (.inr c1))).symm, balloc _ _⟩
            have hdig : digs ((bts s).take (k + 1)) = true := by rw [HDG.out]; simp; omega
            have HDIG := Lib.hid hdig; clear hdig
            by_cases c2 : 1000000000 < q * 10 + ((u.toNat : Int) - 48)
            · go_wp2
              go_ret2
              exact ⟨ret_eq (parse_no _ fun g => by have := HTK.out g.1 (k + 1); rw [HN.out] at this; omega).symm, balloc _ _⟩
            · go_wp2
              go_roundw
              case rel => exact ⟨k + 1, by omega, rfl, by rw [HN.out], HDIG.out, by rw [HN.out]; omega⟩
              case measure => simp; omega
          · have hhigh := decode_high s k hlt (by rw [hu]; omega)
            have hle := decode_le s k
            have hnx : ∀ ty, (Instr.next (.pointer (some ⟨w.heap.size, 0, none⟩)) true ty).run Tryd.prog (w.iter s k) = _ := fun ty => run_next_any w s k ty hlt
            generalize (Utf8.decode s k).1 = r at *
            generalize (Utf8.decode s k).2 = z at *
            clear hu
            obtain ⟨hh1, hh2⟩ := hhigh
            have c1 : 57 < (r : Int) := by omega
            have c0 : ¬ (r : Int) < 48 := by omega
            go_wp2
            go_ret2
            exact ⟨ret_eq (parse_no _ (digs_take_bad HAT.out (.inr (by omega)))).symm, balloc _ _⟩
        · have hnx : ∀ ty, (Instr.next (.pointer (some ⟨w.heap.size, 0, none⟩)) true ty).run Tryd.prog (w.iter s k) = _ := fun ty => run_next_end w s k ty hlt
          have hall : (bts s).take k = bts s := List.take_of_length_le (by rw [bts_len]; omega)
          rw [hall] at hq9 HD ⊢
          clear hall
          go_wp2
          go_ret2
          exact ⟨ret_eq (parse_yes _ ⟨HD.out, HC.out, hq9⟩).symm, balloc _ _⟩
    | cons a r =>
      have h0l : (s.toList == [48]) = false := by rw [beq_eq_false_iff_ne, ByteArray.toList_eq, hl]; simp
      have hp : parseV (bts s) = .tuple #[.int .i64 0, .bool false] := parse_no _ fun g => by
        rw [hb] at g
        have := g.2.1
        simp [canonB, hu48] at this
      have HP := Lib.hid hp; clear hp hb hl hu0 hu48
      go_enter Tryd.func12, Tryd.ntmps12
      go_wp2
      go_ret2
      exact ⟨ret_eq HP.out.symm, Below.refl _ _⟩
  · have h48 : ((u0.toNat : Int) == 48) = false := by simp [hu48]
    have hc : canonB (bts s) = true := by
      rw [hb]
      cases r0 with
      | nil => rfl
      | cons a r => simp [canonB, hu48]
    have HC := Lib.hid hc; clear hc hb hl hu48
    go_enter Tryd.func12, Tryd.ntmps12
    go_wp2
    clear hne hne2 hat h48
    go_loopw [4] (fun nv wr => ∃ k : Nat, k ≤ s.size ∧ wr = w.iter s k ∧ nv = .int .i64 (numL ((bts s).take k)) ∧ digs ((bts s).take k) = true ∧ numL ((bts s).take k) ≤ 1000000000) (fun _ wr => s.size - wr.iterPos w.heap.size)
    case atStart => exact ⟨0, Nat.zero_le _, rfl, rfl, rfl, by show (0 : Int) ≤ 1000000000; omega⟩
    case round =>
      obtain ⟨k, hk, rfl, rfl, hd, hq9⟩ := hrel
      have hlen : ((bts s).take k).length = k := by rw [List.length_take, bts_len]; omega
      have hq0 := numL_nonneg _ _ hlen hd
      clear hlen
      have HD := Lib.hid hd; clear hd
      by_cases hlt : k < s.size
      · have hat := bts_at hlt
        have htk := take_bts hlt
        obtain ⟨u, hu⟩ : ∃ u, s[k] = u := ⟨_, rfl⟩
        rw [hu] at hat htk
        have hub := byteAt_lt u
        obtain ⟨hb0, hb1⟩ := hub
        have HAT := Lib.hid hat; clear hat
        have hn := numL_snoc ((bts s).take k) (u.toNat : Int)
        rw [← htk] at hn
        have hdg := digs_snoc ((bts s).take k) (u.toNat : Int)
        rw [← htk, HD.out] at hdg
        have htake := num_take (bts s)
        have HN := Lib.hid hn; have HDG := Lib.hid hdg; have HTK := Lib.hid htake
        clear hn hdg htk htake
        generalize numL ((bts s).take k) = q at *
        by_cases ha : u.toNat < 128
        · have hnx : ∀ ty, (Instr.next (.pointer (some ⟨w.heap.size, 0, none⟩)) true ty).run Tryd.prog (w.iter s k) = .ok (.tuple #[.bool true, .int .i64 k, .int .i32 u.toNat]) (w.iter s (k + 1)) := fun ty => by
            have := run_next_ascii (P := Tryd.prog) w s k ty hlt (by rw [hu]; exact ha)
            rw [hu] at this
            exact this
          clear hu
          by_cases c0 : (u.toNat : Int) < 48
          · go_wp2
            go_ret2
            exact ⟨ret_eq (parse_no _ (digs_take_bad HAT.out (.inl c0))).symm, balloc _ _⟩
          by_cases c1 : 57 < (u.toNat : Int)
          · go_wp2
            go_ret2
            exact ⟨ret_eq (parse_no _ (digs_take_bad HAT.out (.inr c1))).symm, balloc _ _⟩
          have hdig : digs ((bts s).take (k + 1)) = true := by rw [HDG.out]; simp; omega
          have HDIG := Lib.hid hdig; clear hdig
          by_cases c2 : 1000000000 < q * 10 + ((u.toNat : Int) - 48)
          · go_wp2
            go_ret2
            exact ⟨ret_eq (parse_no _ fun g => by have := HTK.out g.1 (k + 1); rw [HN.out] at this; omega).symm, balloc _ _⟩
          · go_wp2
            go_roundw
            case rel => exact ⟨k + 1, by omega, rfl, by rw [HN.out], HDIG.out, by rw [HN.out]; omega⟩
            case measure => simp; omega
        · have hhigh := decode_high s k hlt (by rw [hu]; omega)
          have hle := decode_le s k
          have hnx : ∀ ty, (Instr.next (.pointer (some ⟨w.heap.size, 0, none⟩)) true ty).run Tryd.prog (w.iter s k) = _ := fun ty => run_next_any w s k ty hlt
          generalize (Utf8.decode s k).1 = r at *
          generalize (Utf8.decode s k).2 = z at *
          clear hu
          obtain ⟨hh1, hh2⟩ := hhigh
          have c1 : 57 < (r : Int) := by omega
          have c0 : ¬ (r : Int) < 48 := by omega
          go_wp2
          go_ret2
          exact ⟨ret_eq (parse_no _ (digs_take_bad HAT.out (.inr (by omega)))).symm, balloc _ _⟩
      · have hnx : ∀ ty, (Instr.next (.pointer (some ⟨w.heap.size, 0, none⟩)) true ty).run Tryd.prog (w.iter s k) = _ := fun ty => run_next_end w s k ty hlt
        have hall : (bts s).take k = bts s := List.take_of_length_le (by rw [bts_len]; omega)
        rw [hall] at hq9 HD ⊢
        clear hall
        go_wp2
        go_ret2
        exact ⟨ret_eq (parse_yes _ ⟨HD.out, HC.out, hq9⟩).symm, balloc _ _⟩
end Go.Proofs.YtpmngaipcmacbabDoor
