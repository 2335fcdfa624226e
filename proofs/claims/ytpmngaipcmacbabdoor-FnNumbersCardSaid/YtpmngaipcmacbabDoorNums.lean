/- Chapter 1: the law FnNumbers: the decimal text of a number is parsed just if the number is in the range. -/
import Derived.Test.YtpmngaipcmacbabDoorFmtD
import Derived.Test.YtpmngaipcmacbabDoorParseI
import Derived.Test.YtpmngaipcmacbabDoorDraw
namespace Go.Proofs.YtpmngaipcmacbabDoor
open Go.RowKit
set_option linter.unusedVariables false

theorem decR_num : ∀ (f n : Nat), n < 10 ^ f → numL (decR f n) = n ∧ digs (decR f n) = true ∧ (decR f n).length ≤ f
  | 0, n, h => by simp at h; subst h; exact ⟨rfl, rfl, Nat.le_refl _⟩
  | f + 1, n, h => by
    by_cases h0 : n = 0
    · subst h0; rw [decR_zero]; exact ⟨rfl, rfl, Nat.zero_le _⟩
    · rw [decR_step f n h0]
      obtain ⟨h1, h2, h3⟩ := decR_num f (n / 10) (by rw [Nat.pow_succ] at h; omega)
      refine ⟨?_, ?_, ?_⟩
      · rw [numL_snoc, h1]; omega
      · rw [digs_snoc, h2]; simp; omega
      · simp; omega
theorem decN_num (n : Nat) (h : n < 10 ^ 20) : numL (decN n) = n ∧ digs (decN n) = true ∧ decN n ≠ [] ∧ (decN n).length ≤ 20 := by
  unfold decN
  by_cases h0 : n = 0
  · rw [if_pos h0, h0]; exact ⟨rfl, rfl, by simp, by simp⟩
  · rw [if_neg h0]
    obtain ⟨h1, h2, h3⟩ := decR_num 20 n h
    exact ⟨h1, h2, fun e => h0 (decR_nil 20 n h e), h3⟩
def inNum (n : Int) : Bool := decide (0 ≤ n) && decide (n ≤ 1000000000)
theorem decZ_len (n : Int) (h : -9223372036854775808 ≤ n) (h1 : n ≤ 9223372036854775807) : 1 ≤ (decZ n).length ∧ (decZ n).length ≤ 21 := by
  obtain ⟨_, _, h4, h5⟩ := decN_num n.natAbs (by omega)
  unfold decZ
  have := List.length_pos_iff.2 h4
  by_cases hn : n < 0
  · rw [if_pos hn]; simp; omega
  · rw [if_neg hn]; omega
theorem decZ_bytes (n : Int) (h : -9223372036854775808 ≤ n) (h1 : n ≤ 9223372036854775807) : ∀ x ∈ decZ n, 0 ≤ x ∧ x < 256 := by
  obtain ⟨_, h3, _, _⟩ := decN_num n.natAbs (by omega)
  intro x hx
  unfold decZ at hx
  by_cases hn : n < 0
  · rw [if_pos hn] at hx
    rcases List.mem_cons.1 hx with rfl | hx
    · omega
    · have := digs_mem h3 x hx; omega
  · rw [if_neg hn] at hx
    have := digs_mem h3 x hx; omega
theorem parse_dec (n : Int) (h : -9223372036854775808 ≤ n) (h1 : n ≤ 9223372036854775807) :
    parseV (bts (strOfNums (decZ n))) = .tuple #[.int .i64 (if inNum n = true then n else 0), .bool (inNum n)] := by
  have hb : bts (strOfNums (decZ n)) = decZ n := ((bts_inj (decZ_bytes n h h1)).1 rfl).symm
  rw [hb]
  obtain ⟨h2, h3, h4, h5⟩ := decN_num n.natAbs (by omega)
  by_cases hn : n < 0
  · have hin : inNum n = false := by simp [inNum]; omega
    rw [hin]
    refine parse_no _ fun g => ?_
    have := digs_mem g.1 45 (by unfold decZ; rw [if_pos hn]; exact List.mem_cons_self)
    omega
  · have hz : decZ n = decN n.natAbs := by unfold decZ; rw [if_neg hn]
    rw [hz]
    by_cases hb : n ≤ 1000000000
    · have hin : inNum n = true := by simp [inNum]; omega
      rw [hin, if_pos rfl, parse_yes _ ⟨h3, (canon_iff _).2 (dec_canon _ (by omega)), by rw [h2]; omega⟩, h2]
      have : ((n.natAbs : Nat) : Int) = n := by omega
      rw [this]
    · have hin : inNum n = false := by simp [inNum]; omega
      rw [hin]
      exact parse_no _ fun g => by have := g.2.2; rw [h2] at this; omega

def DrawnZ (w : World) (e : Ending) (w' : World) : Prop := ∃ x : Int, -9223372036854775808 ≤ x ∧ x ≤ 9223372036854775807 ∧ e = .returned (.int .i64 x) ∧ Below w.heap.size w w'
set_option maxHeartbeats 400000 in
theorem drawFmt_any (w : World) (A : Option Addr) (n c : Nat) (hn : n ≤ maxLen) (hS : BS w w.heap.size A n) :
    Calls Tryd.prog 11 #[.slice A n c] w (DrawnZ w) := by
  have HS := Lib.hid hS; clear hS
  go_enter Tryd.func11, Tryd.ntmps11
  go_wp2_with fail
  refine (new_any w w.heap.size A n c hn (Nat.le_refl _) HS.out).mono ?_
  rintro e w1 ⟨rfl, hC1, hb1⟩
  have HC1 := Lib.hid hC1; clear hC1
  go_wp2_with fail
  refine (once_any w1 _ _ 3 (by omega) (by omega) HC1.out).mono ?_
  rintro e w2 ⟨x, rfl, hC2, ho2⟩
  have HC2 := Lib.hid hC2; clear hC2
  have hb2 := hb1.trans (only_below ho2 HC1.out.lt.1 (Nat.le_refl _))
  cases x
  · go_wp2_with fail
    refine (number_any w2 _ _ HC2.out HC2.out.lt.2).mono ?_
    rintro e w3 ⟨x, hx0, hx1, rfl, hC3, ho3⟩
    have hb3 := hb2.trans (only_below ho3 HC2.out.lt.1 (Nat.le_refl _))
    go_wp2_with fail
    go_ret
    exact ⟨_, hx0, hx1, rfl, hb3⟩
  · go_wp2_with fail
    refine (below_any w2 _ _ 1000000 (by omega) (by omega) HC2.out).mono ?_
    rintro e w3 ⟨x, hx0, hx1, rfl, hC3, ho3⟩
    have HC3 := Lib.hid hC3; clear hC3
    have hb3 := hb2.trans (only_below ho3 HC2.out.lt.1 (Nat.le_refl _))
    go_wp2_with fail
    refine (below_any w3 _ _ 2000000 (by omega) (by omega) HC3.out).mono ?_
    rintro e w4 ⟨y, hy0, hy1, rfl, hC4, ho4⟩
    have hb4 := hb3.trans (only_below ho4 HC3.out.lt.1 (Nat.le_refl _))
    have hm1 : x * (y - 1000000) ≤ 999999 * 1000000 := by
      have h1 : x * (y - 1000000) ≤ x * 1000000 := Int.mul_le_mul_of_nonneg_left (by omega) hx0
      omega
    have hm0 : -(999999 * 1000000) ≤ x * (y - 1000000) := by
      have h1 : x * (-1000000) ≤ x * (y - 1000000) := Int.mul_le_mul_of_nonneg_left (by omega) hx0
      omega
    have hw : wrap64 (x * (y - 1000000)) = x * (y - 1000000) := by
      unfold wrap64; omega
    generalize hp : x * (y - 1000000) = p at *
    go_wp2_with fail
    go_ret
    exact ⟨p, by omega, by omega, rfl, hb4⟩

set_option maxRecDepth 100000 in
set_option maxHeartbeats 1000000 in
theorem nums_walk (A : Option Addr) (n c : Nat) (w : World) (hn : n ≤ maxLen) (hS : BS w w.heap.size A n) (hs : 0 < w.heap.size) (ht : Lib.TabIs Tryd.prog w "internal/strconv.uint64pow10" .u64 Lib.pow10Tab) :
    Calls Tryd.prog 4 #[.slice A n c] w fun e w' => e = .returned (.bool true) ∧ Below w.heap.size w w' := by
  have HS := Lib.hid hS; clear hS
  by_cases hbig : (1048576 : Int) < n
  · have hd : decide ((1048576 : Int) < n) = true := by simpa using hbig
    have Hd := Lib.hid hd; clear hd
    go_enter Tryd.func4, Tryd.ntmps4
    go_wp2_with fail
    refine (big_any w A n c hn).mono ?_
    rintro e w1 ⟨rfl, rfl⟩
    rw [Hd.out]
    go_wp2_with fail
    go_ret
    exact ⟨rfl, Below.refl _ _⟩
  have hd : decide ((1048576 : Int) < n) = false := by simpa using hbig
  have Hd := Lib.hid hd; clear hd
  go_enter Tryd.func4, Tryd.ntmps4
  go_wp2_with fail
  refine (big_any w A n c hn).mono ?_
  rintro e w1 ⟨rfl, rfl⟩
  rw [Hd.out]
  go_wp2_with fail
  refine (drawFmt_any w1 A n c hn HS.out).mono ?_
  rintro e w2 ⟨m, hm0, hm1, rfl, hb2⟩
  have ht2 : Lib.TabIs Tryd.prog w2 "internal/strconv.uint64pow10" .u64 Lib.pow10Tab := var?_below hb2 gPow hs ht
  have HT2 := Lib.hid ht2; clear ht2
  have HT := Lib.hid ht; clear ht
  have hp := parse_dec m hm0 hm1
  have hlen := decZ_len m hm0 hm1
  rw [← strOfNums_size] at hlen
  go_wp2_with fail
  refine (fmtP_all w2 m hm0 hm1 HT2.out).mono ?_
  rintro e w3 ⟨rfl, hb3⟩
  generalize hSS : strOfNums (decZ m) = S at *
  clear hSS
  have HP := Lib.hid hp; clear hp
  obtain ⟨hl1, hl2⟩ := hlen
  have hne : S.toList.isEmpty = false := by
    rw [ByteArray.toList_eq, List.isEmpty_eq_false_iff]
    intro e
    have : S.data.toList.length = 0 := by rw [e]; rfl
    rw [Array.length_toList] at this
    have h0 : S.size = 0 := this
    omega
  have HNE := Lib.hid hne; clear hne
  go_wp2_with fail
  refine (parseI_any w3 S (by unfold maxLen; omega)).mono ?_
  rintro e w4 ⟨rfl, hb4⟩
  rw [HP.out]
  have hb := bthen (bthen hb2 hb3) hb4
  have hne := HNE.out
  by_cases q0 : m < 0
  · have hin : inNum m = false := by simp [inNum]; omega
    rw [hin]
    go_wp2_with fail
    go_ret
    exact ⟨rfl, hb⟩
  by_cases q1 : 1000000000 < m
  · have hin : inNum m = false := by simp [inNum]; omega
    rw [hin]
    go_wp2_with fail
    go_ret
    exact ⟨rfl, hb⟩
  · have hin : inNum m = true := by simp [inNum]; omega
    rw [hin, if_pos rfl]
    have hmm : (m == m) = true := by simp
    go_wp2_with fail
    go_ret
    exact ⟨rfl, hb⟩
end Go.Proofs.YtpmngaipcmacbabDoor
