/- Chapter 1: contracts of the two DecodeHex. -/
import Derived.Test.YtaappomgimhefaaHexC
import Derived.Laws.MakeOwn
import Derived.Deep.DeepMust
namespace Go.Proofs.Ytaappomgimhefaa
open Go.RowKit
set_option linter.unusedVariables false
def bt (s : ByteArray) (j : Nat) : Int := ((s.data.toList.getD j 0).toNat : Int)
theorem bt_at {s : ByteArray} {j : Nat} (h : j < s.size) : (s[j].toNat : Int) = bt s j := by
  unfold bt
  have hl : j < s.data.toList.length := by simpa using h
  rw [List.getD_eq_getElem?_getD, List.getElem?_eq_getElem hl]
  simp; rfl
theorem bt_bd (s : ByteArray) (j : Nat) : 0 ≤ bt s j ∧ bt s j < 256 := by
  unfold bt
  have := (s.data.toList.getD j 0).toNat_lt
  omega
def hi (s : ByteArray) (k : Nat) : Int := hv (bt s (2 * k))
def lo (s : ByteArray) (k : Nat) : Int := hv (bt s (2 * k + 1))
def goodP (s : ByteArray) (k : Nat) : Bool := decide (0 ≤ hi s k) && decide (0 ≤ lo s k)
def pairs (s : ByteArray) (n : Nat) : List Int := (List.range n).map fun j => 16 * hi s j + lo s j
def allGood (s : ByteArray) : Bool := (List.range (s.size / 2)).all (goodP s)
def decV (s : ByteArray) : Value := if s.size % 2 = 0 ∧ s.size ≤ 40000 ∧ allGood s = true then .tuple #[.string (strOfNums (pairs s (s.size / 2))), .bool true] else .tuple #[.string ⟨#[]⟩, .bool false]
theorem dec_size (s : ByteArray) (h : s.size % 2 ≠ 0 ∨ 40000 < s.size) : decV s = .tuple #[.string ⟨#[]⟩, .bool false] := if_neg (by omega)
theorem dec_bad (s : ByteArray) (k : Nat) (hk : 2 * k < s.size) (h2 : s.size % 2 = 0) (hb : hi s k < 0 ∨ lo s k < 0) : decV s = .tuple #[.string ⟨#[]⟩, .bool false] := by
  refine if_neg fun h => ?_
  have := List.all_eq_true.1 h.2.2 k (List.mem_range.2 (by omega))
  simp [goodP] at this
  omega
theorem dec_good (s : ByteArray) (h2 : s.size % 2 = 0) (h4 : s.size ≤ 40000) (hg : ∀ j, j < s.size / 2 → goodP s j = true) : decV s = .tuple #[.string (strOfNums (pairs s (s.size / 2))), .bool true] :=
  if_pos ⟨h2, h4, List.all_eq_true.2 fun j hj => hg j (List.mem_range.1 hj)⟩
theorem pairs_succ (s : ByteArray) (n : Nat) : pairs s (n + 1) = pairs s n ++ [16 * hi s n + lo s n] := by simp [pairs, List.range_succ]
theorem good_succ (s : ByteArray) (k : Nat) (h : ∀ j, j < k → goodP s j = true) (h1 : 0 ≤ hi s k) (h2 : 0 ≤ lo s k) : ∀ j, j < k + 1 → goodP s j = true := fun j hj => by
  rcases Nat.lt_or_ge j k with h' | h'
  · exact h j h'
  · have : j = k := by omega
    subst this
    simp [goodP, h1, h2]
theorem row_succ {s : ByteArray} {k : Nat} {w : World} {base : Nat} {v : Value} (h : w.ownsRow base 5 1 v (k + 1) (vals (pairs s k) ++ [.int .u8 (16 * hi s k + lo s k)])) :
    w.ownsRow base 5 1 v (k + 1) (vals (pairs s (k + 1))) := by
  rw [pairs_succ]; simpa [vals] using h
theorem own_below0 {w wr wb w1 : World} {v : Value} {e : TypeId} {size n : Nat} {xs : List Value} (hb : Below w.heap.size w wr) (hown : wr.ownsRow w.heap.size e size v n xs) (hwb : Below wr.heap.size wr wb) (hg : wb.grownBy w1 v.ownBlock) : Below w.heap.size w w1 :=
  (bthen hb hwb).grown hg (Nat.le_trans hb.size hwb.size) (fun k hk => (hown.lt k hk).1)

set_option maxRecDepth 100000 in
set_option maxHeartbeats 1000000 in
theorem decS_any (w : World) (s : ByteArray) (hs : s.size ≤ maxLen) :
    Calls Try.prog 23 #[.string s] w fun e w' => e = .returned (decV s) ∧ Below w.heap.size w w' := by
  unfold maxLen at hs
  by_cases hbig : 40000 < s.size
  · go_enter Try.func23, Try.ntmps23
    go_wp2
    go_ret2
    exact ⟨ret_eq (dec_size s (.inr hbig)).symm, Below.refl _ _⟩
  by_cases hodd : s.size % 2 = 0
  case neg =>
    have ho : (((s.size : Int) % 2) != 0) = true := by simp; omega
    go_enter Try.func23, Try.ntmps23
    go_wp2
    go_ret2
    exact ⟨ret_eq (dec_size s (.inl hodd)).symm, Below.refl _ _⟩
  have ho : (((s.size : Int) % 2) != 0) = false := by simp; omega
  obtain ⟨i0, hi0, hz0, hz1, hz2⟩ := info_parts u8Info
  go_enter Try.func23, Try.ntmps23
  go_wp2
  clear ho
  go_loopw [4, 5] (fun v i wr => ∃ k : Nat, 2 * k ≤ s.size ∧ i = .int .i64 (2 * (k : Int)) ∧ wr.ownsRow w.heap.size 5 1 v k (vals (pairs s k)) ∧ (∀ j, j < k → goodP s j = true) ∧ Below w.heap.size w wr) (fun _ i _ => s.size - (intOf i).toNat)
  case atStart => exact ⟨0, Nat.zero_le _, by simp, by simpa [vals, pairs] using World.ownsRow_lit (base := w.heap.size) (e := 5) (size := 1) w #[] 0 (Nat.le_refl _) (Nat.zero_le _) rfl, fun j hj => absurd hj (by omega), balloc _ _⟩
  case round =>
    obtain ⟨k, hk, rfl, hown, hg, hb⟩ := hrel
    have hsz := hb.size
    have HG := Lib.hid hg; clear hg
    have HOWN := Lib.hid hown
    by_cases hlt : 2 * k < s.size
    · clear hown
      have hb0 := bt_bd s (2 * k)
      have hb1 := bt_bd s (2 * k + 1)
      have hh := hv_bd (bt s (2 * k))
      have hl := hv_bd (bt s (2 * k + 1))
      have e0 : ((2 * (k : Int))).toNat = 2 * k := by omega
      have e1 : ((2 * (k : Int) + 1)).toNat = 2 * k + 1 := by omega
      have c0 : (s[2 * k].toNat : Int) = bt s (2 * k) := bt_at hlt
      have c1 : (s[2 * k + 1].toNat : Int) = bt s (2 * k + 1) := bt_at (by omega)
      go_wp2_with fail
      refine (value_any _ _ hb0.1 hb0.2).mono ?_
      rintro e w1 ⟨rfl, rfl⟩
      rw [show hv (bt s (2 * k)) = hi s k from rfl]
      go_wp2_with fail
      refine (value_any _ _ hb1.1 hb1.2).mono ?_
      rintro e w2 ⟨rfl, rfl⟩
      rw [show hv (bt s (2 * k + 1)) = lo s k from rfl]
      clear c0 c1
      have hh' : -1 ≤ hi s k ∧ hi s k ≤ 15 := hh
      have hl' : -1 ≤ lo s k ∧ lo s k ≤ 15 := hl
      clear hh hl
      obtain ⟨x, hx⟩ : ∃ x, hi s k = x := ⟨_, rfl⟩
      obtain ⟨y, hy⟩ : ∃ y, lo s k = y := ⟨_, rfl⟩
      rw [hx] at hh' ⊢
      rw [hy] at hl' ⊢
      have Hx := Lib.hid hx; clear hx
      have Hy := Lib.hid hy; clear hy
      by_cases hn : x < 0
      · go_wp2_with fail
        go_ret2
        exact ⟨ret_eq (dec_bad s k hlt hodd (.inl (by rw [Hx.out]; exact hn))).symm, hb⟩
      by_cases hm : y < 0
      · go_wp2_with fail
        go_ret2
        exact ⟨ret_eq (dec_bad s k hlt hodd (.inr (by rw [Hy.out]; exact hm))).symm, hb⟩
      obtain ⟨hx0, hx1⟩ := hh'
      obtain ⟨hy0, hy1⟩ := hl'
      go_wp2_with (at_builtin; go_must (refine wpList_append_own _ rfl _ _ 22 rfl w.heap.size 5 i0 (.int .u8 0) 1 1 Try.underlying22 hi0 hz0 hz1 hz2 rfl (by decide) _ _ _ rfl (HOWN.out.alloc _) ⟨w2.heap.size, 0, none⟩ 1 1 [.int .u8 (16 * x + y)] rfl rfl ?c1 ?c2 ?c3 ?c4 ?c5 ?_))
      case c1 => exact World.news_of_block (cs := #[.int .u8 (16 * x + y)]) (heap_alloc_new w2 _)
      case c2 => simp [Value.oneCell']
      case c3 => unfold maxLen; omega
      case c4 => omega
      case c5 => have := hb.size; simp; omega
      intro v' w3 hown1 hgrow _
      go_wp2
      go_roundw
      case rel => exact ⟨k + 1, by omega, by go_num, row_succ (by rw [Hx.out, Hy.out]; exact hown1), good_succ s k HG.out (by rw [Hx.out]; omega) (by rw [Hy.out]; omega), own_below0 hb HOWN.out (balloc _ _) hgrow⟩
      case measure => simp [intOf]; omega
    · have hconv := conv_own hown
      clear hown
      go_wp2
      go_ret2
      have hks : s.size / 2 = k := by omega
      have hf := dec_good s hodd (by omega) (by rw [hks]; exact HG.out)
      rw [hks] at hf
      exact ⟨ret_eq hf.symm, hb⟩
end Go.Proofs.Ytaappomgimhefaa
