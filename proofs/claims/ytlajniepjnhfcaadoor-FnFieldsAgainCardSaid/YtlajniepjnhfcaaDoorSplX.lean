/- Chapter 1: the law FnFieldsAgain: the walk. -/
import Derived.Test.YtlajniepjnhfcaaDoorSplW
import Derived.Test.YtlajniepjnhfcaaDoorSplI
namespace Go.Proofs.YtlajniepjnhfcaaDoor
open Go.RowKit
set_option linter.unusedVariables false

theorem joinL_size : ∀ (p : List ByteArray), (∀ x ∈ p, x.size ≤ 600) → (joinL p).size ≤ 601 * p.length
  | [], _ => Nat.le_refl _
  | x :: r, h => by
    have ih := joinL_size r fun y hy => h y (List.mem_cons_of_mem _ hy)
    have hx := h x List.mem_cons_self
    have hz : (joinL (x :: r)).size = x.size + (1 + (joinL r).size) := by show (x ++ ((⟨#[32]⟩ : ByteArray) ++ joinL r)).size = _; rw [ByteArray.size_append, ByteArray.size_append]; rfl
    rw [hz, List.length_cons]; omega
theorem joinL_app : ∀ (p q : List ByteArray), joinL (p ++ q) = joinL p ++ joinL q
  | [], q => by show joinL q = (⟨#[]⟩ : ByteArray) ++ joinL q; apply ByteArray.ext; simp
  | x :: r, q => by
    show x ++ ((⟨#[32]⟩ : ByteArray) ++ joinL (r ++ q)) = (x ++ ((⟨#[32]⟩ : ByteArray) ++ joinL r)) ++ joinL q
    rw [joinL_app r q]; simp only [ByteArray.append_assoc]
theorem joinL_take {p : List ByteArray} {k : Nat} {x : ByteArray} (h : p[k]? = some x) : joinL (p.take (k + 1)) = joinL (p.take k) ++ x ++ ⟨#[32]⟩ := by
  rw [List.take_add_one, h, joinL_app]
  show _ ++ (x ++ ((⟨#[32]⟩ : ByteArray) ++ joinL [])) = _
  have e : (⟨#[32]⟩ : ByteArray) ++ joinL [] = ⟨#[32]⟩ := rfl
  rw [e, ByteArray.append_assoc]
theorem fldF_size {s : ByteArray} : ∀ (m bg i : Nat), ∀ x ∈ fldF s m bg i, x.size ≤ s.size
  | 0, _, _, x, hx => by cases hx
  | m + 1, bg, i, x, hx => by
    by_cases h : byt s i = 32
    · rw [fldF_space h, List.mem_append] at hx
      rcases hx with hx | hx
      · by_cases h4 : bg < i
        · rw [if_pos h4, List.mem_singleton] at hx
          subst hx
          rw [ByteArray.size_extract]; omega
        · rw [if_neg h4] at hx; cases hx
      · exact fldF_size m _ _ x hx
    · rw [fldF_more h] at hx
      exact fldF_size m _ _ x hx
theorem splV_size {s : ByteArray} : ∀ x ∈ (splV s).1, x.size ≤ 600 := fun x hx => by
  by_cases h : 600 < s.size ∨ BadT s ∨ 24 < (fldT s).length
  · rw [splV_no h] at hx; cases hx
  · rw [splV_yes h] at hx
    have := fldF_size _ _ _ x hx
    omega
theorem splV_none {s : ByteArray} (h : (splV s).2 = false) : (splV s).1 = [] := by
  by_cases hs : 600 < s.size ∨ BadT s ∨ 24 < (fldT s).length
  · rw [splV_no hs]
  · rw [splV_yes hs] at h; cases h
theorem minus3 : strOfNums (decZ (-3)) = ⟨#[45, 51]⟩ := by decide

set_option maxHeartbeats 400000 in
theorem sameT_any (w : World) (B B' : Nat) (A A' : Option Addr) (c c' : Nat) (l : List ByteArray) (hl : l.length ≤ maxLen) (hB : B ≤ w.heap.size) (hB' : B' ≤ w.heap.size) (hS : SL w B A l) (hS' : SL w B' A' l) :
    Calls Tryd.prog 9 #[.slice A l.length c, .slice A' l.length c'] w fun e w' => e = .returned (.bool true) ∧ Below w.heap.size w w' := by
  unfold maxLen at hl
  have e0 : ((l.length : Int) != (l.length : Int)) = false := by simp
  go_enter Tryd.func9, Tryd.ntmps9
  go_wp2
  clear e0
  go_loopw [5] (fun i wr => ∃ k : Nat, k ≤ l.length ∧ i = .int .i64 k ∧ Below w.heap.size w wr) (fun i _ => l.length - (intOf i).toNat)
  case atStart => exact ⟨0, Nat.zero_le _, rfl, Below.refl _ _⟩
  case round =>
    obtain ⟨k, hk, rfl, hb⟩ := hrel
    by_cases hlt : k < l.length
    · have hsz := hb.size
      obtain ⟨b, off, x, rfl, hbB, hx, hc0⟩ := (hS.below (hb.mono hB)).at_ hlt
      obtain ⟨b', off', y, rfl, hbB', hy, hd0⟩ := (hS'.below (hb.mono hB')).at_ hlt
      obtain rfl : x = y := by rw [hx] at hy; injection hy
      clear hx hy
      have HS := Lib.hid hS; clear hS
      have HS' := Lib.hid hS'; clear hS'
      go_wp2
      go_quiet (fail)
      go_wp2
      go_roundw
      case rel => exact ⟨k + 1, by omega, by go_num, below_drewN hb _⟩
      case measure => simp [intOf]; omega
    · go_wp2
      go_ret
      exact ⟨rfl, hb⟩

set_option maxRecDepth 100000 in
set_option maxHeartbeats 2000000 in
theorem again_walk (A : Option Addr) (n c : Nat) (w : World) (hn : n ≤ maxLen) (hS : BS w w.heap.size A n) (hs : 0 < w.heap.size) (ht : Lib.TabIs Tryd.prog w "internal/strconv.uint64pow10" .u64 Lib.pow10Tab) :
    Calls Tryd.prog 3 #[.slice A n c] w fun e w' => e = .returned (.bool true) ∧ Below w.heap.size w w' := by
  have HS := Lib.hid hS; clear hS
  have HT := Lib.hid ht; clear ht
  by_cases hbig : (1048576 : Int) < n
  · have hd : decide ((1048576 : Int) < n) = true := by simpa using hbig
    have Hd := Lib.hid hd; clear hd
    go_enter Tryd.func3, Tryd.ntmps3
    go_wp2_with fail
    refine (big_any w A n c hn).mono ?_
    rintro e w1 ⟨rfl, rfl⟩
    rw [Hd.out]
    go_wp2_with fail
    go_ret
    exact ⟨rfl, Below.refl _ _⟩
  have hd : decide ((1048576 : Int) < n) = false := by simpa using hbig
  have Hd := Lib.hid hd; clear hd
  go_enter Tryd.func3, Tryd.ntmps3
  go_wp2_with fail
  refine (big_any w A n c hn).mono ?_
  rintro e w1 ⟨rfl, rfl⟩
  rw [Hd.out]
  go_wp2_with fail
  refine (drawSpl_any w1 A n c hn HS.out).mono ?_
  rintro e w2 ⟨s, hsz, rfl, hb2⟩
  have hsm : s.size ≤ maxLen := by unfold maxLen; omega
  obtain ⟨⟨l, q⟩, hV⟩ : ∃ V, splV s = V := ⟨_, rfl⟩
  have hl : l.length ≤ 24 := by have := splV_len s; rw [hV] at this; exact this
  have hlm : l.length ≤ maxLen := by unfold maxLen; omega
  have hxs : ∀ x ∈ l, x.size ≤ 600 := by have := splV_size (s := s); rw [hV] at this; exact this
  have hno : q = false → l = [] := fun h => by have := splV_none (s := s); rw [hV] at this; exact this h
  have hag : q = true → (joinL l).size ≤ 600 → splV (joinL l) = (l, q) := fun h1 h2 => by have := spl_again (s := s); rw [hV] at this; exact this h1 h2
  have HV := Lib.hid hV; have HSM := Lib.hid hsm; have HXS := Lib.hid hxs; have HNO := Lib.hid hno; have HAG := Lib.hid hag; clear hV hsm hxs hno hag
  go_wp2_with fail
  refine (splI_any w2 s HSM.out).mono ?_
  rintro e w3 hans
  rw [HV.out] at hans
  obtain ⟨pA, pn, rfl, hP, hb⟩ := hans
  dsimp only at hP ⊢
  have hb3 := bthen hb2 hb
  have hz3 := hb.size
  have HP := Lib.hid hP.sl; clear hP hb
  go_wp2_with fail
  refine (splS_any w3 s HSM.out).mono ?_
  rintro e w4 hans
  rw [HV.out] at hans
  obtain ⟨rA, rn, rfl, hR, hb⟩ := hans
  dsimp only at hR ⊢
  have hb4 := bthen hb3 hb
  have HP4 := Lib.hid (HP.out.below hb); clear hR
  have hz4 := hb.size
  clear hb HP
  cases q
  · obtain rfl := HNO.out rfl
    have ht4 : Lib.TabIs Tryd.prog w4 "internal/strconv.uint64pow10" .u64 Lib.pow10Tab := var?_below hb4 gPow hs HT.out
    have HT4 := Lib.hid ht4; clear ht4
    go_wp2_with fail
    refine (fmtP_all w4 (-3) (by omega) (by omega) HT4.out).mono ?_
    rintro e w5 ⟨rfl, hb5⟩
    rw [minus3]
    go_wp2_with fail
    go_ret
    exact ⟨rfl, bthen hb4 hb5⟩
  · have hj := joinL_size l HXS.out
    go_wp2
    go_loopw [8, 9] (fun sv iv wr => ∃ (k : Nat), k ≤ l.length ∧ iv = .int .i64 (k : Int) ∧ sv = .string (joinL (l.take k)) ∧ wr = w4) (fun _ iv _ => l.length - (intOf iv).toNat)
    case atStart => exact ⟨0, Nat.zero_le _, rfl, rfl, rfl⟩
    case round =>
      obtain ⟨k, hk, rfl, rfl, rfl⟩ := hrel
      by_cases hlt : k < l.length
      · obtain ⟨b, off, x, rfl, hbB, hx, hc0⟩ := HP4.out.at_ hlt
        have hjt := joinL_take hx
        have hxz := HXS.out x (List.mem_of_getElem? hx)
        have hjz := joinL_size (l.take k) fun y hy => HXS.out y (List.mem_of_mem_take hy)
        have hlz : (l.take k).length ≤ 24 := by rw [List.length_take]; omega
        have hz1 : (joinL (l.take k) ++ x).size = (joinL (l.take k)).size + x.size := ByteArray.size_append
        have HJT := Lib.hid hjt; clear hjt hx
        generalize hJ : joinL (l.take k) = J at *
        have HJ := Lib.hid hJ; clear hJ
        go_wp2
        go_roundw
        case rel => exact ⟨k + 1, by omega, by go_num, by rw [HJT.out], by first | rfl | trivial⟩
        case measure => simp [intOf]; omega
      · have hkl : k = l.length := by omega
        subst hkl
        rw [List.take_length]
        have hjm : (joinL l).size ≤ maxLen := by unfold maxLen; omega
        have HJM := Lib.hid hjm; clear hjm
        go_wp2_with fail
        refine (splI_any wr (joinL l) HJM.out).mono ?_
        rintro e w5 ⟨qA, qn, rfl, hQ, hb5⟩
        have hz5 := hb5.size
        by_cases hbg : 600 < (joinL l).size
        · go_wp2_with fail
          go_ret
          exact ⟨rfl, bthen hb4 hb5⟩
        · have hv := HAG.out (by first | rfl | trivial) (by omega)
          rw [hv] at hQ ⊢
          dsimp only at hQ ⊢
          have HP5 := Lib.hid (HP4.out.below (hb5.mono (by omega)))
          go_wp2_with fail
          refine (sameT_any w5 _ _ pA qA pn qn l hlm (by omega) (Nat.le_refl _) HP5.out hQ.sl).mono ?_
          rintro e w6 ⟨rfl, hb6⟩
          go_wp2_with fail
          go_ret
          exact ⟨rfl, bthen (bthen hb4 hb5) hb6⟩
end Go.Proofs.YtlajniepjnhfcaaDoor
