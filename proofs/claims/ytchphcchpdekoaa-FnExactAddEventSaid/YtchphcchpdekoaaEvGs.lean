/- Chapter 8: what AddEvent asks of a list: the greatest number of a node, the greatest stamp, where a node's events end (gen_evgs.py). -/
import Derived.Test.YtchphcchpdekoaaEvG
import Derived.Test.YtchphcchpdekoaaEvA
namespace Go.Proofs.Ytchphcchpdekoaa
open Go.RowKit
set_option linter.unusedVariables false
theorem jrn_two {l : List Ev} (h : jrnB l = true) {i k : Nat} {x y : Ev} (hik : i < k) (hx : l[i]? = some x) (hy : l[k]? = some y) : x.nod < y.nod ∨ (x.nod = y.nod ∧ x.seq < y.seq ∧ x.stm < y.stm) := by
  obtain ⟨hi, rfl⟩ := List.getElem?_eq_some_iff.1 hx
  obtain ⟨hk, rfl⟩ := List.getElem?_eq_some_iff.1 hy
  exact folB_iff.1 ((List.pairwise_iff_getElem.1 (jrn_pair h)) i k hi hk hik)
theorem seqK_mem (l : List Ev) (nd : Int) : ∀ k, seqK l nd k = 0 ∨ ∃ i x, i < k ∧ l[i]? = some x ∧ x.nod = nd ∧ x.seq = seqK l nd k
  | 0 => .inl (by simp [seqK])
  | k + 1 => by
    cases hx : l[k]? with
    | none =>
      have e : seqK l nd (k + 1) = seqK l nd k := by unfold seqK; rw [List.take_add_one, hx]; simp
      rw [e]
      rcases seqK_mem l nd k with h | ⟨i, x, hi, h⟩
      · exact .inl h
      · exact .inr ⟨i, x, by omega, h⟩
    | some x =>
      by_cases hn : x.nod = nd
      · exact .inr ⟨k, x, by omega, hx, hn, by rw [seqK_succ hx, if_pos hn]⟩
      · rw [seqK_succ hx, if_neg hn]
        rcases seqK_mem l nd k with h | ⟨i, y, hi, h⟩
        · exact .inl h
        · exact .inr ⟨i, y, by omega, h⟩
theorem seqK_lt {l : List Ev} (h : jrnB l = true) {nd : Int} {k : Nat} {x : Ev} (hx : l[k]? = some x) (hn : x.nod = nd) : seqK l nd k < x.seq := by
  rcases seqK_mem l nd k with h0 | ⟨i, y, hi, hy, hyn, hys⟩
  · rw [h0]; have := (evB_facts (jrn_at h hx)).2.1; omega
  · have := jrn_two h hi hy hx; omega
theorem atK_full {l : List Ev} {nd : Int} : ∀ {k : Nat}, k ≤ l.length → (∀ i x, i < k → l[i]? = some x → x.nod ≤ nd) → atK l nd k = k
  | 0, _, _ => rfl
  | k + 1, hk, h => by
    have hx := List.getElem?_eq_getElem (show k < l.length by omega)
    rw [atK_succ hx, if_pos (h k _ (by omega) hx)]
theorem atK_stop {l : List Ev} {nd : Int} {k : Nat} (hk : k ≤ l.length) (h : ∀ i x, i < k → l[i]? = some x → x.nod ≤ nd) (h2 : ∀ i x, k ≤ i → l[i]? = some x → nd < x.nod) : ∀ n, k + n ≤ l.length → atK l nd (k + n) = k
  | 0, _ => atK_full hk h
  | n + 1, hn => by
    have hx := List.getElem?_eq_getElem (show k + n < l.length by omega)
    rw [← Nat.add_assoc, atK_succ hx, if_neg (by have := h2 (k + n) _ (by omega) hx; omega)]
    exact atK_stop hk h h2 n (by omega)
theorem atK_at {l : List Ev} (hj : jrnB l = true) {nd : Int} {k : Nat} {x : Ev} (hx : l[k]? = some x) (h : ∀ i x, i < k → l[i]? = some x → x.nod ≤ nd) (hn : nd < x.nod) : atK l nd l.length = k := by
  have hk := (List.getElem?_eq_some_iff.1 hx).1
  have := atK_stop (nd := nd) (k := k) (by omega) h (fun i y hi hy => by
    rcases Nat.lt_or_ge k i with h1 | h1
    · have := jrn_two hj h1 hx hy; omega
    · have : i = k := by omega
      subst this; rw [hx] at hy; injection hy with hy; subst hy; exact hn) (l.length - k) (by omega)
  rwa [show k + (l.length - k) = l.length by omega] at this

set_option maxRecDepth 100000 in
set_option maxHeartbeats 4000000 in
theorem gSeq_any (w : World) (B : Nat) (A : Option Addr) (c : Nat) (l : List Ev) (nd : Int) (hl : l.length ≤ 1048576) (hB : B ≤ w.heap.size) (hS : evL w B A l) (hq : jrnB l = true) : Calls Try.prog 35 #[.slice A l.length c, .int .i64 nd] w fun e w' => e = .returned (.int .i64 (seqK l nd l.length)) ∧ Below w.heap.size w w' := by
  have HS := Lib.hid hS; have HQ := Lib.hid hq; clear hS hq
  go_enter Try.func35, Try.ntmps35
  go_wp2
  go_loopw [5, 10] (fun v i wr => ∃ k : Nat, k ≤ l.length ∧ v = .int .i64 (seqK l nd k) ∧ i = .int .i64 k ∧ Below w.heap.size w wr) (fun _ i _ => l.length - (intOf i).toNat)
  case atStart => exact ⟨0, Nat.zero_le _, rfl, rfl, Below.refl _ _⟩
  case round =>
    obtain ⟨k, hk, rfl, rfl, hb⟩ := hrel
    have hsz := hb.size
    have HB := Lib.hid hb; clear hb
    by_cases hlt : k < l.length
    · obtain ⟨b, off, ⟨x0, x1, x2, x3, x4, x5, x6⟩, hA, hbB, hx, hc0, hc1, hc2, hc3, hc4, hc5, hc6⟩ := (HS.out.below (HB.out.mono hB)).at_ hlt
      dsimp only at hc0 hc1 hc2 hc3 hc4 hc5 hc6
      have HX := Lib.hid hx; clear hx
      have HSA := Lib.hid hA; clear hA
      have hA := HSA.out; subst hA; clear HSA
      obtain ⟨s, hs⟩ : ∃ s, seqK l nd k = s := ⟨_, rfl⟩
      rw [hs]; have HSK := Lib.hid hs; clear hs
      by_cases hn : x0 = nd
      · have hlt9 := seqK_lt HQ.out HX.out hn; rw [HSK.out] at hlt9; dsimp only at hlt9
        have hmx : max s x1 = x1 := by omega
        have hne : (x0 == nd) = true := by simp [hn]
        have HN := Lib.hid hn; clear hn
        go_wp2_with fail
        go_roundw
        case rel => exact ⟨k + 1, by omega, by rw [seqK_succ HX.out, if_pos HN.out], by go_num, HB.out.alloc hsz _⟩
        case measure => simp [intOf]; omega
      · have hne : (x0 == nd) = false := by simp [hn]
        have HN := Lib.hid hn; clear hn
        go_wp2_with fail
        go_roundw
        case rel => exact ⟨k + 1, by omega, by rw [seqK_succ HX.out, if_neg HN.out, HSK.out], by go_num, HB.out.alloc hsz _⟩
        case measure => simp [intOf]; omega
    · have hkl : k = l.length := by omega
      subst hkl
      go_wp2
      go_ret
      exact ⟨rfl, HB.out⟩
set_option maxRecDepth 100000 in
set_option maxHeartbeats 4000000 in
theorem gStm_any (w : World) (B : Nat) (A : Option Addr) (c : Nat) (l : List Ev) (hl : l.length ≤ 1048576) (hB : B ≤ w.heap.size) (hS : evL w B A l) (hq : jrnB l = true) : Calls Try.prog 36 #[.slice A l.length c] w fun e w' => e = .returned (.int .i64 (stmK l l.length)) ∧ Below w.heap.size w w' := by
  have HS := Lib.hid hS; have HQ := Lib.hid hq; clear hS hq
  go_enter Try.func36, Try.ntmps36
  go_wp2
  go_loopw [3, 8] (fun v i wr => ∃ k : Nat, k ≤ l.length ∧ v = .int .i64 (stmK l k) ∧ i = .int .i64 k ∧ Below w.heap.size w wr) (fun _ i _ => l.length - (intOf i).toNat)
  case atStart => exact ⟨0, Nat.zero_le _, rfl, rfl, Below.refl _ _⟩
  case round =>
    obtain ⟨k, hk, rfl, rfl, hb⟩ := hrel
    have hsz := hb.size
    have HB := Lib.hid hb; clear hb
    by_cases hlt : k < l.length
    · obtain ⟨b, off, ⟨x0, x1, x2, x3, x4, x5, x6⟩, hA, hbB, hx, hc0, hc1, hc2, hc3, hc4, hc5, hc6⟩ := (HS.out.below (HB.out.mono hB)).at_ hlt
      dsimp only at hc0 hc1 hc2 hc3 hc4 hc5 hc6
      have HX := Lib.hid hx; clear hx
      have HSA := Lib.hid hA; clear hA
      have hA := HSA.out; subst hA; clear HSA
      obtain ⟨s, hs⟩ : ∃ s, stmK l k = s := ⟨_, rfl⟩
      rw [hs]; have HSK := Lib.hid hs; clear hs
      obtain ⟨u, hu⟩ : ∃ u, max s x2 = u := ⟨_, rfl⟩
      have HU := Lib.hid hu; clear hu
      go_wp2_with fail
      go_roundw
      case rel => exact ⟨k + 1, by omega, by rw [stmK_succ HX.out, HSK.out]; congr 1; dsimp only; split <;> omega, by go_num, HB.out.alloc hsz _⟩
      case measure => simp [intOf]; omega
    · have hkl : k = l.length := by omega
      subst hkl
      go_wp2
      go_ret
      exact ⟨rfl, HB.out⟩
set_option maxRecDepth 100000 in
set_option maxHeartbeats 1000000 in
theorem endC_any (w : World) (g : Nat) (nd : Int) (x0 x1 x2 x3 x4 x5 x6 : Int) (hg : w.cell? ⟨g, 0, none⟩ = some (.int .i64 nd)) (hgl : g < w.heap.size) : Calls Try.prog 44 #[.agg #[.int .i64 x0, .int .i64 x1, .int .i64 x2, .int .i64 x3, .int .i64 x4, .int .i64 x5, .int .i64 x6], .pointer (some ⟨g, 0, none⟩)] w fun e w' => e = .returned (.bool (decide (nd < x0))) ∧ Below w.heap.size w w' := by
  go_enter Try.func44, Try.ntmps44
  go_wp2
  go_ret
  exact ⟨rfl, balloc _ _⟩
set_option maxRecDepth 100000 in
set_option maxHeartbeats 4000000 in
theorem ixE_any (w : World) (B : Nat) (A : Option Addr) (c : Nat) (l : List Ev) (g : Nat) (nd : Int) (hl : l.length ≤ 1048576) (hB : B ≤ w.heap.size) (hS : evL w B A l) (hq : jrnB l = true) (hg : w.cell? ⟨g, 0, none⟩ = some (.int .i64 nd)) (hgl : g < w.heap.size) : Calls Try.prog 43 #[.slice A l.length c, .func (.func 44) #[] #[.pointer (some ⟨g, 0, none⟩)]] w fun e w' => ((atK l nd l.length = l.length ∧ e = .returned (.int .i64 (-1))) ∨ (atK l nd l.length < l.length ∧ e = .returned (.int .i64 (atK l nd l.length)))) ∧ Below w.heap.size w w' := by
  have HS := Lib.hid hS; have HQ := Lib.hid hq; have HG := Lib.hid hg; clear hS hq hg
  go_enter Try.func43, Try.ntmps43
  go_wp2
  go_loopw [8] (fun i wr => ∃ k : Nat, k ≤ l.length ∧ i = .int .i64 k ∧ (∀ i x, i < k → l[i]? = some x → x.nod ≤ nd) ∧ Below w.heap.size w wr) (fun i _ => l.length - (intOf i).toNat)
  case atStart => exact ⟨0, Nat.zero_le _, rfl, fun i x h => by omega, Below.refl _ _⟩
  case round =>
    obtain ⟨k, hk, rfl, hal, hb⟩ := hrel
    have hsz := hb.size
    have HB := Lib.hid hb; have HAL := Lib.hid hal; clear hb hal
    by_cases hlt : k < l.length
    · obtain ⟨b, off, ⟨x0, x1, x2, x3, x4, x5, x6⟩, hA, hbB, hx, hc0, hc1, hc2, hc3, hc4, hc5, hc6⟩ := (HS.out.below (HB.out.mono hB)).at_ hlt
      dsimp only at hc0 hc1 hc2 hc3 hc4 hc5 hc6
      have HX := Lib.hid hx; clear hx
      have HSA := Lib.hid hA; clear hA
      have hA := HSA.out; subst hA; clear HSA
      have hg9 : wr.cell? ⟨g, 0, none⟩ = some (.int .i64 nd) := (HB.out.cell (p := ⟨g, 0, none⟩) hgl).trans HG.out
      have HG9 := Lib.hid hg9; clear hg9
      have hgl9 : g < wr.heap.size := by omega
      by_cases hn : nd < x0
      · have hd : decide (nd < x0) = true := decide_eq_true hn
        have HD := Lib.hid hd; have HN := Lib.hid hn; clear hd hn
        go_wp2_with (go_at_call 44; refine (endC_any _ g nd x0 x1 x2 x3 x4 x5 x6 HG9.out hgl9).mono ?_; rintro e w2 ⟨rfl, hb2⟩; rw [HD.out]; have HB2 := Lib.hid (HB.out.trans (hb2.mono hsz)); clear hb2)
        go_ret
        have hat := atK_at HQ.out HX.out HAL.out HN.out
        exact ⟨.inr ⟨by rw [hat]; exact hlt, by rw [hat]; rfl⟩, HB2.out⟩
      · have hd : decide (nd < x0) = false := decide_eq_false hn
        have HD := Lib.hid hd; have HN := Lib.hid hn; clear hd hn
        go_wp2_with (go_at_call 44; refine (endC_any _ g nd x0 x1 x2 x3 x4 x5 x6 HG9.out hgl9).mono ?_; rintro e w2 ⟨rfl, hb2⟩; rw [HD.out]; have HB2 := Lib.hid (HB.out.trans (hb2.mono hsz)); clear hb2)
        go_roundw
        case rel => exact ⟨k + 1, by omega, by go_num, fun i y hi hy => by
          rcases Nat.lt_or_ge i k with h1 | h1
          · exact HAL.out i y h1 hy
          · have : i = k := by omega
            subst this; have hx := HX.out; rw [hx] at hy; injection hy with hy; subst hy; have := HN.out; dsimp only; omega, HB2.out⟩
        case measure => simp [intOf]; omega
    · have hkl : k = l.length := by omega
      subst hkl
      go_wp2
      go_ret
      exact ⟨.inl ⟨atK_full (Nat.le_refl _) HAL.out, rfl⟩, HB.out⟩
set_option maxRecDepth 100000 in
set_option maxHeartbeats 4000000 in
theorem endE_any (w : World) (B : Nat) (A : Option Addr) (c : Nat) (l : List Ev) (nd : Int) (hl : l.length ≤ 1048576) (hB : B ≤ w.heap.size) (hS : evL w B A l) (hq : jrnB l = true) : Calls Try.prog 38 #[.slice A l.length c, .int .i64 nd] w fun e w' => e = .returned (.int .i64 (atK l nd l.length)) ∧ Below w.heap.size w w' := by
  have HS := Lib.hid hS; have HQ := Lib.hid hq; clear hS hq
  go_enter Try.func38, Try.ntmps38
  go_wp2_with fail
  refine (ixE_any _ B A c l w.heap.size nd hl (by simp; omega) (HS.out.later hB (balloc _ _)) HQ.out (has_cell (has_new w 3 #[.int .i64 nd]) 0 rfl) (has_lt (has_new w 3 #[.int .i64 nd]))).mono ?_
  rintro e w2 ⟨⟨hat, rfl⟩ | ⟨hat, rfl⟩, hb2⟩
  · have HB2 := Lib.hid (bthen (balloc _ _) hb2); have HAT := Lib.hid hat; clear hb2 hat
    go_wp2
    go_ret
    exact ⟨by rw [HAT.out]; rfl, HB2.out⟩
  · have HB2 := Lib.hid (bthen (balloc _ _) hb2); clear hb2
    obtain ⟨n, hn⟩ : ∃ n, atK l nd l.length = n := ⟨_, rfl⟩
    rw [hn] at hat ⊢
    have HN := Lib.hid hn; clear hn
    have hge : ¬ (n : Int) < 0 := by omega
    go_wp2
    go_ret
    exact ⟨by rw [HN.out]; rfl, HB2.out⟩
end Go.Proofs.Ytchphcchpdekoaa
