/- Chapter 2: marking the cells of slices of numbers and of boxes, and reading the marks. -/
import Derived.Test.YtpoiebebnpelhaaBoxI
namespace Go.Proofs.Ytpoiebebnpelhaa
open Go.RowKit
set_option linter.unusedVariables false

theorem intV_nil {l : List Int} (h : intV l = []) : l = [] := by simpa [intV] using h
theorem boxV_nil {l : List Bx} (h : boxV l = []) : l = [] := by
  have := congrArg List.length h
  rw [boxV_len] at this
  exact List.eq_nil_of_length_eq_zero (by simp only [List.length_nil] at this; omega)
theorem intV_of {l : List Int} {cs : Array Value} (h : ∀ j x, j < l.length → l[j]? = some x → cs[j]? = some (.int .i64 x)) : ∀ (j : Nat) (u : Value), (intV l)[j]? = some u → cs[j]? = some u := by
  intro j u hu
  have hj : j < l.length := by have := (List.getElem?_eq_some_iff.1 hu).1; rwa [intV_len] at this
  have hx := List.getElem?_eq_getElem hj
  rw [intV_at hx] at hu
  rw [← hu]; exact h j _ hj hx

set_option maxHeartbeats 400000 in
theorem markInt_any (w : World) (base : Nat) (A : Option Addr) (c : Nat) (l : List Int) (k0 : Int) (hl : l.length ≤ 1048576) (h0 : 0 ≤ k0) (h1 : k0 ≤ 1000000000) (h : OR w base 3 A (intV l)) :
    Calls Try.prog 34 #[.slice A l.length c, .int .i64 k0] w fun e w' => e = .returned (.int .i64 (k0 + (l.length : Int))) ∧ OR w' base 3 A (intV (seqI k0 l.length)) ∧ Marks w base 3 A (intV l) w' := by
  rcases h with h | ⟨g, cur, rfl, hbg, hH, hc⟩
  · obtain rfl := intV_nil h
    go_enter Try.func34, Try.ntmps34
    go_wp2
    go_loopw [1, 5] (fun kv i wr => i = .int .i64 0 ∧ kv = .int .i64 k0 ∧ wr = w) (fun _ i _ => 0)
    case atStart => exact ⟨rfl, rfl, rfl⟩
    case round =>
      obtain ⟨rfl, rfl, rfl⟩ := hrel
      go_wp2
      go_ret
      exact ⟨ret_int (by simp), .inl rfl, .inl ⟨rfl, rfl⟩⟩
  rcases Nat.eq_zero_or_pos l.length with hz | hpos
  · obtain rfl := List.eq_nil_of_length_eq_zero hz
    go_enter Try.func34, Try.ntmps34
    go_wp2
    go_loopw [1, 5] (fun kv i wr => i = .int .i64 0 ∧ kv = .int .i64 k0 ∧ wr = w) (fun _ i _ => 0)
    case atStart => exact ⟨rfl, rfl, rfl⟩
    case round =>
      obtain ⟨rfl, rfl, rfl⟩ := hrel
      go_wp2
      go_ret
      exact ⟨ret_int (by simp), .inl rfl, .inl ⟨rfl, rfl⟩⟩
  have hsz : l.length ≤ cur.size := by
    have hx := intV_at (List.getElem?_eq_getElem (show l.length - 1 < l.length by omega))
    have := (Array.getElem?_eq_some_iff.1 (hc _ _ hx)).1
    omega
  have HH0 := Lib.hid hH; clear hH
  have HC := Lib.hid hc; clear hc
  go_enter Try.func34, Try.ntmps34
  go_wp2
  go_loopw [1, 5] (fun kv i wr => ∃ (k : Nat) (cs : Array Value), k ≤ l.length ∧ i = .int .i64 k ∧ kv = .int .i64 (k0 + k) ∧ Has wr g 3 cs ∧ l.length ≤ cs.size ∧ (∀ j : Nat, j < k → cs[j]? = some (.int .i64 (k0 + j))) ∧ Only w g wr) (fun _ i _ => l.length - (intOf i).toNat)
  case atStart => exact ⟨0, cur, Nat.zero_le _, rfl, by simp, HH0.out, hsz, fun j hj => absurd hj (by omega), only_refl _ _⟩
  case round =>
    obtain ⟨k, cs, hk, rfl, rfl, hH, hcs, hg, ho⟩ := hrel
    have HG := Lib.hid hg; clear hg
    by_cases hlt : k < l.length
    · obtain ⟨uc, huc⟩ : ∃ uc, cs[k]? = some uc := ⟨_, Array.getElem?_eq_getElem (by omega)⟩
      have hs0 := has_cell hH k huc
      clear huc
      have hf0 := has_free hH k
      have HH := Lib.hid hH; clear hH
      have hset : (∀ j : Nat, j < k + 1 → (cs.setIfInBounds k (.int .i64 (k0 + k)))[j]? = some (.int .i64 (k0 + j))) := fun j hj => by
        rw [Array.getElem?_setIfInBounds]
        by_cases e : k = j
        · subst e
          rw [if_pos rfl, if_pos (by omega)]
        · rw [if_neg e]; exact HG.out j (by omega)
      have HSET := Lib.hid hset; clear hset
      go_wp2
      go_roundw
      case rel => exact ⟨k + 1, _, by omega, by go_num, by go_num, has_set HH.out k _, by simpa using hcs, HSET.out, only_set ho _ _⟩
      case measure => simp [intOf]; omega
    · go_wp2
      go_ret
      have hkl : k = l.length := by omega
      subst hkl
      refine ⟨rfl, .inr ⟨g, cs, rfl, hbg, hH, intV_of fun j x hj hx => ?_⟩, .inr ⟨fun e => ?_, g, cur, rfl, hbg, HH0.out, ho⟩⟩
      · rw [seqI_len] at hj
        rw [seqI_at hj] at hx
        injection hx with hx
        rw [← hx]; exact HG.out j hj
      · have := intV_nil e; rw [this] at hpos; simp at hpos

set_option maxHeartbeats 400000 in
theorem heldInt_any (w : World) (B : Nat) (A : Option Addr) (c n : Nat) (k0 : Int) (hn : n ≤ 1048576) (h0 : 0 ≤ k0) (h1 : k0 ≤ 1000000000) (hB : B ≤ w.heap.size) (h : IL w B A (seqI k0 n)) :
    Calls Try.prog 46 #[.slice A n c, .int .i64 k0] w fun e w' => e = .returned (.int .i64 (k0 + (n : Int))) ∧ Below w.heap.size w w' := by
  have HS := Lib.hid h; clear h
  go_enter Try.func46, Try.ntmps46
  go_wp2
  go_loopw [1, 5] (fun kv i wr => ∃ (k : Nat), k ≤ n ∧ i = .int .i64 k ∧ kv = .int .i64 (k0 + k) ∧ Below w.heap.size w wr) (fun _ i _ => n - (intOf i).toNat)
  case atStart => exact ⟨0, Nat.zero_le _, rfl, by simp, Below.refl _ _⟩
  case round =>
    obtain ⟨k, hk, rfl, rfl, hb⟩ := hrel
    by_cases hlt : k < n
    · obtain ⟨b, off, x, rfl, hbB, hx, hc0⟩ := (HS.out.later hB hb).at_ (k := k) (by rw [seqI_len]; exact hlt)
      rw [seqI_at hlt] at hx
      injection hx with hx
      subst hx
      have e0 : ((k0 + (k : Int)) != (k0 + (k : Int))) = false := by simp
      go_wp2
      go_roundw
      case rel => exact ⟨k + 1, by omega, by go_num, by go_num, hb⟩
      case measure => simp [intOf]; omega
    · go_wp2
      go_ret
      have hkl : k = n := by omega
      subst hkl
      exact ⟨rfl, hb⟩

set_option maxHeartbeats 1000000 in
theorem markBox_any (w : World) (base : Nat) (A : Option Addr) (c : Nat) (l : List Bx) (k0 : Int) (hl : l.length ≤ 1048576) (h0 : 0 ≤ k0) (h1 : k0 ≤ 1000000000) (h : OR w base 72 A (boxV l)) :
    Calls Try.prog 35 #[.slice A l.length c, .int .i64 k0] w fun e w' => e = .returned (.int .i64 (k0 + 4 * (l.length : Int))) ∧ OR w' base 72 A (boxV (seqB k0 l.length)) ∧ Marks w base 72 A (boxV l) w' := by
  rcases Nat.eq_zero_or_pos l.length with hz | hpos
  · obtain rfl := List.eq_nil_of_length_eq_zero hz
    go_enter Try.func35, Try.ntmps35
    go_wp2
    go_loopw [1, 5] (fun kv i wr => i = .int .i64 0 ∧ kv = .int .i64 k0 ∧ wr = w) (fun _ i _ => 0)
    case atStart => exact ⟨rfl, rfl, rfl⟩
    case round =>
      obtain ⟨rfl, rfl, rfl⟩ := hrel
      go_wp2
      go_ret
      exact ⟨ret_int (by simp), .inl rfl, .inl ⟨rfl, rfl⟩⟩
  rcases h with h | ⟨g, cur, rfl, hbg, hH, hc⟩
  · obtain rfl := boxV_nil h
    simp at hpos
  have hsz : l.length * 4 ≤ cur.size := by
    have hx := (boxV_at (List.getElem?_eq_getElem (show l.length - 1 < l.length by omega))).2.2.2
    have := (Array.getElem?_eq_some_iff.1 (hc _ _ hx)).1
    omega
  have HH0 := Lib.hid hH
  have HC := Lib.hid hc; clear hc
  go_enter Try.func35, Try.ntmps35
  go_wp2
  go_loopw [1, 5] (fun kv i wr => ∃ (k : Nat) (cs : Array Value), k ≤ l.length ∧ i = .int .i64 k ∧ kv = .int .i64 (k0 + 4 * (k : Int)) ∧ CopiedB wr g cs (seqB k0 l.length) k ∧ Only w g wr) (fun _ i _ => l.length - (intOf i).toNat)
  case atStart => exact ⟨0, cur, Nat.zero_le _, rfl, by simp, ⟨hH, by rw [seqB_len]; exact hsz, fun j x hj => absurd hj (by omega)⟩, only_refl _ _⟩
  case round =>
    obtain ⟨k, cs, hk, rfl, rfl, hcp, ho⟩ := hrel
    by_cases hlt : k < l.length
    · have hx := seqB_at (k := k0) hlt
      obtain ⟨u0, hu0⟩ := hcp.cellAt (j := k * 4) (by rw [seqB_len]; omega)
      obtain ⟨u1, hu1⟩ := hcp.cellAt (j := k * 4 + 1) (by rw [seqB_len]; omega)
      obtain ⟨u2, hu2⟩ := hcp.cellAt (j := k * 4 + 2) (by rw [seqB_len]; omega)
      obtain ⟨u3, hu3⟩ := hcp.cellAt (j := k * 4 + 3) (by rw [seqB_len]; omega)
      have hf0 := has_free hcp.heap (k * 4)
      have hf1 := has_free hcp.heap (k * 4 + 1)
      have hf2 := has_free hcp.heap (k * 4 + 2)
      have hf3 := has_free hcp.heap (k * 4 + 3)
      have hst := hcp.step hx
      dsimp only at hst
      have HST := Lib.hid hst; clear hst hx
      have HCP := Lib.hid hcp; clear hcp
      go_wp2
      go_roundw
      case rel => exact ⟨k + 1, _, by omega, by go_num, by go_num, HST.out, only_set (only_set (only_set (only_set ho _ _) _ _) _ _) _ _⟩
      case measure => simp [intOf]; omega
    · go_wp2
      go_ret
      have hkl : k = l.length := by omega
      subst hkl
      refine ⟨rfl, .inr ⟨g, cs, rfl, hbg, hcp.heap, boxV_of fun j x hj hx => hcp.got j x (by rw [seqB_len] at hj; exact hj) hx⟩, .inr ⟨fun e => ?_, g, cur, rfl, hbg, HH0.out, ho⟩⟩
      have := boxV_nil e; rw [this] at hpos; simp at hpos

set_option maxHeartbeats 1000000 in
theorem heldBox_any (w : World) (B : Nat) (A : Option Addr) (c n : Nat) (k0 : Int) (hn : n ≤ 1048576) (h0 : 0 ≤ k0) (h1 : k0 ≤ 1000000000) (hB : B ≤ w.heap.size) (h : XL w B A (seqB k0 n)) :
    Calls Try.prog 47 #[.slice A n c, .int .i64 k0] w fun e w' => e = .returned (.int .i64 (k0 + 4 * (n : Int))) ∧ Below w.heap.size w w' := by
  have HS := Lib.hid h; clear h
  go_enter Try.func47, Try.ntmps47
  go_wp2
  go_loopw [1, 5] (fun kv i wr => ∃ (k : Nat), k ≤ n ∧ i = .int .i64 k ∧ kv = .int .i64 (k0 + 4 * (k : Int)) ∧ Below w.heap.size w wr) (fun _ i _ => n - (intOf i).toNat)
  case atStart => exact ⟨0, Nat.zero_le _, rfl, by simp, Below.refl _ _⟩
  case round =>
    obtain ⟨k, hk, rfl, rfl, hb⟩ := hrel
    by_cases hlt : k < n
    · obtain ⟨b, off, x, rfl, hbB, hx, hc0, hc1, hc2, hc3⟩ := (HS.out.later hB hb).at_ (k := k) (by rw [seqB_len]; exact hlt)
      rw [seqB_at hlt] at hx
      injection hx with hx
      subst hx
      dsimp only at hc0 hc1 hc2 hc3
      have e0 : ((k0 + 4 * (k : Int)) != (k0 + 4 * (k : Int))) = false := by simp
      have e1 : ((k0 + 4 * (k : Int) + 1) != (k0 + 4 * (k : Int) + 1)) = false := by simp
      have e2 : ((k0 + 4 * (k : Int) + 1 + 1) != (k0 + 4 * (k : Int) + 1 + 1)) = false := by simp
      have e3 : (((k0 + 4 * (k : Int) + 1 + 1 + 1) % 3 == 0) != ((k0 + 4 * (k : Int) + 1 + 1 + 1) % 3 == 0)) = false := by simp
      go_wp2
      go_roundw
      case rel => exact ⟨k + 1, by omega, by go_num, by go_num, hb⟩
      case measure => simp [intOf]; omega
    · go_wp2
      go_ret
      have hkl : k = n := by omega
      subst hkl
      exact ⟨rfl, hb⟩
end Go.Proofs.Ytpoiebebnpelhaa
