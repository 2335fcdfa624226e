/- Chapter 1: rows of texts, marks on them (out of the texts over rows of numbers, by program). -/
import Derived.Test.YtnacgaghpcbjkaaMkT
import Derived.Test.YtnacgaghpcbjkaaRng
import Derived.Deep.RegionHeld3
import Derived.Deep.DeepMust
import Derived.WalkLawsBesides
import Derived.Deep.DeepCutAuto
import Derived.RegionTactic
import Derived.Deep.RegionWith
namespace Go.Proofs.Ytnacgaghpcbjkaa
open Go.RowKit
set_option linter.unusedVariables false

theorem only_call {a w w' : World} {g : Nat} (h : Only a g w) (hb : Below w.heap.size w w') : Only a g w' := ⟨hb.os.trans h.os, hb.tape.trans h.tape, hb.output.trans h.output, Nat.le_trans h.size hb.size, fun k hk hn => (hb.block k (Nat.lt_of_lt_of_le hk h.size)).trans (h.block k hk hn)⟩
def seqT (n : Nat) : List ByteArray := (List.range n).map fun (j : Nat) => mkT (1 + j)
theorem seqT_len (n : Nat) : (seqT n).length = n := by simp [seqT]
theorem seqT_at {n j : Nat} (h : j < n) : (seqT n)[j]? = some (mkT (1 + j)) := by simp [seqT, h]
/-- a slice of numbers reads as the list, below block B -/
def SL (w : World) (B : Nat) (A : Option Addr) (l : List ByteArray) : Prop :=
  l = [] ∨ ∃ b off, A = some ⟨b, off, none⟩ ∧ b < B ∧ ∀ k x, l[k]? = some x → w.cell? ⟨b, off + k, none⟩ = some (.string x)
theorem SL.below {w w' : World} {B : Nat} {A : Option Addr} {l : List ByteArray} (h : SL w B A l) (hb : Below B w w') : SL w' B A l := by
  rcases h with h | ⟨b, off, rfl, hlt, hc⟩
  · exact .inl h
  · exact .inr ⟨b, off, rfl, hlt, fun k x hx => (hb.cell (p := ⟨b, off + k, none⟩) hlt).trans (hc k x hx)⟩
theorem SL.at_ {w : World} {B : Nat} {A : Option Addr} {l : List ByteArray} (h : SL w B A l) {k : Nat} (hk : k < l.length) :
    ∃ b off x, A = some ⟨b, off, none⟩ ∧ b < B ∧ l[k]? = some x ∧ w.cell? ⟨b, off + k, none⟩ = some (.string x) := by
  rcases h with h | ⟨b, off, rfl, hlt, hc⟩
  · subst h; simp at hk
  · exact ⟨b, off, _, rfl, hlt, List.getElem?_eq_getElem hk, hc k _ (List.getElem?_eq_getElem hk)⟩
theorem SL.later {w w' : World} {B : Nat} {A : Option Addr} {l : List ByteArray} (h : SL w B A l) (hB : B ≤ w.heap.size) (hb : Below w.heap.size w w') : SL w' B A l := h.below (hb.mono hB)
theorem SL.more {w : World} {B B' : Nat} {A : Option Addr} {l : List ByteArray} (h : SL w B A l) (hB : B ≤ B') : SL w B' A l := by
  rcases h with h | ⟨b, off, rfl, hlt, hc⟩
  · exact .inl h
  · exact .inr ⟨b, off, rfl, by omega, hc⟩
def strV (l : List ByteArray) : List Value := l.map (Value.string)
theorem strV_at {l : List ByteArray} {k : Nat} {x : ByteArray} (h : l[k]? = some x) : (strV l)[k]? = some (.string x) := by simp [strV, h]
theorem strV_len (l : List ByteArray) : (strV l).length = l.length := by simp [strV]
theorem OR.sl {l : List ByteArray} {w : World} {base : Nat} {e : TypeId} {A : Option Addr} (h : OR w base e A (strV l)) : SL w w.heap.size A l := by
  rcases h with h | ⟨g, cur, rfl, hb, hh, hc⟩
  · exact .inl (by simpa [strV] using h)
  · exact .inr ⟨g, 0, rfl, has_lt hh, fun k x hx => by rw [Nat.zero_add]; exact has_cell hh k (hc _ _ (strV_at hx))⟩
set_option maxHeartbeats 400000 in
theorem eqStringS_any (w : World) (B B' : Nat) (A A' : Option Addr) (c c' : Nat) (l : List ByteArray) (hl : l.length ≤ maxLen) (hB : B ≤ w.heap.size) (hB' : B' ≤ w.heap.size) (hS : SL w B A l) (hS' : SL w B' A' l) :
    Calls Try.prog 6 #[.slice A l.length c, .slice A' l.length c'] w fun e w' => e = .returned (.bool true) ∧ Below w.heap.size w w' := by
  unfold maxLen at hl
  have e0 : ((l.length : Int) != (l.length : Int)) = false := by simp
  go_enter Try.func6, Try.ntmps6
  go_wp2
  clear e0
  go_loopw [5] (fun i wr => ∃ k : Nat, k ≤ l.length ∧ i = .int .i64 k ∧ Below w.heap.size w wr) (fun i _ => l.length - (intOf i).toNat)
  case atStart => exact ⟨0, Nat.zero_le _, rfl, Below.refl _ _⟩
  case round =>
    obtain ⟨k, hk, rfl, hb⟩ := hrel
    by_cases hlt : k < l.length
    · have hsz := hb.size
      obtain ⟨b, off, x, rfl, hbB, hx, hc0⟩ := (hS.below (hb.mono hB)).at_ hlt
      obtain ⟨b', off', y, rfl, hbB', hy, hd0⟩ := (hS'.below (hb.mono hB')).at_ hlt
      obtain rfl : x = y := by rw [hx] at hy; injection hy
      clear hx hy
      have HS := Lib.hid hS; clear hS
      have HS' := Lib.hid hS'; clear hS'
      go_wp2
      go_quiet (fail)
      go_wp2
      go_roundw
      case rel => exact ⟨k + 1, by omega, by go_num, below_drewN hb _⟩
      case measure => simp [intOf]; omega
    · go_wp2
      go_ret
      exact ⟨rfl, hb⟩

theorem strV_nil {l : List ByteArray} (h : strV l = []) : l = [] := by simpa [strV] using h
theorem strV_of {l : List ByteArray} {cs : Array Value} (h : ∀ j x, j < l.length → l[j]? = some x → cs[j]? = some (.string x)) : ∀ (j : Nat) (u : Value), (strV l)[j]? = some u → cs[j]? = some u := by
  intro j u hu
  have hj : j < l.length := by have := (List.getElem?_eq_some_iff.1 hu).1; rwa [strV_len] at this
  have hx := List.getElem?_eq_getElem hj
  rw [strV_at hx] at hu
  rw [← hu]; exact h j _ hj hx

set_option maxHeartbeats 400000 in
theorem markStr_any (w : World) (base : Nat) (A : Option Addr) (c : Nat) (l : List ByteArray) (hl : l.length ≤ 1048576) (h : OR w base 9 A (strV l)) :
    Calls Try.prog 7 #[.slice A l.length c, .int .i64 1] w fun e w' => e = .returned (.int .i64 (1 + (l.length : Int))) ∧ OR w' base 9 A (strV (seqT l.length)) ∧ Marks w base 9 A (strV l) w' := by
  rcases h with h | ⟨g, cur, rfl, hbg, hH, hc⟩
  · obtain rfl := strV_nil h
    go_enter Try.func7, Try.ntmps7
    go_wp2
    go_loopw [1, 5] (fun kv i wr => i = .int .i64 0 ∧ kv = .int .i64 1 ∧ wr = w) (fun _ i _ => 0)
    case atStart => exact ⟨rfl, rfl, rfl⟩
    case round =>
      obtain ⟨rfl, rfl, rfl⟩ := hrel
      go_wp2
      go_ret
      exact ⟨ret_int (by simp), .inl rfl, .inl ⟨rfl, rfl⟩⟩
  rcases Nat.eq_zero_or_pos l.length with hz | hpos
  · obtain rfl := List.eq_nil_of_length_eq_zero hz
    go_enter Try.func7, Try.ntmps7
    go_wp2
    go_loopw [1, 5] (fun kv i wr => i = .int .i64 0 ∧ kv = .int .i64 1 ∧ wr = w) (fun _ i _ => 0)
    case atStart => exact ⟨rfl, rfl, rfl⟩
    case round =>
      obtain ⟨rfl, rfl, rfl⟩ := hrel
      go_wp2
      go_ret
      exact ⟨ret_int (by simp), .inl rfl, .inl ⟨rfl, rfl⟩⟩
  have hsz : l.length ≤ cur.size := by
    have hx := strV_at (List.getElem?_eq_getElem (show l.length - 1 < l.length by omega))
    have := (Array.getElem?_eq_some_iff.1 (hc _ _ hx)).1
    omega
  have HH0 := Lib.hid hH; clear hH
  have HC := Lib.hid hc; clear hc
  go_enter Try.func7, Try.ntmps7
  go_wp2
  go_loopw [1, 5] (fun kv i wr => ∃ (k : Nat) (cs : Array Value), k ≤ l.length ∧ i = .int .i64 k ∧ kv = .int .i64 (((1 + k : Nat) : Int)) ∧ Has wr g 9 cs ∧ l.length ≤ cs.size ∧ (∀ j : Nat, j < k → cs[j]? = some (.string (mkT (1 + j)))) ∧ Only w g wr) (fun _ i _ => l.length - (intOf i).toNat)
  case atStart => exact ⟨0, cur, Nat.zero_le _, rfl, by simp, HH0.out, hsz, fun j hj => absurd hj (by omega), only_refl _ _⟩
  case round =>
    obtain ⟨k, cs, hk, rfl, rfl, hH, hcs, hg, ho⟩ := hrel
    have HG := Lib.hid hg; clear hg
    by_cases hlt : k < l.length
    · obtain ⟨uc, huc⟩ : ∃ uc, cs[k]? = some uc := ⟨_, Array.getElem?_eq_getElem (by omega)⟩
      have HUC := Lib.hid huc; clear huc
      have HH := Lib.hid hH; clear hH
      have hset : (∀ j : Nat, j < k + 1 → (cs.setIfInBounds k (.string (mkT (1 + k))))[j]? = some (.string (mkT (1 + j)))) := fun j hj => by
        rw [Array.getElem?_setIfInBounds]
        by_cases e : k = j
        · subst e
          rw [if_pos rfl, if_pos (by omega)]
        · rw [if_neg e]; exact HG.out j (by omega)
      have HSET := Lib.hid hset; clear hset
      have HT := Lib.hid (markText_any wr (1 + k) (by omega) (by omega))
      go_wp2_with fail
      refine HT.out.mono ?_
      rintro e w1 ⟨rfl, hb1⟩
      have HH1 := Lib.hid (has_call HH.out hb1)
      have hlg := has_lt HH.out
      have hs0 := has_cell HH1.out k HUC.out
      have hf0 := has_free HH1.out k
      have ho1 := Lib.hid (only_call ho hb1)
      go_wp2
      go_roundw
      case rel => exact ⟨k + 1, _, by omega, by go_num, (by first | rfl | go_num | (congr 1; omega)), has_set HH1.out k _, by simpa using hcs, HSET.out, only_set ho1.out _ _⟩
      case measure => simp [intOf]; omega
    · go_wp2
      go_ret
      have hkl : k = l.length := by omega
      subst hkl
      refine ⟨rfl, .inr ⟨g, cs, rfl, hbg, hH, strV_of fun j x hj hx => ?_⟩, .inr ⟨fun e => ?_, g, cur, rfl, hbg, HH0.out, ho⟩⟩
      · rw [seqT_len] at hj
        rw [seqT_at hj] at hx
        injection hx with hx
        rw [← hx]; exact HG.out j hj
      · have := strV_nil e; rw [this] at hpos; simp at hpos

set_option maxHeartbeats 400000 in
theorem heldStr_any (w : World) (B : Nat) (A : Option Addr) (c n : Nat) (hn : n ≤ 1048576) (hB : B ≤ w.heap.size) (h : SL w B A (seqT n)) :
    Calls Try.prog 8 #[.slice A n c, .int .i64 1] w fun e w' => e = .returned (.int .i64 (1 + (n : Int))) ∧ Below w.heap.size w w' := by
  have HS := Lib.hid h; clear h
  go_enter Try.func8, Try.ntmps8
  go_wp2
  go_loopw [1, 5] (fun kv i wr => ∃ (k : Nat), k ≤ n ∧ i = .int .i64 k ∧ kv = .int .i64 (((1 + k : Nat) : Int)) ∧ Below w.heap.size w wr) (fun _ i _ => n - (intOf i).toNat)
  case atStart => exact ⟨0, Nat.zero_le _, rfl, by simp, Below.refl _ _⟩
  case round =>
    obtain ⟨k, hk, rfl, rfl, hb⟩ := hrel
    by_cases hlt : k < n
    · obtain ⟨b, off, x, rfl, hbB, hx, hc0⟩ := (HS.out.later hB hb).at_ (k := k) (by rw [seqT_len]; exact hlt)
      rw [seqT_at hlt] at hx
      injection hx with hx
      subst hx
      have hk1 : wr.heap.size ≤ wr.heap.size := Nat.le_refl _
      have hsz := hb.size
      have hbw : b < wr.heap.size := by omega
      generalize hT : mkT (1 + k) = T at *
      have HT := Lib.hid hT; clear hT
      have S0 : (fun W : World => W.cell? ⟨b, off + k, none⟩ = some (.string T) ∧ Below wr.heap.size wr W) wr.drew := ⟨hc0, (Below.refl _ _).drew⟩
      clear hc0
      go_upto_region 4 with fail
      go_region_held3 (fun W : World => W.cell? ⟨b, off + k, none⟩ = some (.string T) ∧ Below wr.heap.size wr W) (first | assumption) (first | (go_at_call 10; go_must (refine (markText_any wr.drew (1 + k) (by omega) (by omega)).mono ?_); rintro e wa ⟨rfl, hb6⟩; rw [HT.out]; have hb7 : Below wr.heap.size wr wa := ((Below.refl wr.heap.size wr).drew).trans hb6; clear hb6; have S6 : (fun W : World => W.cell? ⟨b, off + k, none⟩ = some (.string T) ∧ Below wr.heap.size wr W) wa := ⟨(bold hb7 _ _ hbw).trans S0.1, hb7⟩))
      have hb8 := hb.trans (S6.2.mono hsz)
      go_wp2
      go_roundw
      case rel => exact ⟨k + 1, by omega, by go_num, (by first | rfl | go_num | (congr 1; omega)), hb8⟩
      case measure => simp [intOf]; omega
    · go_wp2
      go_ret
      have hkl : k = n := by omega
      subst hkl
      exact ⟨rfl, hb⟩

end Go.Proofs.Ytnacgaghpcbjkaa
