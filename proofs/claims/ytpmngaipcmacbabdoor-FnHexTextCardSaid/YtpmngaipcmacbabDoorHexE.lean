/- Chapter 1: contract of the program's DecodeHex. -/
import Derived.Test.YtpmngaipcmacbabDoorHexD
import Derived.Deep.RegionHeld3
namespace Go.Proofs.YtpmngaipcmacbabDoor
open Go.RowKit
set_option linter.unusedVariables false
theorem own_keep {w w' : World} {base : Nat} {e : TypeId} {size n : Nat} {v : Value} {xs : List Value} (h : w.ownsRow base e size v n xs) (hb : Below w.heap.size w w') : w'.ownsRow base e size v n xs :=
  h.kept (row := none) ⟨hb.os, hb.tape, hb.output, hb.size, fun k hk _ => hb.block k hk⟩ (by cases v.ownBlock <;> simp)

set_option maxRecDepth 100000 in
set_option maxHeartbeats 1000000 in
theorem decI_any (w : World) (s : ByteArray) (hs : s.size ≤ maxLen) :
    Calls Tryd.prog 10 #[.string s] w fun e w' => e = .returned (decV s) ∧ Below w.heap.size w w' := by
  unfold maxLen at hs
  by_cases hodd : s.size % 2 = 0
  case neg =>
    have ho : (((s.size : Int) % 2) != 0) = true := by simp; omega
    go_enter Tryd.func10, Tryd.ntmps10
    go_wp2
    go_ret2
    exact ⟨ret_eq (dec_size s (.inl hodd)).symm, Below.refl _ _⟩
  have ho : (((s.size : Int) % 2) != 0) = false := by simp; omega
  by_cases hbig : 40000 < s.size
  · have hdiv : (20000 : Int) < (s.size : Int) / 2 := by omega
    go_enter Tryd.func10, Tryd.ntmps10
    go_wp2
    go_ret2
    exact ⟨ret_eq (dec_size s (.inr hbig)).symm, Below.refl _ _⟩
  obtain ⟨i0, hi0, hz0, hz1, hz2⟩ := info_parts u8Info
  have hdiv : ¬ (20000 : Int) < (s.size : Int) / 2 := by omega
  have hmk : ∀ W : World, (Instr.makeSlice 22 (.int .i64 0) (.int .i64 ((s.size : Int) / 2))).run Tryd.prog W = .ok (.slice (some ⟨W.heap.size, 0, none⟩) 0 (s.size / 2)) (W.alloc (.cells (madeCells #[.int .u8 0] (s.size / 2)) 5)) := by
    intro W
    have := run_make (P := Tryd.prog) W 22 5 i0 _ Tryd.underlying22 hi0 hz0 .i64 .i64 0 ((s.size : Int) / 2) (by omega) (by omega) (by rw [hz2]; omega) (by omega)
    have e : ((s.size : Int) / 2).toNat = s.size / 2 := by omega
    simpa [hz1, Value.cells, e] using this
  go_enter Tryd.func10, Tryd.ntmps10
  go_wp2
  clear ho hmk
  go_loopw [4, 5] (fun v i wr => ∃ k : Nat, 2 * k ≤ s.size ∧ i = .int .i64 (2 * (k : Int)) ∧ wr.ownsRow w.heap.size 5 1 v k (vals (pairs s k)) ∧ (∀ j, j < k → goodP s j = true) ∧ Below w.heap.size w wr) (fun _ i _ => s.size - (intOf i).toNat)
  case atStart => exact ⟨0, Nat.zero_le _, by simp, by simpa [vals, pairs] using World.ownsRow_made (base := w.heap.size) (e := 5) (size := 1) w (madeCells #[.int .u8 0] (s.size / 2)) (s.size / 2) (Nat.le_refl _) (by unfold maxLen; omega) (by simp [size_madeCells]), fun j hj => absurd hj (by omega), balloc _ _⟩
  case round =>
    obtain ⟨k, hk, rfl, hown, hg, hb⟩ := hrel
    have hsz := hb.size
    have HG := Lib.hid hg; clear hg
    have HOWN := Lib.hid hown
    by_cases hlt : 2 * k < s.size
    · clear hown
      have hb0 := bt_bd s (2 * k)
      have hb1 := bt_bd s (2 * k + 1)
      have hh : -1 ≤ hi s k ∧ hi s k ≤ 15 := hv_bd (bt s (2 * k))
      have hl : -1 ≤ lo s k ∧ lo s k ≤ 15 := hv_bd (bt s (2 * k + 1))
      have e0 : ((2 * (k : Int))).toNat = 2 * k := by omega
      have e1 : ((2 * (k : Int) + 1)).toNat = 2 * k + 1 := by omega
      have c0 : (s[2 * k].toNat : Int) = bt s (2 * k) := bt_at hlt
      have c1 : (s[2 * k + 1].toNat : Int) = bt s (2 * k + 1) := bt_at (by omega)
      have q1 : IntKind.i64.wrap (2 * (k : Int) + 1) = 2 * (k : Int) + 1 := IntWalk.i64_in _ (by omega)
      have p0 : 0 ≤ 2 * (k : Int) + 1 := by omega
      obtain ⟨x, hx⟩ : ∃ x, hi s k = x := ⟨_, rfl⟩
      obtain ⟨y, hy⟩ : ∃ y, lo s k = y := ⟨_, rfl⟩
      have Hxv : Hid (hv (bt s (2 * k)) = x) := hx
      have Hyv : Hid (hv (bt s (2 * k + 1)) = y) := hy
      rw [hx] at hh
      rw [hy] at hl
      have Hx := Lib.hid hx; clear hx
      have Hy := Lib.hid hy; clear hy
      generalize bt s (2 * k) = b0 at c0 hb0 Hxv
      generalize bt s (2 * k + 1) = b1 at c1 hb1 Hyv
      go_wp2
      go_region_held3 (fun W => Below wr.heap.size wr W) (first | exact (Below.refl _ _).drew | exact bthen ((Below.refl _ _).drew) hq | (refine bthen ?_ hq; assumption)) (first
        | (go_at_call_of 23 b0; refine (hexValue_any _ _ hb0.1 hb0.2).mono ?_; rintro e w' ⟨rfl, hq⟩; rw [Hxv.out])
        | (go_at_call_of 23 b1; refine (hexValue_any _ _ hb1.1 hb1.2).mono ?_; rintro e w' ⟨rfl, hq⟩; rw [Hyv.out]))
      all_goals
        have hS : Below wr.heap.size wr w' := by assumption
        have HO := Lib.hid (own_keep HOWN.out hS)
        have hz' := hS.size
        have HS := Lib.hid hS
        clear hS hq c0 c1 q1
        by_cases hn : x < 0
        · go_wp2_with fail
          go_ret2
          exact ⟨ret_eq (dec_bad s k hlt hodd (.inl (by rw [Hx.out]; exact hn))).symm, hb.trans (HS.out.mono hsz)⟩
        by_cases hm : y < 0
        · go_wp2_with fail
          go_ret2
          exact ⟨ret_eq (dec_bad s k hlt hodd (.inr (by rw [Hy.out]; exact hm))).symm, hb.trans (HS.out.mono hsz)⟩
        obtain ⟨hx0, hx1⟩ := hh
        obtain ⟨hy0, hy1⟩ := hl
        have exy : x * 16 + y = 16 * x + y := by omega
        have Exy := Lib.hid exy; clear exy
        go_wp2_with (at_builtin; go_must (refine wpList_append_own _ rfl _ _ 22 rfl w.heap.size 5 i0 (.int .u8 0) 1 1 Tryd.underlying22 hi0 hz0 hz1 hz2 rfl (by decide) _ _ _ rfl (HO.out.alloc _) ⟨w'.heap.size, 0, none⟩ 1 1 [.int .u8 (x * 16 + y)] rfl rfl (World.news_of_block (cs := #[.int .u8 (x * 16 + y)]) (heap_alloc_new w' _)) (by simp [Value.oneCell']) (by unfold maxLen; omega) (by omega) (by simp; omega) ?_))
        intro v' w3 hown1 hgrow _
        go_wp2
        go_roundw
        case rel => exact ⟨k + 1, by omega, by go_num, row_succ (by rw [Hx.out, Hy.out, ← Exy.out]; exact hown1), good_succ s k HG.out (by rw [Hx.out]; omega) (by rw [Hy.out]; omega), own_below0 hb HOWN.out (bthen HS.out (balloc _ _)) hgrow⟩
        case measure => simp [intOf]; omega
    · have hconv := conv_own hown
      clear hown
      go_wp2
      go_ret2
      have hks : s.size / 2 = k := by omega
      have hf := dec_good s hodd (by omega) (by rw [hks]; exact HG.out)
      rw [hks] at hf
      exact ⟨ret_eq hf.symm, hb⟩
end Go.Proofs.YtpmngaipcmacbabDoor
