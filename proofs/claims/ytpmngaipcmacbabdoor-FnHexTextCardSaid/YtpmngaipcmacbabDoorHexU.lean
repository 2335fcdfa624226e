/- Chapter 1: the law FnHexText: the draw, and the walk. -/
import Derived.Test.YtpmngaipcmacbabDoorHexT
import Derived.Test.YtpmngaipcmacbabDoorHexB
namespace Go.Proofs.YtpmngaipcmacbabDoor
open Go.RowKit
set_option linter.unusedVariables false

theorem only_own {w w2 w3 : World} {g : Nat} {row : Option Nat} {o : Obj} (h2 : Only w g w2) (hgrow : (w2.alloc o).grownBy w3 row) (hrow : ∀ b, row = some b → w.heap.size ≤ b) : Only w g w3 :=
  ⟨hgrow.os.trans h2.os, hgrow.tape.trans h2.tape, hgrow.output.trans h2.output, Nat.le_trans h2.size (Nat.le_trans (balloc w2 o).size hgrow.size), fun k hk hne => by
    have h2s := h2.size
    have hs := (balloc w2 o).size
    have hr : some k ≠ row := fun e => by have := hrow k e.symm; omega
    exact ((hgrow.block k (by omega) hr).trans ((balloc w2 o).block k (by omega))).trans (h2.block k hk hne)⟩
theorem cur_own {w2 w3 : World} {B g : Nat} {row : Option Nat} {o : Obj} (h : Cur w2 B g) (hgrow : (w2.alloc o).grownBy w3 row) (hrow : ∀ b, row = some b → g < b) : Cur w3 B g := by
  obtain ⟨A, n, c, i, hh, hH, hS, hn, h0, h1, hg⟩ := h
  have hlt := has_lt hH
  have key : ∀ k, k ≤ g → w3.heap[k]? = w2.heap[k]? := fun k hk => by
    have hs := (balloc w2 o).size
    have hr : some k ≠ row := fun e => by have := hrow k e.symm; omega
    exact (hgrow.block k (by omega) hr).trans ((balloc w2 o).block k (by omega))
  exact ⟨A, n, c, i, hh, (key g (Nat.le_refl _)).trans hH, hS.kept fun p hp => World.cell?_of_block (key p.block (by omega)), hn, h0, h1, hg⟩

set_option maxRecDepth 100000 in
set_option maxHeartbeats 1000000 in
theorem text_any (w : World) (B g : Nat) (n : Nat) (hn : n ≤ 5000) (hC : Cur w B g) :
    Calls Tryd.prog 21 #[.pointer (some ⟨g, 0, none⟩), .int .i64 (n : Int)] w fun e w' => ∃ s : ByteArray, s.size ≤ 5000 ∧ e = .returned (.string s) ∧ Only w g w' := by
  have hg := hC.lt.2
  have HC := Lib.hid hC; clear hC
  obtain ⟨i0, hi0, hz0, hz1, hz2⟩ := info_parts u8Info
  go_enter Tryd.func21, Tryd.ntmps21
  go_wp2
  go_loopw [5, 6] (fun v i wr => ∃ (k : Nat) (l : List Int), k ≤ n ∧ i = .int .i64 k ∧ wr.ownsRow w.heap.size 5 1 v k (vals l) ∧ Cur wr B g ∧ Only w g wr) (fun _ i _ => n - (intOf i).toNat)
  case atStart => exact ⟨0, [], Nat.zero_le _, rfl, by simpa [vals] using World.ownsRow_lit (base := w.heap.size) (e := 5) (size := 1) w #[] 0 (Nat.le_refl _) (Nat.zero_le _) rfl, HC.out.alloc HC.out.lt.1 _, only_alloc g _⟩
  case round =>
    obtain ⟨k, l, hk, rfl, hown, hc, ho⟩ := hrel
    have hsz := ho.size
    by_cases hlt : k < n
    · have HOWN := Lib.hid hown; clear hown
      have HCU := Lib.hid hc; clear hc
      have hne : ∀ b, u5.ownBlock = some b → some b ≠ some g := fun b hb e => by
        have := (HOWN.out.lt b hb).1
        injection e; omega
      have HNE := Lib.hid hne; clear hne
      go_wp2_with fail
      refine (byte_any wr B g HCU.out).mono ?_
      rintro e w2 ⟨x, hx0, hx1, rfl, hc2, ho2⟩
      have HC2 := Lib.hid hc2; clear hc2
      have hk2 : w2.ownsRow w.heap.size 5 1 u5 k (vals l) := HOWN.out.kept ho2 (by
        cases hb : u5.ownBlock with
        | none => exact .inl rfl
        | some b => exact .inr (by exact HNE.out b hb))
      have HK2 := Lib.hid hk2; clear hk2
      have hz2' := ho2.size
      go_wp2_with (at_builtin; go_must (refine wpList_append_own _ rfl _ _ 22 rfl w.heap.size 5 i0 (.int .u8 0) 1 1 Tryd.underlying22 hi0 hz0 hz1 hz2 rfl (by decide) _ _ _ rfl (HK2.out.alloc _) ⟨w2.heap.size, 0, none⟩ 1 1 [.int .u8 x] rfl rfl (World.news_of_block (cs := #[.int .u8 x]) (heap_alloc_new w2 _)) (by simp [Value.oneCell']) (by unfold maxLen; omega) (by omega) (by simp; omega) ?_))
      intro v' w3 hown1 hgrow _
      have hc3 : Cur w3 B g := cur_own HC2.out hgrow (fun b hb => Nat.lt_of_lt_of_le hg (HK2.out.lt b hb).1)
      have ho3 : Only w g w3 := only_own (only_trans ho ho2) hgrow (fun b hb => (HK2.out.lt b hb).1)
      have HC3 := Lib.hid hc3; clear hc3
      have HO3 := Lib.hid ho3; clear ho3
      go_wp2
      go_roundw
      case rel => exact ⟨k + 1, l ++ [x], by omega, by go_num, by simpa [vals] using hown1, HC3.out, HO3.out⟩
      case measure => simp [intOf]; omega
    · have hconv := conv_own hown
      have hl : l.length = k := by have := hown.1; simpa [vals] using this
      go_wp2
      go_ret
      exact ⟨_, by rw [strOfNums_size]; omega, rfl, ho⟩

set_option maxRecDepth 100000 in
set_option maxHeartbeats 1000000 in
theorem long_any (w : World) (n : Nat) (x : Int) (hn : n ≤ 20001) :
    Calls Tryd.prog 19 #[.int .i64 (n : Int), .int .u8 x] w fun e w' => ∃ s : ByteArray, s.size ≤ 20001 ∧ e = .returned (.string s) ∧ Below w.heap.size w w' := by
  obtain ⟨i0, hi0, hz0, hz1, hz2⟩ := info_parts u8Info
  have hmk : ∀ W : World, (Instr.makeSlice 22 (.int .i64 (n : Int)) (.int .i64 (n : Int))).run Tryd.prog W = .ok (.slice (some ⟨W.heap.size, 0, none⟩) n n) (W.alloc (.cells (madeCells #[.int .u8 0] n) 5)) := by
    intro W
    have := run_make (P := Tryd.prog) W 22 5 i0 _ Tryd.underlying22 hi0 hz0 .i64 .i64 (n : Int) (n : Int) (by omega) (by omega) (by rw [hz2]; omega) (by omega)
    simpa [hz1, Value.cells] using this
  go_enter Tryd.func19, Tryd.ntmps19
  go_wp2
  go_loopw [6] (fun i wr => ∃ (k : Nat) (cs : Array Value), k ≤ n ∧ i = .int .i64 k ∧ Has wr w.heap.size 5 cs ∧ cs.size = n ∧ (∀ j, j < k → cs[j]? = some (.int .u8 x)) ∧ Below w.heap.size w wr) (fun i _ => n - (intOf i).toNat)
  case atStart => exact ⟨0, _, Nat.zero_le _, rfl, has_new _ _ _, by simp [size_madeCells], fun j hj => absurd hj (by omega), balloc _ _⟩
  case round =>
    obtain ⟨k, cs, hk, rfl, hH, hcs, hg, hb⟩ := hrel
    have HG := Lib.hid hg; clear hg
    clear hmk
    have hsz := hb.size
    by_cases hlt : k < n
    · obtain ⟨uc, huc⟩ : ∃ uc, cs[k]? = some uc := ⟨_, Array.getElem?_eq_getElem (by omega)⟩
      have hs0 := has_cell hH k huc
      clear huc
      have hf0 := has_free hH k
      have HH := Lib.hid hH; clear hH
      have hset : (∀ j, j < k + 1 → (cs.setIfInBounds k (.int .u8 x))[j]? = some (.int .u8 x)) := fun j hj => by
        rw [Array.getElem?_setIfInBounds]
        by_cases e : k = j
        · subst e
          rw [if_pos rfl, if_pos (by omega)]
        · rw [if_neg e]; exact HG.out j (by omega)
      have HSET := Lib.hid hset; clear hset
      have HCS := Lib.hid hcs; clear hcs
      go_wp2
      go_roundw
      case rel => exact ⟨k + 1, _, by omega, by go_num, has_set HH.out k _, by simp [HCS.out], HSET.out, hb.setCell (Nat.le_refl _) _⟩
      case measure => simp [intOf]; omega
    · have hkn : k = n := by omega
      subst hkn
      have hconv : (convert 22 9 (.slice (some ⟨w.heap.size, 0, none⟩) k k)).run Tryd.prog wr = .ok (.string (strOfNums (List.replicate k x))) wr :=
        run_convert_bytes_arg wr _ _ Tryd.underlying22 Tryd.underlying5 w.heap.size 0 k k (List.replicate k x) (by simp) (fun i hi => by
          rw [Nat.zero_add, has_cell hH i (HG.out i hi)]
          simp [hi]) _ Tryd.underlying9
      go_wp2
      go_ret
      exact ⟨_, by rw [strOfNums_size]; simpa using hn, rfl, hb⟩

set_option maxRecDepth 100000 in
set_option maxHeartbeats 1000000 in
theorem drawHex_any (w : World) (A : Option Addr) (n c : Nat) (hn : n ≤ maxLen) (hS : BS w w.heap.size A n) :
    Calls Tryd.prog 7 #[.slice A n c] w (DrawnS w) := by
  have HS := Lib.hid hS; clear hS
  go_enter Tryd.func7, Tryd.ntmps7
  go_wp2_with fail
  refine (new_any w w.heap.size A n c hn (Nat.le_refl _) HS.out).mono ?_
  rintro e w1 ⟨rfl, hC1, hb1⟩
  have HC1 := Lib.hid hC1; clear hC1
  go_wp2_with fail
  refine (once_any w1 _ _ 60 (by omega) (by omega) HC1.out).mono ?_
  rintro e w2 ⟨x, rfl, hC2, ho2⟩
  have HC2 := Lib.hid hC2; clear hC2
  have hb2 := hb1.trans (only_below ho2 HC1.out.lt.1 (Nat.le_refl _))
  cases x
  · go_wp2_with fail
    refine (below_any w2 _ _ 30 (by omega) (by omega) HC2.out).mono ?_
    rintro e w3 ⟨x, hx0, hx1, rfl, hC3, ho3⟩
    have HC3 := Lib.hid hC3; clear hC3
    have hb3 := hb2.trans (only_below ho3 HC2.out.lt.1 (Nat.le_refl _))
    obtain ⟨m, rfl⟩ := Int.eq_ofNat_of_zero_le hx0
    go_wp2_with fail
    refine (text_any w3 _ _ m (by omega) HC3.out).mono ?_
    rintro e w4 ⟨s, hs, rfl, ho4⟩
    go_wp2_with fail
    go_ret
    exact ⟨s, by omega, rfl, hb3.trans (only_below ho4 HC3.out.lt.1 (Nat.le_refl _))⟩
  · go_wp2_with fail
    refine (below_any w2 _ _ 2 (by omega) (by omega) HC2.out).mono ?_
    rintro e w3 ⟨x, hx0, hx1, rfl, hC3, ho3⟩
    have hb3 := hb2.trans (only_below ho3 HC2.out.lt.1 (Nat.le_refl _))
    obtain ⟨m, rfl⟩ := Int.eq_ofNat_of_zero_le hx0
    go_wp2_with fail
    have hl := long_any w3 (20000 + m) 200 (by omega)
    rw [show ((20000 + m : Nat) : Int) = 20000 + (m : Int) by omega] at hl
    refine hl.mono ?_
    rintro e w4 ⟨s, hs, rfl, hb4⟩
    go_wp2_with fail
    go_ret
    exact ⟨s, by omega, rfl, hb3.trans (hb4.mono hb3.size)⟩

set_option maxRecDepth 100000 in
set_option maxHeartbeats 1000000 in
theorem hexText_walk (A : Option Addr) (n c : Nat) (w : World) (hn : n ≤ maxLen) (hS : BS w w.heap.size A n) (hs : 0 < w.heap.size) (ht : Lib.TabIs Tryd.prog w "internal/strconv.uint64pow10" .u64 Lib.pow10Tab) :
    Calls Tryd.prog 3 #[.slice A n c] w fun e w' => e = .returned (.bool true) ∧ Below w.heap.size w w' := by
  have HS := Lib.hid hS; clear hS
  have HT := Lib.hid ht; clear ht
  by_cases hbig : (1048576 : Int) < n
  · have hd : decide ((1048576 : Int) < n) = true := by simpa using hbig
    have Hd := Lib.hid hd; clear hd
    go_enter Tryd.func3, Tryd.ntmps3
    go_wp2_with fail
    refine (big_any w A n c hn).mono ?_
    rintro e w1 ⟨rfl, rfl⟩
    rw [Hd.out]
    go_wp2_with fail
    go_ret
    exact ⟨rfl, Below.refl _ _⟩
  have hd : decide ((1048576 : Int) < n) = false := by simpa using hbig
  have Hd := Lib.hid hd; clear hd
  go_enter Tryd.func3, Tryd.ntmps3
  go_wp2_with fail
  refine (big_any w A n c hn).mono ?_
  rintro e w1 ⟨rfl, rfl⟩
  rw [Hd.out]
  go_wp2_with fail
  refine (drawHex_any w1 A n c hn HS.out).mono ?_
  rintro e w2 ⟨s, hsz, rfl, hb2⟩
  have hsm : s.size ≤ maxLen := by unfold maxLen; omega
  go_wp2_with fail
  refine (encI_any w2 s hsm).mono ?_
  rintro e w3 ⟨rfl, hb3⟩
  have hb := bthen hb2 hb3
  by_cases h20 : 20000 < s.size
  · rw [enc_big s h20]
    have ht3 : Lib.TabIs Tryd.prog w3 "internal/strconv.uint64pow10" .u64 Lib.pow10Tab := var?_below hb gPow hs HT.out
    have HT3 := Lib.hid ht3; clear ht3
    have h10 : strOfNums (decZ 10) = ⟨#[49, 48]⟩ := by decide
    have H10 := Lib.hid h10; clear h10
    go_wp2_with fail
    refine (fmtP_all w3 10 (by omega) (by omega) HT3.out).mono ?_
    rintro e w4 ⟨rfl, hb4⟩
    rw [H10.out]
    go_wp2_with fail
    go_ret
    exact ⟨rfl, bthen hb hb4⟩
  · have hde := dec_enc s (by omega)
    have hhz : (strOfNums (hexL s.data.toList)).size = 2 * s.size := by rw [strOfNums_size, hexL_len]; simp
    rw [enc_small s h20]
    generalize strOfNums (hexL s.data.toList) = h at *
    have HDE := Lib.hid hde; clear hde
    go_wp2_with fail
    refine (decI_any w3 h (by unfold maxLen; omega)).mono ?_
    rintro e w4 ⟨rfl, hb4⟩
    rw [HDE.out]

    have e2 : ((h.size : Int) == 2 * (s.size : Int)) = true := by rw [beq_iff_eq]; omega
    go_wp2_with fail
    go_ret
    exact ⟨rfl, bthen hb hb4⟩
end Go.Proofs.YtpmngaipcmacbabDoor
