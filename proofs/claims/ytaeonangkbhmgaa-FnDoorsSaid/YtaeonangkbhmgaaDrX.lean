/- Chapter 4: the drawing of doors and faults. -/
import Derived.Test.YtaeonangkbhmgaaDrA
namespace Go.Proofs.Ytaeonangkbhmgaa
open Go.RowKit
set_option linter.unusedVariables false
theorem own_cap {w : World} {base size n c : Nat} {e : TypeId} {A : Option Addr} {xs : List Value} (h : w.ownsRow base e size (.slice A n c) n xs) : n ≤ c ∧ c ≤ maxLen := by
  rcases h.2 with ⟨hv, h0⟩ | ⟨g, cap, cur, hv, _, _, hc, hc2, _⟩
  · injection hv with h1 h2 h3; subst h0 h3; exact ⟨Nat.le_refl _, Nat.zero_le _⟩
  · injection hv with h1 h2 h3; subst h3; exact ⟨hc, hc2⟩
def lenOf : Value → Nat
  | .slice _ n _ => n
  | _ => 0
def DrActs (w : World) (e : Ending) (w' : World) : Prop := (∃ (k s : Int) (l o f : Bool) (A' : Option Addr) (L : List Int) (c' : Nat), e = .returned (.tuple #[.agg #[.int .i64 k, .int .i64 s, .bool l, .bool o, .bool f], .slice A' L.length c']) ∧ L.length ≤ 1000 ∧ L.length ≤ c' ∧ c' ≤ maxLen ∧ OR w' w.heap.size 3 A' (intV L)) ∧ Below w.heap.size w w'
set_option maxRecDepth 100000 in
set_option maxHeartbeats 8000000 in
theorem drawActs_any (w : World) (A : Option Addr) (n c : Nat) (hn : n ≤ maxLen) (hS : BS w w.heap.size A n) : Calls Try.prog 14 #[.slice A n c] w (DrActs w) := by
  have HS := Lib.hid hS; clear hS
  obtain ⟨i0, hi0, hz0, hz1, hz2⟩ := info_parts intInfo
  go_enter Try.func14, Try.ntmps14
  go_wp2_with fail
  generalize hX : (w.alloc (.cells #[.int .i64 0, .int .i64 0, .bool false, .bool false, .bool false] 27)) = w1
  have zb : Below w.heap.size w w1 := by rw [← hX]; exact balloc _ _
  have zr : Has w1 w.heap.size 27 #[.int .i64 0, .int .i64 0, .bool false, .bool false, .bool false] := by rw [← hX]; exact has_new _ _ _
  clear hX
  have hl1 := has_lt zr; have hs1 := zb.size
  refine (new_any w1 w.heap.size A n c hn (by omega) (HS.out.below zb)).mono ?_
  rintro e w2 ⟨rfl, hC, hb⟩
  have hs2 := hb.size; replace zr := has_call zr hb; replace zb := bthen zb hb; clear hb
  have HC := Lib.hid hC; clear hC
  have hg2 : w1.heap.size < w2.heap.size := HC.out.lt.2
  have HO := Lib.hid (only_refl w2 w1.heap.size)
  have HZB := Lib.hid zb; clear zb
  go_wp2_with fail
  refine (anyD_any _ w.heap.size w1.heap.size HC.out).mono ?_
  rintro e w3 ⟨k1, s1, l1, o1, f1, rfl, hC9, hO9⟩
  replace zr := hoo zr hO9 (by omega)
  have hmw3 := hO9.size
  have kk := only_trans HO.out hO9; clear HO; have HO := Lib.hid kk; clear kk
  clear HC; have HC := Lib.hid hC9; clear hC9 hO9
  have hsw3 := HO.out.size
  have zrc0 := has_cell zr 0 rfl; have zrc1 := has_cell zr 1 rfl; have zrc2 := has_cell zr 2 rfl; have zrc3 := has_cell zr 3 rfl; have zrc4 := has_cell zr 4 rfl
  have zrlt := has_lt zr
  have ZRH := Lib.hid zr; clear zr
  go_wp2_with fail
  clear zrc0 zrc1 zrc2 zrc3 zrc4 zrlt
  have zr := ZRH.out; clear ZRH
  generalize hX : (w3.alloc (.cells #[.int .i64 k1, .int .i64 s1, .bool l1, .bool o1, .bool f1] 27)) = w4
  have hb : Below w3.heap.size w3 w4 := by rw [← hX]; exact balloc _ _
  have hk : Has w4 w3.heap.size 27 #[.int .i64 k1, .int .i64 s1, .bool l1, .bool o1, .bool f1] := by rw [← hX]; exact has_new _ _ _
  clear hX
  replace zr := has_call zr hb
  have hmw4 := hb.size
  have kk := HC.out.bel hb; clear HC; have HC := Lib.hid kk; clear kk
  have kk := only_trans HO.out (only_bel (g := w1.heap.size) hb); clear HO; have HO := Lib.hid kk; clear kk hb
  have hsw4 := HO.out.size
  have zd := hk; clear hk; have hlzd := has_lt zd
  refine (actsD_any _ w.heap.size w1.heap.size 40 (by omega) (by omega) HC.out).mono ?_
  rintro e w5 ⟨vv, L, rfl, hL, hown, hC9, hO9⟩
  replace zr := hoo zr hO9 (by omega)
  replace zd := hoo zd hO9 (by omega)
  have hmw5 := hO9.size
  have kk := only_trans HO.out hO9; clear HO; have HO := Lib.hid kk; clear kk
  clear HC; have HC := Lib.hid hC9; clear hC9 hO9
  have hsw5 := HO.out.size
  have HOWN := Lib.hid hown; clear hown
  have zrc0 := has_cell zr 0 rfl; have zrc1 := has_cell zr 1 rfl; have zrc2 := has_cell zr 2 rfl; have zrc3 := has_cell zr 3 rfl; have zrc4 := has_cell zr 4 rfl
  have zrlt := has_lt zr
  have zdc0 := has_cell zd 0 rfl; have zdc1 := has_cell zd 1 rfl; have zdc2 := has_cell zd 2 rfl; have zdc3 := has_cell zd 3 rfl; have zdc4 := has_cell zd 4 rfl
  have zdlt := has_lt zd
  have ZRH := Lib.hid zr; clear zr
  have ZDH := Lib.hid zd; clear zd
  go_wp2_with fail
  clear zrc0 zrc1 zrc2 zrc3 zrc4 zrlt zdc0 zdc1 zdc2 zdc3 zdc4 zdlt
  have zr := ZRH.out; clear ZRH
  have zd := ZDH.out; clear ZDH
  refine (below_any _ w.heap.size w1.heap.size 16 (by omega) (by omega) HC.out).mono ?_
  rintro e w6 ⟨x0, hx00, hx01, rfl, hC9, hO9⟩
  have kk := own_o HOWN.out hO9 (by omega); clear HOWN; have HOWN := Lib.hid kk; clear kk
  replace zr := hoo zr hO9 (by omega)
  replace zd := hoo zd hO9 (by omega)
  have hmw6 := hO9.size
  have kk := only_trans HO.out hO9; clear HO; have HO := Lib.hid kk; clear kk
  clear HC; have HC := Lib.hid hC9; clear hC9 hO9
  have hsw6 := HO.out.size
  have hcs : x0 = 0 ∨ x0 = 1 ∨ 2 ≤ x0 := by omega
  rcases hcs with rfl | rfl | h2
  · skip
    clear hx00 hx01
    have zrc0 := has_cell zr 0 rfl; have zrc1 := has_cell zr 1 rfl; have zrc2 := has_cell zr 2 rfl; have zrc3 := has_cell zr 3 rfl; have zrc4 := has_cell zr 4 rfl
    have zrlt := has_lt zr
    have zdc0 := has_cell zd 0 rfl; have zdc1 := has_cell zd 1 rfl; have zdc2 := has_cell zd 2 rfl; have zdc3 := has_cell zd 3 rfl; have zdc4 := has_cell zd 4 rfl
    have zdlt := has_lt zd
    have ZRH := Lib.hid zr; clear zr
    have ZDH := Lib.hid zd; clear zd
    go_wp2_with fail
    clear zrc0 zrc1 zrc2 zrc3 zrc4 zrlt zdc0 zdc1 zdc2 zdc3 zdc4 zdlt
    have zr := ZRH.out; clear ZRH
    have zd := ZDH.out; clear ZDH
    generalize hX : (w6.alloc _) = w7
    have hb : Below w6.heap.size w6 w7 := by rw [← hX]; exact balloc _ _
    have hk : Has w7 w6.heap.size 3 #[.int .i64 0, .int .i64 10, .int .i64 (-1)] := by rw [← hX]; exact has_new _ _ _
    clear hX
    have kk := own_o (g := w1.heap.size) HOWN.out (only_bel hb) (by omega); clear HOWN; have HOWN := Lib.hid kk; clear kk
    replace zr := has_call zr hb
    replace zd := has_call zd hb
    have hmw7 := hb.size
    have kk := HC.out.bel hb; clear HC; have HC := Lib.hid kk; clear kk
    have kk := only_trans HO.out (only_bel (g := w1.heap.size) hb); clear HO; have HO := Lib.hid kk; clear kk hb
    have hsw7 := HO.out.size
    refine (pickInt_any w7 w.heap.size w1.heap.size w6.heap.size 3 _ (-1) 10 HC.out hk rfl (by omega) (by omega) (by omega) ?_).mono ?_
    · intro j hj; rcases j with _ | _ | _ | j
      all_goals first | exact ⟨_, by decide, by decide, rfl⟩ | omega
    rintro e w8 ⟨x9, hy0, hy1, rfl, hC9, hO9⟩
    clear hk
    have kk := own_o HOWN.out hO9 (by omega); clear HOWN; have HOWN := Lib.hid kk; clear kk
    replace zr := hoo zr hO9 (by omega)
    replace zd := hoo zd hO9 (by omega)
    have hmw8 := hO9.size
    have kk := only_trans HO.out hO9; clear HO; have HO := Lib.hid kk; clear kk
    clear HC; have HC := Lib.hid hC9; clear hC9 hO9
    have hsw8 := HO.out.size
    have zrc0 := has_cell zr 0 rfl; have zrc1 := has_cell zr 1 rfl; have zrc2 := has_cell zr 2 rfl; have zrc3 := has_cell zr 3 rfl; have zrc4 := has_cell zr 4 rfl
    have zrlt := has_lt zr
    have zdc0 := has_cell zd 0 rfl; have zdc1 := has_cell zd 1 rfl; have zdc2 := has_cell zd 2 rfl; have zdc3 := has_cell zd 3 rfl; have zdc4 := has_cell zd 4 rfl
    have zdlt := has_lt zd
    have ZRH := Lib.hid zr; clear zr
    have ZDH := Lib.hid zd; clear zd
    go_wp2_with (at_builtin; go_must (refine wpList_append_own _ rfl _ _ 24 rfl w4.heap.size 3 i0 (.int .i64 0) 1 8 Try.underlying24 hi0 hz0 hz1 hz2 rfl (by decide) _ _ _ rfl (HOWN.out.alloc _) ⟨w8.heap.size, 0, none⟩ 1 1 [.int .i64 (x9)] rfl rfl (World.news_of_block (cs := #[.int .i64 (x9)]) (heap_alloc_new w8 _)) (by simp [Value.oneCell']) (by unfold maxLen; omega) (by omega) (by simp; omega) ?_))
    intro v' w9 hown1 hgrow _
    have hne1 : ∀ q, (vv).ownBlock = some q → w4.heap.size ≤ q := fun q e => (HOWN.out.lt _ e).1
    have hone : w9.ownsRow w4.heap.size 3 1 v' (L ++ [x9]).length (ints (L ++ [x9])) := by simpa [ints] using hown1
    have hgz := hgrow.size; simp at hgz
    clear zrc0 zrc1 zrc2 zrc3 zrc4 zrlt zdc0 zdc1 zdc2 zdc3 zdc4 zdlt
    have zr := ZRH.out; clear ZRH
    have zd := ZDH.out; clear ZDH
    have zbE := ((HZB.out.trans (only_below HO.out (B := w.heap.size) (by omega) (by omega))).alloc (by omega) (.cells #[.int .i64 x9] 3)).grown hgrow (by simp; omega) (fun b hb => by have := hne1 b hb; omega)
    replace zr := has_grown (has_alloc zr _) hgrow (fun e => by have := hne1 _ e.symm; omega)
    replace zd := has_grown (has_alloc zd _) hgrow (fun e => by have := hne1 _ e.symm; omega)
    clear HOWN hgrow hown1 hne1; have HOWN := Lib.hid hone; clear hone
    obtain ⟨A9, c9, rfl, _⟩ := own_open HOWN.out
    have ZBE := Lib.hid zbE; clear zbE
    have zrc0 := has_cell zr 0 rfl; have zrc1 := has_cell zr 1 rfl; have zrc2 := has_cell zr 2 rfl; have zrc3 := has_cell zr 3 rfl; have zrc4 := has_cell zr 4 rfl
    have zrf0 := has_free zr 0; have zrf1 := has_free zr 1; have zrf2 := has_free zr 2; have zrf3 := has_free zr 3; have zrf4 := has_free zr 4
    have zrlt := has_lt zr
    have zdc0 := has_cell zd 0 rfl; have zdc1 := has_cell zd 1 rfl; have zdc2 := has_cell zd 2 rfl; have zdc3 := has_cell zd 3 rfl; have zdc4 := has_cell zd 4 rfl
    have zdlt := has_lt zd
    have ZRH := Lib.hid zr; clear zr
    have ZDH := Lib.hid zd; clear zd
    go_wp2_with fail
    refine bodyPost_ret (v := .tuple #[.agg #[.int .i64 k1, .int .i64 s1, .bool l1, .bool o1, .bool f1], .slice A9 (L ++ [x9]).length c9]) ?_ ?_ ?_
    · simp [results, Try.results14, go_sem, zrc0, zrc1, zrc2, zrc3, zrc4, zrf0, zrf1, zrf2, zrf3, zrf4, zrlt]
    · rfl
    · unfold DrActs; with_reducible exact ⟨⟨_, _, _, _, _, A9, L ++ [x9], c9, rfl, (by simp; omega), (own_cap HOWN.out).1, (own_cap HOWN.out).2, OR.more (or_of_own (own_keep (g := w.heap.size) HOWN.out (os5 (only_refl _ _) _ _ _ _ _) (by omega))) (by omega)⟩, bs5 (Nat.le_refl _) _ _ _ _ _ ZBE.out⟩
  · skip
    clear hx00 hx01
    have zrc0 := has_cell zr 0 rfl; have zrc1 := has_cell zr 1 rfl; have zrc2 := has_cell zr 2 rfl; have zrc3 := has_cell zr 3 rfl; have zrc4 := has_cell zr 4 rfl
    have zrlt := has_lt zr
    have zdc0 := has_cell zd 0 rfl; have zdc1 := has_cell zd 1 rfl; have zdc2 := has_cell zd 2 rfl; have zdc3 := has_cell zd 3 rfl; have zdc4 := has_cell zd 4 rfl
    have zdlt := has_lt zd
    have ZRH := Lib.hid zr; clear zr
    have ZDH := Lib.hid zd; clear zd
    go_wp2_with fail
    clear zrc0 zrc1 zrc2 zrc3 zrc4 zrlt zdc0 zdc1 zdc2 zdc3 zdc4 zdlt
    have zr := ZRH.out; clear ZRH
    have zd := ZDH.out; clear ZDH
    have ST : Hid (Has w6 (w.heap.size) 27 #[.int .i64 0, .int .i64 0, .bool false, .bool false, .bool false] ∧ Has w6 (w3.heap.size) 27 #[.int .i64 k1, .int .i64 s1, .bool l1, .bool o1, .bool f1]) := Lib.hid ⟨zr, zd⟩; clear zr zd
    go_loopw [6] (fun v wr => ∃ (M : List Int), M.length ≤ 201 ∧ wr.ownsRow w4.heap.size 3 1 v M.length (ints M) ∧ Has wr (w.heap.size) 27 #[.int .i64 0, .int .i64 0, .bool false, .bool false, .bool false] ∧ Has wr (w3.heap.size) 27 #[.int .i64 k1, .int .i64 s1, .bool l1, .bool o1, .bool f1] ∧ Cur wr w.heap.size w1.heap.size ∧ Only w2 w1.heap.size wr ∧ w4.heap.size ≤ wr.heap.size) (fun v _ => 201 - lenOf v)
    case atStart => exact ⟨L, by omega, HOWN.out, ST.out.1, ST.out.2, HC.out, HO.out, by omega⟩
    case round =>
      obtain ⟨M, hM, hown, zr, zd, hC9, hO9, h4r⟩ := hrel
      clear ST HC HO HOWN; have HC := Lib.hid hC9; have HO := Lib.hid hO9; have HOWN := Lib.hid hown; clear hC9 hO9 hown
      obtain ⟨A9, c9, rfl, _⟩ := own_open HOWN.out
      have hswr := HO.out.size
      have hlzd := has_lt zd
      by_cases hlt : M.length < 201
      · have hlt2 : (M.length : Int) < 201 := by omega
        have zrc0 := has_cell zr 0 rfl; have zrc1 := has_cell zr 1 rfl; have zrc2 := has_cell zr 2 rfl; have zrc3 := has_cell zr 3 rfl; have zrc4 := has_cell zr 4 rfl
        have zrlt := has_lt zr
        have zdc0 := has_cell zd 0 rfl; have zdc1 := has_cell zd 1 rfl; have zdc2 := has_cell zd 2 rfl; have zdc3 := has_cell zd 3 rfl; have zdc4 := has_cell zd 4 rfl
        have zdlt := has_lt zd
        have ZRH := Lib.hid zr; clear zr
        have ZDH := Lib.hid zd; clear zd
        go_wp2_with fail
        clear zrc0 zrc1 zrc2 zrc3 zrc4 zrlt zdc0 zdc1 zdc2 zdc3 zdc4 zdlt
        have zr := ZRH.out; clear ZRH
        have zd := ZDH.out; clear ZDH
        refine (below_any _ w.heap.size w1.heap.size 9 (by omega) (by omega) HC.out).mono ?_
        rintro e w7 ⟨x1, hx10, hx11, rfl, hC9, hO9⟩
        have kk := own_o HOWN.out hO9 (by omega); clear HOWN; have HOWN := Lib.hid kk; clear kk
        replace zr := hoo zr hO9 (by omega)
        replace zd := hoo zd hO9 (by omega)
        have hmw7 := hO9.size
        have kk := only_trans HO.out hO9; clear HO; have HO := Lib.hid kk; clear kk
        clear HC; have HC := Lib.hid hC9; clear hC9 hO9
        have hsw7 := HO.out.size
        have zrc0 := has_cell zr 0 rfl; have zrc1 := has_cell zr 1 rfl; have zrc2 := has_cell zr 2 rfl; have zrc3 := has_cell zr 3 rfl; have zrc4 := has_cell zr 4 rfl
        have zrlt := has_lt zr
        have zdc0 := has_cell zd 0 rfl; have zdc1 := has_cell zd 1 rfl; have zdc2 := has_cell zd 2 rfl; have zdc3 := has_cell zd 3 rfl; have zdc4 := has_cell zd 4 rfl
        have zdlt := has_lt zd
        have ZRH := Lib.hid zr; clear zr
        have ZDH := Lib.hid zd; clear zd
        go_wp2_with (at_builtin; go_must (refine wpList_append_own _ rfl _ _ 24 rfl w4.heap.size 3 i0 (.int .i64 0) 1 8 Try.underlying24 hi0 hz0 hz1 hz2 rfl (by decide) _ _ _ rfl (HOWN.out.alloc _) ⟨w7.heap.size, 0, none⟩ 1 1 [.int .i64 (1 + x1)] rfl rfl (World.news_of_block (cs := #[.int .i64 (1 + x1)]) (heap_alloc_new w7 _)) (by simp [Value.oneCell']) (by unfold maxLen; omega) (by omega) (by simp; omega) ?_))
        intro v' w9 hown1 hgrow _
        have hne1 : ∀ q, (Value.slice A9 M.length c9).ownBlock = some q → w4.heap.size ≤ q := fun q e => (HOWN.out.lt _ e).1
        have hone : w9.ownsRow w4.heap.size 3 1 v' (M ++ [1 + x1]).length (ints (M ++ [1 + x1])) := by simpa [ints] using hown1
        have hgz := hgrow.size; simp at hgz
        go_wp2_with fail
        clear zrc0 zrc1 zrc2 zrc3 zrc4 zrlt zdc0 zdc1 zdc2 zdc3 zdc4 zdlt
        have zr := ZRH.out; clear ZRH
        have zd := ZDH.out; clear ZDH
        have hC4 := (HC.out.alloc (by omega) (.cells #[.int .i64 (1 + x1)] 3)).only fun q hq hq2 => hgrow.block q hq (fun e => by have := hne1 q e.symm; omega)
        have hO4 : Only w2 w1.heap.size w9 := by
          have ha := only_trans HO.out (only_alloc w1.heap.size (w := w7) (.cells #[.int .i64 (1 + x1)] 3))
          exact ⟨hgrow.os.trans ha.os, hgrow.tape.trans ha.tape, hgrow.output.trans ha.output, Nat.le_trans ha.size hgrow.size, fun j hj hne => (hgrow.block j (Nat.lt_of_lt_of_le hj ha.size) (fun e => by have := hne1 j e.symm; omega)).trans (ha.block j hj hne)⟩
        replace zr := has_grown (has_alloc zr _) hgrow (fun e => by have := hne1 _ e.symm; omega)
        replace zd := has_grown (has_alloc zd _) hgrow (fun e => by have := hne1 _ e.symm; omega)
        obtain ⟨A8, c8, rfl, _⟩ := own_open hone
        go_roundw
        case rel => with_reducible exact ⟨M ++ [1 + x1], by simp; omega, hone, zr, zd, hC4, hO4, by omega⟩
        case measure => simp [lenOf] <;> omega
      have hlt2 : ¬ (M.length : Int) < 201 := by omega
      have zbE := HZB.out.trans (only_below HO.out (B := w.heap.size) (by omega) (by omega))
      have ZBE := Lib.hid zbE; clear zbE
      have zrc0 := has_cell zr 0 rfl; have zrc1 := has_cell zr 1 rfl; have zrc2 := has_cell zr 2 rfl; have zrc3 := has_cell zr 3 rfl; have zrc4 := has_cell zr 4 rfl
      have zrf0 := has_free zr 0; have zrf1 := has_free zr 1; have zrf2 := has_free zr 2; have zrf3 := has_free zr 3; have zrf4 := has_free zr 4
      have zrlt := has_lt zr
      have zdc0 := has_cell zd 0 rfl; have zdc1 := has_cell zd 1 rfl; have zdc2 := has_cell zd 2 rfl; have zdc3 := has_cell zd 3 rfl; have zdc4 := has_cell zd 4 rfl
      have zdlt := has_lt zd
      have ZRH := Lib.hid zr; clear zr
      have ZDH := Lib.hid zd; clear zd
      go_wp2_with fail
      refine bodyPost_ret (v := .tuple #[.agg #[.int .i64 k1, .int .i64 s1, .bool l1, .bool o1, .bool f1], .slice A9 (M).length c9]) ?_ ?_ ?_
      · simp [results, Try.results14, go_sem, zrc0, zrc1, zrc2, zrc3, zrc4, zrf0, zrf1, zrf2, zrf3, zrf4, zrlt]
      · rfl
      · unfold DrActs; with_reducible exact ⟨⟨_, _, _, _, _, A9, M, c9, rfl, (by omega), (own_cap HOWN.out).1, (own_cap HOWN.out).2, OR.more (or_of_own (own_keep (g := w.heap.size) HOWN.out (os5 (only_refl _ _) _ _ _ _ _) (by omega))) (by omega)⟩, bs5 (Nat.le_refl _) _ _ _ _ _ ZBE.out⟩
  · skip
    clear hx00 hx01
    have e0 : (x0 == 0) = false := by rw [beq_eq_false_iff_ne]; omega
    have e1 : (x0 == 1) = false := by rw [beq_eq_false_iff_ne]; omega
    obtain ⟨A9, c9, rfl, _⟩ := own_open HOWN.out
    have zbE := HZB.out.trans (only_below HO.out (B := w.heap.size) (by omega) (by omega))
    have ZBE := Lib.hid zbE; clear zbE
    have zrc0 := has_cell zr 0 rfl; have zrc1 := has_cell zr 1 rfl; have zrc2 := has_cell zr 2 rfl; have zrc3 := has_cell zr 3 rfl; have zrc4 := has_cell zr 4 rfl
    have zrf0 := has_free zr 0; have zrf1 := has_free zr 1; have zrf2 := has_free zr 2; have zrf3 := has_free zr 3; have zrf4 := has_free zr 4
    have zrlt := has_lt zr
    have zdc0 := has_cell zd 0 rfl; have zdc1 := has_cell zd 1 rfl; have zdc2 := has_cell zd 2 rfl; have zdc3 := has_cell zd 3 rfl; have zdc4 := has_cell zd 4 rfl
    have zdlt := has_lt zd
    have ZRH := Lib.hid zr; clear zr
    have ZDH := Lib.hid zd; clear zd
    go_wp2_with fail
    refine bodyPost_ret (v := .tuple #[.agg #[.int .i64 k1, .int .i64 s1, .bool l1, .bool o1, .bool f1], .slice A9 (L).length c9]) ?_ ?_ ?_
    · simp [results, Try.results14, go_sem, zrc0, zrc1, zrc2, zrc3, zrc4, zrf0, zrf1, zrf2, zrf3, zrf4, zrlt]
    · rfl
    · unfold DrActs; with_reducible exact ⟨⟨_, _, _, _, _, A9, L, c9, rfl, (by omega), (own_cap HOWN.out).1, (own_cap HOWN.out).2, OR.more (or_of_own (own_keep (g := w.heap.size) HOWN.out (os5 (only_refl _ _) _ _ _ _ _) (by omega))) (by omega)⟩, bs5 (Nat.le_refl _) _ _ _ _ _ ZBE.out⟩
end Go.Proofs.Ytaeonangkbhmgaa
