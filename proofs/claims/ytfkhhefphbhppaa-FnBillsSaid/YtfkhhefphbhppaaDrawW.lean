/- The drawing of spans and of weeks. -/
import Derived.Test.YtfkhhefphbhppaaPlaces
import Derived.Test.YtfkhhefphbhppaaSpanE
import Derived.Deep.RegionHeld3
namespace Go.Proofs.Ytfkhhefphbhppaa
open Go.RowKit
set_option linter.unusedVariables false

def lastTo : Int → List (Int × Int) → Int
  | p, [] => p
  | _, x :: r => lastTo x.2 r
theorem chain_snoc (most a b : Int) (h0 : 0 ≤ a) (h1 : a < b) (h2 : b ≤ most) : ∀ (l : List (Int × Int)) (p : Int), chainB p l most = true → lastTo p l < a → chainB p (l ++ [(a, b)]) most = true ∧ lastTo p (l ++ [(a, b)]) = b
  | [], p, _, hlt => by
    have hlt' : p < a := hlt
    constructor
    · show chainB p [(a, b)] most = true
      unfold chainB; rw [if_pos h0, if_pos h1, if_pos h2, if_pos hlt']; rfl
    · rfl
  | x :: r, p, hc, hlt => by
    unfold chainB at hc
    by_cases g1 : 0 ≤ x.1
    · by_cases g2 : x.1 < x.2
      · by_cases g3 : x.2 ≤ most
        · by_cases g4 : p < x.1
          · rw [if_pos g1, if_pos g2, if_pos g3, if_pos g4] at hc
            have ih := chain_snoc most a b h0 h1 h2 r x.2 hc hlt
            constructor
            · show chainB p (x :: (r ++ [(a, b)])) most = true
              unfold chainB; rw [if_pos g1, if_pos g2, if_pos g3, if_pos g4]; exact ih.1
            · exact ih.2
          · rw [if_pos g1, if_pos g2, if_pos g3, if_neg g4] at hc; cases hc
        · rw [if_pos g1, if_pos g2, if_neg g3] at hc; cases hc
      · rw [if_pos g1, if_neg g2] at hc; cases hc
    · rw [if_neg g1] at hc; cases hc

theorem cellsL_len (l : List (Int × Int)) : (cellsL l).length = l.length * 2 := by
  induction l with
  | nil => rfl
  | cons a r ih => simp [cellsL] at ih ⊢; omega
theorem cellsL_at : ∀ (l : List (Int × Int)) (k : Nat) (x : Int × Int), l[k]? = some x → (cellsL l)[k * 2]? = some (.int .i64 x.1) ∧ (cellsL l)[k * 2 + 1]? = some (.int .i64 x.2)
  | [], k, x, h => by simp at h
  | a :: r, 0, x, h => by
    have : a = x := by simpa using h
    subst this
    exact ⟨rfl, rfl⟩
  | a :: r, k + 1, x, h => by
    have := cellsL_at r k x (by simpa using h)
    have e : cellsL (a :: r) = .int .i64 a.1 :: .int .i64 a.2 :: cellsL r := rfl
    rw [e, show (k + 1) * 2 = k * 2 + 1 + 1 by omega, show k * 2 + 1 + 1 + 1 = (k * 2 + 1) + 1 + 1 by omega]
    simpa using this
theorem sl_own {w : World} {base : Nat} {v : Value} {l : List (Int × Int)} (h : w.ownsRow base 57 2 v l.length (cellsL l)) :
    ∃ A c, v = .slice A l.length c ∧ SL w w.heap.size A l ∧ ∀ a, A = some a → base ≤ a.block := by
  rcases Nat.eq_zero_or_pos l.length with h0 | h0
  · have hl : l = [] := List.eq_nil_of_length_eq_zero h0
    subst hl
    rcases h.2 with ⟨rfl, _⟩ | ⟨g, cap, cur, rfl, hb, _⟩
    · exact ⟨none, 0, rfl, .inl rfl, fun a ha => by cases ha⟩
    · exact ⟨some ⟨g, 0, none⟩, cap, rfl, .inl rfl, fun a ha => by injection ha with ha; subst ha; exact hb⟩
  · obtain ⟨g, cap, rfl, hb, hlt⟩ := h.form h0
    refine ⟨some ⟨g, 0, none⟩, cap, rfl, .inr ⟨g, 0, rfl, hlt, fun k x hk => ?_⟩, fun a ha => by injection ha with ha; subst ha; exact hb⟩
    have hkl : k < l.length := (List.getElem?_eq_some_iff.1 hk).1
    have := cellsL_at l k x hk
    rw [Nat.zero_add, h.cellAt (k * 2) (by omega), h.cellAt (k * 2 + 1) (by omega)]
    exact this

def SpansDrawn (most : Int) (w : World) (B g : Nat) (e : Ending) (w' : World) : Prop :=
  ∃ (v : Value) (l : List (Int × Int)), e = .returned v ∧ spansB l most = true ∧ l.length ≤ 4 ∧ w'.ownsRow w.heap.size 57 2 v l.length (cellsL l) ∧ Cur w' B g ∧ Only w g w'
theorem spans_of (l : List (Int × Int)) (most : Int) (h : chainB (-1) l most = true) (hl : l.length ≤ 4) : spansB l most = true := by
  unfold spansB; rw [if_pos (by omega)]; exact h
theorem only_grown {w a b : World} {g : Nat} {row : Option Nat} (h : Only w g a) (hg : a.grownBy b row) (hr : ∀ q, row = some q → w.heap.size ≤ q) : Only w g b :=
  ⟨hg.os.trans h.os, hg.tape.trans h.tape, hg.output.trans h.output, Nat.le_trans h.size hg.size, fun k hk hne => (hg.block k (Nat.lt_of_lt_of_le hk h.size) (fun e => by have := hr k e.symm; omega)).trans (h.block k hk hne)⟩
theorem only_new {w a : World} {g : Nat} (h : Only w g a) (o : Obj) : Only w g (a.alloc o) := only_grown (row := none) h ⟨rfl, rfl, rfl, (balloc a o).size, fun k hk _ => (balloc a o).block k hk⟩ (fun q e => by cases e)

set_option maxRecDepth 100000 in
set_option maxHeartbeats 2000000 in
theorem spansDraw_any (w : World) (B g : Nat) (most step : Int) (hs1 : 1 ≤ step) (hs2 : step ≤ 150) (hm0 : 0 ≤ most) (hm1 : most ≤ 20000) (hC : Cur w B g) :
    Calls Try.prog 40 #[.pointer (some ⟨g, 0, none⟩), .int .i64 most, .int .i64 step] w (SpansDrawn most w B g) := by
  have hlt0 := hC.lt
  have HC := Lib.hid hC; clear hC
  obtain ⟨i0, hi0, hz0, hz1, hz2⟩ := info_parts spanInfo
  go_enter Try.func40, Try.ntmps40
  go_wp2_with fail
  refine (below_any _ B g step hs1 (by omega) (HC.out.alloc hlt0.1 _)).mono ?_
  rintro e w1 ⟨x0, hx0, hx1, rfl, hC1, ho1⟩
  have HC1 := Lib.hid hC1; clear hC1
  go_wp2_with fail
  refine (below_any _ B g 5 (by omega) (by omega) HC1.out).mono ?_
  rintro e w2 ⟨k0, hk0, hk1, rfl, hC2, ho2⟩
  have hown2 : w2.ownsRow w.heap.size 57 2 (.slice (some ⟨w.heap.size, 0, none⟩) 0 0) 0 (cellsL []) := by
    have h0 := World.ownsRow_lit (base := w.heap.size) (e := 57) (size := 2) w #[] 0 (Nat.le_refl _) (Nat.zero_le _) rfl
    have h1 := own_only (own_only h0 ho1 (by simp [Value.ownBlock]; omega)) ho2 (by simp [Value.ownBlock]; omega)
    simpa [cellsL] using h1
  have HO2 := Lib.hid hown2; clear hown2
  have ho02 := only_trans (only_trans (only_new (only_refl w g) _) ho1) ho2
  have hC2z := hC2.lt
  have HC2 := Lib.hid hC2; clear hC2
  have HOn := Lib.hid ho02; clear ho02 ho1 ho2
  go_wp2_with fail
  go_loopw [7, 8, 9] (fun v xv kv wr => ∃ (l : List (Int × Int)) (x k : Int), xv = .int .i64 x ∧ kv = .int .i64 k ∧ 0 ≤ k ∧ (l.length : Int) + k ≤ 4 ∧ chainB (-1) l most = true ∧ lastTo (-1) l < x ∧ 0 ≤ x ∧ x ≤ 310 * (5 - k) ∧ wr.ownsRow w.heap.size 57 2 v l.length (cellsL l) ∧ Cur wr B g ∧ Only w g wr) (fun _ _ kv _ => (intOf kv).toNat)
  case atStart => exact ⟨[], x0, k0, rfl, rfl, hk0, by simp; omega, rfl, by show (-1 : Int) < x0; omega, hx0, by omega, HO2.out, HC2.out, HOn.out⟩
  case round =>
    obtain ⟨l, x, k, rfl, rfl, hk, hlk, hch, hlast, hxx, hxb, hown, hC, ho⟩ := hrel
    have hltC := hC.lt
    have hsz := ho.size
    have HC := Lib.hid hC; clear hC
    have HOWN := Lib.hid hown; clear hown
    have HCH := Lib.hid hch; clear hch
    have HLA := Lib.hid hlast; clear hlast
    have HOR := Lib.hid ho; clear ho
    by_cases hlt : 0 < k
    · go_wp2_with fail
      refine (below_any wr B g step hs1 (by omega) HC.out).mono ?_
      rintro e w3 ⟨y, hy0, hy1, rfl, hC3, ho3⟩
      have hne : u7.ownBlock ≠ some g := fun e => by have := (HOWN.out.lt _ e).1; omega
      have HO := Lib.hid (own_only HOWN.out ho3 hne)
      have hz3 := ho3.size
      have hC3z := hC3.lt
      have HC3 := Lib.hid hC3; clear hC3
      have HON3 := Lib.hid (only_trans HOR.out ho3); clear ho3
      by_cases hto : most < x + 1 + y
      · go_wp2_with fail
        go_ret
        exact ⟨u7, l, rfl, spans_of l most HCH.out (by omega), by omega, HO.out.alloc _, HC3.out.alloc hC3z.1 _, only_new HON3.out _⟩
      · have hnew := chain_snoc most x (x + 1 + y) hxx (by omega) (by omega) l (-1) HCH.out HLA.out
        have HNEW := Lib.hid hnew; clear hnew
        go_wp2_with (at_builtin; go_must (refine wpList_append_own _ rfl _ _ 24 rfl w.heap.size 57 i0 (.agg #[.int .i64 0, .int .i64 0]) 2 16 Try.underlying24 hi0 hz0 hz1 hz2 rfl (by decide) _ _ _ rfl ((HO.out.alloc _).alloc _) ⟨w3.heap.size + 1, 0, none⟩ 1 1 [.int .i64 x, .int .i64 (x + 1 + y)] rfl rfl ?c1 (by simp [Value.oneCell']) (by unfold maxLen; omega) (by omega) (by simp; omega) ?_))
        case c1 =>
          have h := World.news_of_block (cs := #[.int .i64 x, .int .i64 (x + 1 + y)]) (heap_alloc_new (w3.alloc (.cells #[.int .i64 x, .int .i64 (x + 1 + y)] 57)) (.cells #[.int .i64 x, .int .i64 (x + 1 + y)] 57))
          simpa using h
        intro v' w4 hown1 hgrow _
        have hq : ∀ q, u7.ownBlock = some q → w.heap.size ≤ q ∧ q < wr.heap.size := fun q e => HOWN.out.lt _ e
        have hgz := hgrow.size
        simp at hgz
        have hC4 : Cur w4 B g := ((HC3.out.alloc hC3z.1 (.cells #[.int .i64 x, .int .i64 (x + 1 + y)] 57)).alloc (by simp; omega) (.cells #[.int .i64 x, .int .i64 (x + 1 + y)] 57)).only fun q hq1 hq2 => hgrow.block q hq1 (fun e => by have := hq q e.symm; omega)
        have k4 : Has w4 w3.heap.size 57 #[.int .i64 x, .int .i64 (x + 1 + y)] := (hgrow.block _ (by simp; omega) (fun e => by have := hq _ e.symm; omega)).trans (has_alloc (has_new w3 _ _) _)
        have hon4 : Only w g w4 := only_grown (only_new (only_new HON3.out _) _) hgrow fun q e => (hq q e).1
        have HC4 := Lib.hid hC4; clear hC4
        have e1 := has_cell k4 1 rfl
        have K4 := Lib.hid k4; clear k4
        have HON4 := Lib.hid hon4; clear hon4
        have HOWN1 := Lib.hid hown1; clear hown1
        have q0 : IntKind.i64.wrap (x + 1 + y + 1) = x + 1 + y + 1 := IntWalk.i64_in _ (by omega)
        clear hq
        go_wp2_with fail
        go_region_held3 (fun W => W.cell? ⟨w3.heap.size, 1, none⟩ = some (.int .i64 (x + 1 + y))) (first | exact e1 | exact S5 | assumption) (first
          | (go_at_call 13; refine (below_any w4.drew B g step hs1 (by omega) HC4.out.drew).mono ?_; rintro e w5 ⟨z, hzz0, hzz1, rfl, hC5, ho5⟩; have S5 : w5.cell? ⟨w3.heap.size, 1, none⟩ = some (.int .i64 (x + 1 + y)) := has_cell (has_only (has_drew K4.out) ho5 (by omega)) 1 rfl; have qz : IntKind.i64.wrap (x + 1 + y + 1 + z) = x + 1 + y + 1 + z := IntWalk.i64_in _ (by omega); have HC5 := Lib.hid hC5; clear hC5; have HO5 := Lib.hid ho5; clear ho5))
        clear q0 qz S5 e1
        go_wp2_with fail
        go_roundw
        case rel =>
          have hv : v'.ownBlock ≠ some g := fun e => by have := (HOWN1.out.lt _ e).1; omega
          refine ⟨l ++ [(x, x + 1 + y)], x + 1 + y + 1 + z, k - 1, rfl, rfl, by omega, by simp; omega, HNEW.out.1, by rw [HNEW.out.2]; omega, by omega, by omega, ?_, HC5.out, only_trans (only_drew HON4.out) HO5.out⟩
          have h5 := own_only (g := g) (w := w4.drew) (HOWN1.out.drew) HO5.out hv
          simpa [cellsL] using h5
        case measure => simp [intOf]; omega
    · go_wp2_with fail
      go_ret
      exact ⟨u7, l, rfl, spans_of l most HCH.out (by omega), by omega, HOWN.out, HC.out, HOR.out⟩
end Go.Proofs.Ytfkhhefphbhppaa
