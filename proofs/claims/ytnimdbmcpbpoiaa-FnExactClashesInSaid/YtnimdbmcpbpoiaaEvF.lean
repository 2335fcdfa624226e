/- Chapter 8: FateOf, both sides (gen_evf.py). -/
import Derived.Test.YtnimdbmcpbpoiaaEvT
import Derived.Test.YtnimdbmcpbpoiaaEvN
namespace Go.Proofs.Ytnimdbmcpbpoiaa
open Go.RowKit
set_option linter.unusedVariables false
theorem bthenB {B : Nat} {a b c : World} (h : Below B a b) (hB : B ≤ a.heap.size) (k : Below b.heap.size b c) : Below B a c := h.trans (k.mono (Nat.le_trans hB h.size))
theorem or_set {w : World} {base b : Nat} {e : TypeId} {A : Option Addr} {xs : List Value} (h : OR w base e A xs) (hb : b < base) (i : Nat) (v : Value) : OR (w.setCell ⟨b, i, none⟩ v) base e A xs :=
  h.kept fun g hg _ => Below.heap_setCell w ⟨b, i, none⟩ v g (show g ≠ b by omega)
theorem or_kept {w w' : World} {base : Nat} {e : TypeId} {A : Option Addr} {xs : List Value} (h : OR w base e A xs) (hb : Below w.heap.size w w') : OR w' base e A xs := h.below hb
/-- seven cells stored -/
def set7 (w : World) (g : Nat) (f : Ft) : World := ((((((w.setCell ⟨g, 0, none⟩ (.int .i64 f.stg)).setCell ⟨g, 1, none⟩ (.int .i64 f.sit)).setCell ⟨g, 2, none⟩ (.int .i64 f.snc)).setCell ⟨g, 3, none⟩ (.int .i64 f.ext)).setCell ⟨g, 4, none⟩ (.int .i64 f.who)).setCell ⟨g, 5, none⟩ (.int .i64 f.fin)).setCell ⟨g, 6, none⟩ (.int .i64 f.cls)
theorem size_seven {cs : Array Value} (hs : cs.size = 7) : ∃ a0 a1 a2 a3 a4 a5 a6, cs = #[a0, a1, a2, a3, a4, a5, a6] := by
  obtain ⟨l⟩ := cs
  match l, hs with
  | [a0, a1, a2, a3, a4, a5, a6], _ => exact ⟨a0, a1, a2, a3, a4, a5, a6, rfl⟩
theorem has_set7 {w : World} {g : Nat} {t : TypeId} {cs : Array Value} (h : Has w g t cs) (hs : cs.size = 7) (f : Ft) : Has (set7 w g f) g t f.A := by
  obtain ⟨a0, a1, a2, a3, a4, a5, a6, rfl⟩ := size_seven hs
  have := has_set (has_set (has_set (has_set (has_set (has_set (has_set h 0 (.int .i64 f.stg)) 1 (.int .i64 f.sit)) 2 (.int .i64 f.snc)) 3 (.int .i64 f.ext)) 4 (.int .i64 f.who)) 5 (.int .i64 f.fin)) 6 (.int .i64 f.cls)
  simp only [List.setIfInBounds_toArray, List.set_cons_zero, List.set_cons_succ] at this
  exact this
theorem far_set7 {w : World} {g b : Nat} {t : TypeId} {cs : Array Value} (h : Has w b t cs) (hn : b ≠ g) (f : Ft) : Has (set7 w g f) b t cs :=
  has_far (has_far (has_far (has_far (has_far (has_far (has_far h (by simpa using hn) _) (by simpa using hn) _) (by simpa using hn) _) (by simpa using hn) _) (by simpa using hn) _) (by simpa using hn) _) (by simpa using hn) _
theorem or_set7 {w : World} {base g : Nat} {e : TypeId} {A : Option Addr} {xs : List Value} (h : OR w base e A xs) (hb : g < base) (f : Ft) : OR (set7 w g f) base e A xs :=
  or_set (or_set (or_set (or_set (or_set (or_set (or_set h hb _ _) hb _ _) hb _ _) hb _ _) hb _ _) hb _ _) hb _ _
theorem below_set7 {w0 w : World} {B g : Nat} (h : Below B w0 w) (hg : B ≤ g) (f : Ft) : Below B w0 (set7 w g f) :=
  ((((((h.setCell hg _).setCell hg _).setCell hg _).setCell hg _).setCell hg _).setCell hg _).setCell hg _
theorem size_set7 (w : World) (g : Nat) (f : Ft) : (set7 w g f).heap.size = w.heap.size := by simp [set7]
theorem nextS_at (w : World) (f0 f1 f2 f3 f4 f5 f6 x0 x1 x2 x3 x4 x5 x6 g0 g1 g2 g3 g4 g5 g6 : Int) (hk : 1 ≤ x3 ∧ x3 ≤ 4) (hb3 : 0 ≤ f3 ∧ f3 ≤ 1000000) (hb6 : 0 ≤ f6 ∧ f6 ≤ 1000000) (hg : nextE ⟨f0, f1, f2, f3, f4, f5, f6⟩ ⟨x0, x1, x2, x3, x4, x5, x6⟩ = ⟨g0, g1, g2, g3, g4, g5, g6⟩) : Calls Try.prog 30 #[.agg #[.int .i64 f0, .int .i64 f1, .int .i64 f2, .int .i64 f3, .int .i64 f4, .int .i64 f5, .int .i64 f6], .agg #[.int .i64 x0, .int .i64 x1, .int .i64 x2, .int .i64 x3, .int .i64 x4, .int .i64 x5, .int .i64 x6]] w fun e1 w' => e1 = .returned (.agg #[.int .i64 g0, .int .i64 g1, .int .i64 g2, .int .i64 g3, .int .i64 g4, .int .i64 g5, .int .i64 g6]) ∧ Below w.heap.size w w' := by
  have h := nextS_any w ⟨f0, f1, f2, f3, f4, f5, f6⟩ ⟨x0, x1, x2, x3, x4, x5, x6⟩ hk hb3 hb6
  rw [hg] at h; exact h
theorem nextI_at (w : World) (f0 f1 f2 f3 f4 f5 f6 x0 x1 x2 x3 x4 x5 x6 g0 g1 g2 g3 g4 g5 g6 : Int) (hk : 1 ≤ x3 ∧ x3 ≤ 4) (hb3 : 0 ≤ f3 ∧ f3 ≤ 1000000) (hb6 : 0 ≤ f6 ∧ f6 ≤ 1000000) (hg : nextE ⟨f0, f1, f2, f3, f4, f5, f6⟩ ⟨x0, x1, x2, x3, x4, x5, x6⟩ = ⟨g0, g1, g2, g3, g4, g5, g6⟩) : Calls Try.prog 31 #[.agg #[.int .i64 f0, .int .i64 f1, .int .i64 f2, .int .i64 f3, .int .i64 f4, .int .i64 f5, .int .i64 f6], .agg #[.int .i64 x0, .int .i64 x1, .int .i64 x2, .int .i64 x3, .int .i64 x4, .int .i64 x5, .int .i64 x6]] w fun e1 w' => e1 = .returned (.agg #[.int .i64 g0, .int .i64 g1, .int .i64 g2, .int .i64 g3, .int .i64 g4, .int .i64 g5, .int .i64 g6]) ∧ Below w.heap.size w w' := by
  have h := nextI_any w ⟨f0, f1, f2, f3, f4, f5, f6⟩ ⟨x0, x1, x2, x3, x4, x5, x6⟩ hk hb3 hb6
  rw [hg] at h; exact h
theorem fate_len0 {l : List Ev} (h : jrnB l = false) (p : Int) : fateE l p = zeroF := by unfold fateE; rw [h]; rfl
theorem fate_good {l : List Ev} (h : jrnB l = true) (p : Int) : fateE l p = fateN l p l.length := by unfold fateE; rw [h]; rfl
theorem fate_next {l : List Ev} {p : Int} {k i : Nat} {x : Ev} (hi : (orderN l)[k]? = some i) (hx : l[i]? = some x) (hp : x.par = p) : fateN l p (k + 1) = nextE (fateN l p k) x := by
  rw [fateN_succ hi, kI_at hx, if_pos hp]
theorem fate_same {l : List Ev} {p : Int} {k i : Nat} {x : Ev} (hi : (orderN l)[k]? = some i) (hx : l[i]? = some x) (hp : ¬ x.par = p) : fateN l p (k + 1) = fateN l p k := by
  rw [fateN_succ hi, kI_at hx, if_neg hp]
set_option maxRecDepth 100000 in
set_option maxHeartbeats 2000000 in
theorem fateS_bad (w : World) (B : Nat) (A : Option Addr) (c : Nat) (l : List Ev) (p : Int) (hl : l.length ≤ 1048576) (hB : B ≤ w.heap.size) (hS : evL w B A l) (hq : jrnB l = false) : Calls Try.prog 16 #[.slice A l.length c, .int .i64 p] w fun e w' => e = .returned (.agg (fateE l p).A) ∧ Below w.heap.size w w' := by
  have HQ := Lib.hid hq; clear hq
  have HS := Lib.hid hS; clear hS
  have hoe := orderE_bad HQ.out
  go_enter Try.func16, Try.ntmps16
  go_wp2_with fail
  generalize hX : (w.alloc (.cells #[.int .i64 0, .int .i64 0, .int .i64 0, .int .i64 0, .int .i64 0, .int .i64 0, .int .i64 0] 34)) = w0
  generalize hY : (w0.alloc (.cells #[.int .i64 0, .int .i64 0, .int .i64 0, .int .i64 0, .int .i64 0, .int .i64 0, .int .i64 0] 34)) = w1
  have hs0 : w0.heap.size = w.heap.size + 1 := by rw [← hX]; simp
  have hs1 : w1.heap.size = w.heap.size + 1 + 1 := by rw [← hY, ← hX]; simp
  have hb1 : Below w.heap.size w w1 := by rw [← hY, ← hX]; exact bthen (balloc _ _) (balloc _ _)
  have zr : Has w1 w.heap.size 34 #[.int .i64 0, .int .i64 0, .int .i64 0, .int .i64 0, .int .i64 0, .int .i64 0, .int .i64 0] := by rw [← hY, ← hX]; exact has_alloc (has_new _ _ _) _
  have zt : Has w1 (w.heap.size + 1) 34 #[.int .i64 0, .int .i64 0, .int .i64 0, .int .i64 0, .int .i64 0, .int .i64 0, .int .i64 0] := by rw [← hY, ← hs0]; exact has_new _ _ _
  clear hX hY hs0
  refine (orderS_any w1 B A c l hl (by omega) (HS.out.later hB hb1)).mono ?_
  rintro e w2 ⟨A6, c6, rfl, hor, hb2⟩
  replace zr := has_call zr hb2; replace zt := has_call zt hb2; have zb := bthen hb1 hb2
  have hs2 := hb2.size
  clear hb1 hb2
  rw [hoe] at hor ⊢; clear hoe hor
  have ZR := Lib.hid zr; have ZT := Lib.hid zt; have ZB := Lib.hid zb; clear zr zt zb
  go_wp2_with fail
  go_loopw [7] (fun i wr => i = .int .i64 0 ∧ wr = w2) (fun i _ => 0)
  case atStart => first | exact ⟨rfl, rfl⟩ | exact ⟨rfl, trivial⟩
  case round =>
    obtain ⟨rfl, rfl⟩ := hrel
    have r0 := has_cell ZR.out 0 rfl; have rf0 := has_free ZR.out 0; have r1 := has_cell ZR.out 1 rfl; have rf1 := has_free ZR.out 1; have r2 := has_cell ZR.out 2 rfl; have rf2 := has_free ZR.out 2; have r3 := has_cell ZR.out 3 rfl; have rf3 := has_free ZR.out 3; have r4 := has_cell ZR.out 4 rfl; have rf4 := has_free ZR.out 4; have r5 := has_cell ZR.out 5 rfl; have rf5 := has_free ZR.out 5; have r6 := has_cell ZR.out 6 rfl; have rf6 := has_free ZR.out 6
    have t0 := has_cell ZT.out 0 rfl; have t1 := has_cell ZT.out 1 rfl; have t2 := has_cell ZT.out 2 rfl; have t3 := has_cell ZT.out 3 rfl; have t4 := has_cell ZT.out 4 rfl; have t5 := has_cell ZT.out 5 rfl; have t6 := has_cell ZT.out 6 rfl
    have hlr := has_lt ZR.out; have hlt2 := has_lt ZT.out
    go_wp2_with fail
    have zz := has_set7 (w := _) ZR.out rfl zeroF; unfold set7 at zz; dsimp only [zeroF, Ft.A] at zz
    have z0 := has_cell zz 0 rfl; have z1 := has_cell zz 1 rfl; have z2 := has_cell zz 2 rfl; have z3 := has_cell zz 3 rfl; have z4 := has_cell zz 4 rfl; have z5 := has_cell zz 5 rfl; have z6 := has_cell zz 6 rfl
    clear zz
    refine bodyPost_ret (v := .agg #[.int .i64 0, .int .i64 0, .int .i64 0, .int .i64 0, .int .i64 0, .int .i64 0, .int .i64 0]) (by simp [results, Try.results16, go_sem, z0, z1, z2, z3, z4, z5, z6]) rfl ⟨?_, ?_⟩
    · rw [fate_len0 HQ.out]; rfl
    · repeat (first | (with_reducible exact ZB.out) | (with_reducible refine Below.setCell ?_ (by first | exact Nat.le_refl _ | exact Nat.le_succ _) _))
set_option maxRecDepth 100000 in
set_option maxHeartbeats 8000000 in
theorem fateS_good (w : World) (B : Nat) (A : Option Addr) (c : Nat) (l : List Ev) (p : Int) (hl : l.length ≤ 1048576) (hB : B ≤ w.heap.size) (hS : evL w B A l) (hq : jrnB l = true) : Calls Try.prog 16 #[.slice A l.length c, .int .i64 p] w fun e w' => e = .returned (.agg (fateE l p).A) ∧ Below w.heap.size w w' := by
  have HQ := Lib.hid hq; have hl60 := jrn_len hq; clear hq
  have HS := Lib.hid hS; clear hS
  have hoe := orderE_good HQ.out
  have hol : (natI (orderN l)).length = l.length := by rw [natI_len, orderN_len]
  go_enter Try.func16, Try.ntmps16
  go_wp2_with fail
  generalize hX : (w.alloc (.cells #[.int .i64 0, .int .i64 0, .int .i64 0, .int .i64 0, .int .i64 0, .int .i64 0, .int .i64 0] 34)) = w0
  generalize hY : (w0.alloc (.cells #[.int .i64 0, .int .i64 0, .int .i64 0, .int .i64 0, .int .i64 0, .int .i64 0, .int .i64 0] 34)) = w1
  have hs0 : w0.heap.size = w.heap.size + 1 := by rw [← hX]; simp
  have hs1 : w1.heap.size = w.heap.size + 1 + 1 := by rw [← hY, ← hX]; simp
  have hb1 : Below w.heap.size w w1 := by rw [← hY, ← hX]; exact bthen (balloc _ _) (balloc _ _)
  have zr : Has w1 w.heap.size 34 #[.int .i64 0, .int .i64 0, .int .i64 0, .int .i64 0, .int .i64 0, .int .i64 0, .int .i64 0] := by rw [← hY, ← hX]; exact has_alloc (has_new _ _ _) _
  have zt : Has w1 (w.heap.size + 1) 34 #[.int .i64 0, .int .i64 0, .int .i64 0, .int .i64 0, .int .i64 0, .int .i64 0, .int .i64 0] := by rw [← hY, ← hs0]; exact has_new _ _ _
  clear hX hY hs0
  refine (orderS_any w1 B A c l hl (by omega) (HS.out.later hB hb1)).mono ?_
  rintro e w2 ⟨A6, c6, rfl, hor, hb2⟩
  replace zr := has_call zr hb2; replace zt := has_call zt hb2; have zb := bthen hb1 hb2
  have hs2 := hb2.size
  clear hb1 hb2
  rw [hoe] at hor ⊢; rw [hol]; have HOR := Lib.hid hor; have HOL := Lib.hid hol; clear hoe hor hol
  have ZR := Lib.hid zr; have ZT := Lib.hid zt; have ZB := Lib.hid zb; clear zr zt zb
  go_wp2_with fail
  go_loopw [7] (fun i wr => ∃ k : Nat, k ≤ l.length ∧ i = .int .i64 k ∧ Has wr w.heap.size 34 #[.int .i64 0, .int .i64 0, .int .i64 0, .int .i64 0, .int .i64 0, .int .i64 0, .int .i64 0] ∧ Has wr (w.heap.size + 1) 34 (fateN l p k).A ∧ OR wr w1.heap.size 3 A6 (intV (natI (orderN l))) ∧ Below w.heap.size w wr) (fun i _ => l.length - (intOf i).toNat)
  case atStart => exact ⟨0, Nat.zero_le _, rfl, ZR.out, ZT.out, HOR.out, ZB.out⟩
  case round =>
    clear ZR ZT HOR ZB hs2
    obtain ⟨k, hk, rfl, hzr, hzt, hor, hb⟩ := hrel
    have hsz := hb.size; have hzl := has_lt hzt
    have ZR := Lib.hid hzr; have ZT := Lib.hid hzt; have HOR := Lib.hid hor; have HB := Lib.hid hb; clear hzr hzt hor hb
    have hfin := fateN_in l p k
    obtain ⟨⟨f0, f1, f2, f3, f4, f5, f6⟩, hF⟩ : ∃ f, fateN l p k = f := ⟨_, rfl⟩
    rw [hF] at ZT hfin
    have hzt9 : Has wr (w.heap.size + 1) 34 #[.int .i64 f0, .int .i64 f1, .int .i64 f2, .int .i64 f3, .int .i64 f4, .int .i64 f5, .int .i64 f6] := ZT.out
    clear ZT; have ZT := Lib.hid hzt9; clear hzt9
    unfold FtIn at hfin; dsimp only at hfin; obtain ⟨⟨e30, e31⟩, e60, e61⟩ := hfin
    have HF := Lib.hid hF; clear hF
    by_cases hlt : k < l.length
    · skip
      obtain ⟨b6, off6, ii, rfl, hb6, hii, hd⟩ := (HOR.out.il).at_ (k := k) (by rw [HOL.out]; exact hlt)
      obtain ⟨i, hi⟩ : ∃ i, (orderN l)[k]? = some i := ⟨_, List.getElem?_eq_getElem (by rw [orderN_len]; exact hlt)⟩
      obtain rfl : ii = (i : Int) := by rw [natI_at hi] at hii; injection hii with hii; exact hii.symm
      have hil := orderN_mem (List.mem_of_getElem? hi)
      have HI := Lib.hid hi; clear hi hii
      obtain ⟨b, off, ⟨x0, x1, x2, x3, x4, x5, x6⟩, rfl, hbB, hx, hc0, hc1, hc2, hc3, hc4, hc5, hc6⟩ := (HS.out.below (HB.out.mono hB)).at_ hil
      dsimp only at hc0 hc1 hc2 hc3 hc4 hc5 hc6
      have hev := (evB_facts (jrn_at HQ.out hx)).2.2.2.1; dsimp only at hev; have HX := Lib.hid hx; have HEV := Lib.hid hev; clear hx hev
      have j0 : (0 : Int) ≤ i := (by omega); have j1 : (i : Int) < l.length := (by omega)
      have HKL := Lib.hid hk; clear hk
      by_cases hp : x4 = p
      · skip
        have hpd : (x4 == p) = true := by simp [hp]
        have HPP := Lib.hid hp; clear hp
        have t0 := has_cell ZT.out 0 rfl; have tf0 := has_free ZT.out 0; have t1 := has_cell ZT.out 1 rfl; have tf1 := has_free ZT.out 1; have t2 := has_cell ZT.out 2 rfl; have tf2 := has_free ZT.out 2; have t3 := has_cell ZT.out 3 rfl; have tf3 := has_free ZT.out 3; have t4 := has_cell ZT.out 4 rfl; have tf4 := has_free ZT.out 4; have t5 := has_cell ZT.out 5 rfl; have tf5 := has_free ZT.out 5; have t6 := has_cell ZT.out 6 rfl; have tf6 := has_free ZT.out 6
        have htl := has_lt ZT.out
        obtain ⟨⟨g0, g1, g2, g3, g4, g5, g6⟩, hG⟩ : ∃ g, nextE ⟨f0, f1, f2, f3, f4, f5, f6⟩ ⟨x0, x1, x2, x3, x4, x5, x6⟩ = g := ⟨_, rfl⟩
        have HG := Lib.hid hG; clear hG
        -- S True
        go_wp2_with fail
        generalize hX : (wr.alloc (.cells #[.int .i64 x0, .int .i64 x1, .int .i64 x2, .int .i64 x3, .int .i64 x4, .int .i64 x5, .int .i64 x6] 41)) = w3
        have hb3 : Below wr.heap.size wr w3 := by rw [← hX]; exact balloc _ _
        clear hX
        refine (nextS_at w3 f0 f1 f2 f3 f4 f5 f6 x0 x1 x2 x3 x4 x5 x6 g0 g1 g2 g3 g4 g5 g6 HEV.out ⟨e30, by omega⟩ ⟨e60, by omega⟩ HG.out).mono ?_
        rintro e w4 ⟨rfl, hb4⟩
        have hb34 := bthen hb3 hb4
        have ZR4 := Lib.hid (has_call ZR.out hb34); have ZT4 := Lib.hid (has_call ZT.out hb34); have HOR4 := Lib.hid (or_kept HOR.out hb34); have HB4 := Lib.hid (HB.out.trans (hb34.mono hsz)); have hs4 := hb34.size
        clear hb3 hb4 hb34 t0 tf0 t1 tf1 t2 tf2 t3 tf3 t4 tf4 t5 tf5 t6 tf6
        have t0 := has_cell ZT4.out 0 rfl; have tf0 := has_free ZT4.out 0; have t1 := has_cell ZT4.out 1 rfl; have tf1 := has_free ZT4.out 1; have t2 := has_cell ZT4.out 2 rfl; have tf2 := has_free ZT4.out 2; have t3 := has_cell ZT4.out 3 rfl; have tf3 := has_free ZT4.out 3; have t4 := has_cell ZT4.out 4 rfl; have tf4 := has_free ZT4.out 4; have t5 := has_cell ZT4.out 5 rfl; have tf5 := has_free ZT4.out 5; have t6 := has_cell ZT4.out 6 rfl; have tf6 := has_free ZT4.out 6
        have HH := Lib.hid (show fateN l p (k + 1) = ⟨g0, g1, g2, g3, g4, g5, g6⟩ by rw [fate_next HI.out HX.out HPP.out, HF.out]; exact HG.out)
        go_wp2_with fail
        go_roundw
        case rel => exact ⟨k + 1, by omega, by go_num, far_set7 ZR4.out (by omega) ⟨g0, g1, g2, g3, g4, g5, g6⟩, by rw [HH.out]; exact has_set7 ZT4.out rfl ⟨g0, g1, g2, g3, g4, g5, g6⟩, or_set7 HOR4.out (by omega) ⟨g0, g1, g2, g3, g4, g5, g6⟩, below_set7 HB4.out (by omega) ⟨g0, g1, g2, g3, g4, g5, g6⟩⟩
        case measure => simp [intOf]; omega
      · skip
        have hpd : (x4 == p) = false := by simp [hp]
        have HPP := Lib.hid hp; clear hp
        go_wp2_with fail
        -- S False
        go_roundw
        case rel => exact ⟨k + 1, by omega, by go_num, has_alloc ZR.out _, by rw [fate_same HI.out HX.out HPP.out, HF.out]; exact has_alloc ZT.out _, or_kept HOR.out (balloc _ _), HB.out.alloc hsz _⟩
        case measure => simp [intOf]; omega
    · skip
      have hkl : k = l.length := by omega
      have HKE := Lib.hid hkl; have ZB := HB; clear hkl
      have r0 := has_cell ZR.out 0 rfl; have rf0 := has_free ZR.out 0; have r1 := has_cell ZR.out 1 rfl; have rf1 := has_free ZR.out 1; have r2 := has_cell ZR.out 2 rfl; have rf2 := has_free ZR.out 2; have r3 := has_cell ZR.out 3 rfl; have rf3 := has_free ZR.out 3; have r4 := has_cell ZR.out 4 rfl; have rf4 := has_free ZR.out 4; have r5 := has_cell ZR.out 5 rfl; have rf5 := has_free ZR.out 5; have r6 := has_cell ZR.out 6 rfl; have rf6 := has_free ZR.out 6
      have t0 := has_cell ZT.out 0 rfl; have t1 := has_cell ZT.out 1 rfl; have t2 := has_cell ZT.out 2 rfl; have t3 := has_cell ZT.out 3 rfl; have t4 := has_cell ZT.out 4 rfl; have t5 := has_cell ZT.out 5 rfl; have t6 := has_cell ZT.out 6 rfl
      have hlr := has_lt ZR.out; have hlt2 := has_lt ZT.out
      go_wp2_with fail
      have zz := has_set7 (w := wr) ZR.out rfl (⟨f0, f1, f2, f3, f4, f5, f6⟩ : Ft); unfold set7 at zz; dsimp only [Ft.A] at zz
      have z0 := has_cell zz 0 rfl; have z1 := has_cell zz 1 rfl; have z2 := has_cell zz 2 rfl; have z3 := has_cell zz 3 rfl; have z4 := has_cell zz 4 rfl; have z5 := has_cell zz 5 rfl; have z6 := has_cell zz 6 rfl
      clear zz
      refine bodyPost_ret (v := .agg #[.int .i64 f0, .int .i64 f1, .int .i64 f2, .int .i64 f3, .int .i64 f4, .int .i64 f5, .int .i64 f6]) (by simp [results, Try.results16, go_sem, z0, z1, z2, z3, z4, z5, z6]) rfl ⟨?_, ?_⟩
      · rw [fate_good HQ.out, ← HKE.out, HF.out]; rfl
      · repeat (first | (with_reducible exact ZB.out) | (with_reducible refine Below.setCell ?_ (by first | exact Nat.le_refl _ | exact Nat.le_succ _) _))
theorem fateS_any (w : World) (B : Nat) (A : Option Addr) (c : Nat) (l : List Ev) (p : Int) (hl : l.length ≤ 1048576) (hB : B ≤ w.heap.size) (hS : evL w B A l) : Calls Try.prog 16 #[.slice A l.length c, .int .i64 p] w fun e w' => e = .returned (.agg (fateE l p).A) ∧ Below w.heap.size w w' := by
  cases hq : jrnB l
  · exact fateS_bad w B A c l p hl hB hS hq
  · exact fateS_good w B A c l p hl hB hS hq
set_option maxRecDepth 100000 in
set_option maxHeartbeats 2000000 in
theorem fateI_bad (w : World) (B : Nat) (A : Option Addr) (c : Nat) (l : List Ev) (p : Int) (hl : l.length ≤ 1048576) (hB : B ≤ w.heap.size) (hS : evL w B A l) (hq : jrnB l = false) : Calls Try.prog 17 #[.slice A l.length c, .int .i64 p] w fun e w' => e = .returned (.agg (fateE l p).A) ∧ Below w.heap.size w w' := by
  have HQ := Lib.hid hq; clear hq
  have HS := Lib.hid hS; clear hS
  have hoe := orderE_bad HQ.out
  go_enter Try.func17, Try.ntmps17
  go_wp2_with fail
  generalize hX : (w.alloc (.cells #[.int .i64 0, .int .i64 0, .int .i64 0, .int .i64 0, .int .i64 0, .int .i64 0, .int .i64 0] 34)) = w0
  generalize hY : (w0.alloc (.cells #[.int .i64 0, .int .i64 0, .int .i64 0, .int .i64 0, .int .i64 0, .int .i64 0, .int .i64 0] 34)) = w1
  have hs0 : w0.heap.size = w.heap.size + 1 := by rw [← hX]; simp
  have hs1 : w1.heap.size = w.heap.size + 1 + 1 := by rw [← hY, ← hX]; simp
  have hb1 : Below w.heap.size w w1 := by rw [← hY, ← hX]; exact bthen (balloc _ _) (balloc _ _)
  have zr : Has w1 w.heap.size 34 #[.int .i64 0, .int .i64 0, .int .i64 0, .int .i64 0, .int .i64 0, .int .i64 0, .int .i64 0] := by rw [← hY, ← hX]; exact has_alloc (has_new _ _ _) _
  have zt : Has w1 (w.heap.size + 1) 34 #[.int .i64 0, .int .i64 0, .int .i64 0, .int .i64 0, .int .i64 0, .int .i64 0, .int .i64 0] := by rw [← hY, ← hs0]; exact has_new _ _ _
  clear hX hY hs0
  refine (orderI_any w1 B A c l hl (by omega) (HS.out.later hB hb1)).mono ?_
  rintro e w2 ⟨A6, c6, rfl, hor, hb2⟩
  replace zr := has_call zr hb2; replace zt := has_call zt hb2; have zb := bthen hb1 hb2
  have hs2 := hb2.size
  clear hb1 hb2
  rw [hoe] at hor ⊢; clear hoe hor
  have ZR := Lib.hid zr; have ZT := Lib.hid zt; have ZB := Lib.hid zb; clear zr zt zb
  go_wp2_with fail
  go_loopw [12] (fun i wr => i = .int .i64 0 ∧ wr = w2) (fun i _ => 0)
  case atStart => first | exact ⟨rfl, rfl⟩ | exact ⟨rfl, trivial⟩
  case round =>
    obtain ⟨rfl, rfl⟩ := hrel
    have r0 := has_cell ZR.out 0 rfl; have rf0 := has_free ZR.out 0; have r1 := has_cell ZR.out 1 rfl; have rf1 := has_free ZR.out 1; have r2 := has_cell ZR.out 2 rfl; have rf2 := has_free ZR.out 2; have r3 := has_cell ZR.out 3 rfl; have rf3 := has_free ZR.out 3; have r4 := has_cell ZR.out 4 rfl; have rf4 := has_free ZR.out 4; have r5 := has_cell ZR.out 5 rfl; have rf5 := has_free ZR.out 5; have r6 := has_cell ZR.out 6 rfl; have rf6 := has_free ZR.out 6
    have t0 := has_cell ZT.out 0 rfl; have t1 := has_cell ZT.out 1 rfl; have t2 := has_cell ZT.out 2 rfl; have t3 := has_cell ZT.out 3 rfl; have t4 := has_cell ZT.out 4 rfl; have t5 := has_cell ZT.out 5 rfl; have t6 := has_cell ZT.out 6 rfl
    have hlr := has_lt ZR.out; have hlt2 := has_lt ZT.out
    go_wp2_with fail
    have zz := has_set7 (w := _) ZR.out rfl zeroF; unfold set7 at zz; dsimp only [zeroF, Ft.A] at zz
    have z0 := has_cell zz 0 rfl; have z1 := has_cell zz 1 rfl; have z2 := has_cell zz 2 rfl; have z3 := has_cell zz 3 rfl; have z4 := has_cell zz 4 rfl; have z5 := has_cell zz 5 rfl; have z6 := has_cell zz 6 rfl
    clear zz
    refine bodyPost_ret (v := .agg #[.int .i64 0, .int .i64 0, .int .i64 0, .int .i64 0, .int .i64 0, .int .i64 0, .int .i64 0]) (by simp [results, Try.results17, go_sem, z0, z1, z2, z3, z4, z5, z6]) rfl ⟨?_, ?_⟩
    · rw [fate_len0 HQ.out]; rfl
    · repeat (first | (with_reducible exact ZB.out) | (with_reducible refine Below.setCell ?_ (by first | exact Nat.le_refl _ | exact Nat.le_succ _) _))
set_option maxRecDepth 100000 in
set_option maxHeartbeats 8000000 in
theorem fateI_good (w : World) (B : Nat) (A : Option Addr) (c : Nat) (l : List Ev) (p : Int) (hl : l.length ≤ 1048576) (hB : B ≤ w.heap.size) (hS : evL w B A l) (hq : jrnB l = true) : Calls Try.prog 17 #[.slice A l.length c, .int .i64 p] w fun e w' => e = .returned (.agg (fateE l p).A) ∧ Below w.heap.size w w' := by
  have HQ := Lib.hid hq; have hl60 := jrn_len hq; clear hq
  have HS := Lib.hid hS; clear hS
  have hoe := orderE_good HQ.out
  have hol : (natI (orderN l)).length = l.length := by rw [natI_len, orderN_len]
  go_enter Try.func17, Try.ntmps17
  go_wp2_with fail
  generalize hX : (w.alloc (.cells #[.int .i64 0, .int .i64 0, .int .i64 0, .int .i64 0, .int .i64 0, .int .i64 0, .int .i64 0] 34)) = w0
  generalize hY : (w0.alloc (.cells #[.int .i64 0, .int .i64 0, .int .i64 0, .int .i64 0, .int .i64 0, .int .i64 0, .int .i64 0] 34)) = w1
  have hs0 : w0.heap.size = w.heap.size + 1 := by rw [← hX]; simp
  have hs1 : w1.heap.size = w.heap.size + 1 + 1 := by rw [← hY, ← hX]; simp
  have hb1 : Below w.heap.size w w1 := by rw [← hY, ← hX]; exact bthen (balloc _ _) (balloc _ _)
  have zr : Has w1 w.heap.size 34 #[.int .i64 0, .int .i64 0, .int .i64 0, .int .i64 0, .int .i64 0, .int .i64 0, .int .i64 0] := by rw [← hY, ← hX]; exact has_alloc (has_new _ _ _) _
  have zt : Has w1 (w.heap.size + 1) 34 #[.int .i64 0, .int .i64 0, .int .i64 0, .int .i64 0, .int .i64 0, .int .i64 0, .int .i64 0] := by rw [← hY, ← hs0]; exact has_new _ _ _
  clear hX hY hs0
  refine (orderI_any w1 B A c l hl (by omega) (HS.out.later hB hb1)).mono ?_
  rintro e w2 ⟨A6, c6, rfl, hor, hb2⟩
  replace zr := has_call zr hb2; replace zt := has_call zt hb2; have zb := bthen hb1 hb2
  have hs2 := hb2.size
  clear hb1 hb2
  rw [hoe] at hor ⊢; rw [hol]; have HOR := Lib.hid hor; have HOL := Lib.hid hol; clear hoe hor hol
  have ZR := Lib.hid zr; have ZT := Lib.hid zt; have ZB := Lib.hid zb; clear zr zt zb
  go_wp2_with fail
  go_loopw [12] (fun i wr => ∃ k : Nat, k ≤ l.length ∧ i = .int .i64 k ∧ Has wr w.heap.size 34 #[.int .i64 0, .int .i64 0, .int .i64 0, .int .i64 0, .int .i64 0, .int .i64 0, .int .i64 0] ∧ Has wr (w.heap.size + 1) 34 (fateN l p k).A ∧ OR wr w1.heap.size 3 A6 (intV (natI (orderN l))) ∧ Below w.heap.size w wr) (fun i _ => l.length - (intOf i).toNat)
  case atStart => exact ⟨0, Nat.zero_le _, rfl, ZR.out, ZT.out, HOR.out, ZB.out⟩
  case round =>
    clear ZR ZT HOR ZB hs2
    obtain ⟨k, hk, rfl, hzr, hzt, hor, hb⟩ := hrel
    have hsz := hb.size; have hzl := has_lt hzt
    have ZR := Lib.hid hzr; have ZT := Lib.hid hzt; have HOR := Lib.hid hor; have HB := Lib.hid hb; clear hzr hzt hor hb
    have hfin := fateN_in l p k
    obtain ⟨⟨f0, f1, f2, f3, f4, f5, f6⟩, hF⟩ : ∃ f, fateN l p k = f := ⟨_, rfl⟩
    rw [hF] at ZT hfin
    have hzt9 : Has wr (w.heap.size + 1) 34 #[.int .i64 f0, .int .i64 f1, .int .i64 f2, .int .i64 f3, .int .i64 f4, .int .i64 f5, .int .i64 f6] := ZT.out
    clear ZT; have ZT := Lib.hid hzt9; clear hzt9
    unfold FtIn at hfin; dsimp only at hfin; obtain ⟨⟨e30, e31⟩, e60, e61⟩ := hfin
    have HF := Lib.hid hF; clear hF
    by_cases hlt : k < l.length
    · skip
      obtain ⟨b6, off6, ii, rfl, hb6, hii, hd⟩ := (HOR.out.il).at_ (k := k) (by rw [HOL.out]; exact hlt)
      obtain ⟨i, hi⟩ : ∃ i, (orderN l)[k]? = some i := ⟨_, List.getElem?_eq_getElem (by rw [orderN_len]; exact hlt)⟩
      obtain rfl : ii = (i : Int) := by rw [natI_at hi] at hii; injection hii with hii; exact hii.symm
      have hil := orderN_mem (List.mem_of_getElem? hi)
      have HI := Lib.hid hi; clear hi hii
      obtain ⟨b, off, ⟨x0, x1, x2, x3, x4, x5, x6⟩, rfl, hbB, hx, hc0, hc1, hc2, hc3, hc4, hc5, hc6⟩ := (HS.out.below (HB.out.mono hB)).at_ hil
      dsimp only at hc0 hc1 hc2 hc3 hc4 hc5 hc6
      have hev := (evB_facts (jrn_at HQ.out hx)).2.2.2.1; dsimp only at hev; have HX := Lib.hid hx; have HEV := Lib.hid hev; clear hx hev
      have j0 : (0 : Int) ≤ i := (by omega); have j1 : (i : Int) < l.length := (by omega)
      have HKL := Lib.hid hk; clear hk
      by_cases hp : x4 = p
      · skip
        have hpd : (x4 == p) = true := by simp [hp]
        have HPP := Lib.hid hp; clear hp
        obtain ⟨⟨g0, g1, g2, g3, g4, g5, g6⟩, hG⟩ : ∃ g, nextE ⟨f0, f1, f2, f3, f4, f5, f6⟩ ⟨x0, x1, x2, x3, x4, x5, x6⟩ = g := ⟨_, rfl⟩
        have HG := Lib.hid hG; clear hG
        -- I True
        go_wp2_with fail
        have hbw : b < w.heap.size := by omega
        have hsz2 : w.heap.size ≤ wr.heap.size := hsz
        have S0 : (fun W : World => (W.cell? ⟨b, off + i * 7, none⟩ = some (.int .i64 x0) ∧ W.cell? ⟨b, off + i * 7 + 1, none⟩ = some (.int .i64 x1) ∧ W.cell? ⟨b, off + i * 7 + 2, none⟩ = some (.int .i64 x2) ∧ W.cell? ⟨b, off + i * 7 + 3, none⟩ = some (.int .i64 x3) ∧ W.cell? ⟨b, off + i * 7 + 4, none⟩ = some (.int .i64 x4) ∧ W.cell? ⟨b, off + i * 7 + 5, none⟩ = some (.int .i64 x5) ∧ W.cell? ⟨b, off + i * 7 + 6, none⟩ = some (.int .i64 x6)) ∧ Below w.heap.size wr W) wr.drew := ⟨⟨hc0, hc1, hc2, hc3, hc4, hc5, hc6⟩, (Below.refl _ _).drew⟩
        clear hc0 hc1 hc2 hc3 hc4 hc5 hc6
        refine wp_region_held_drew (S := (fun W : World => (W.cell? ⟨b, off + i * 7, none⟩ = some (.int .i64 x0) ∧ W.cell? ⟨b, off + i * 7 + 1, none⟩ = some (.int .i64 x1) ∧ W.cell? ⟨b, off + i * 7 + 2, none⟩ = some (.int .i64 x2) ∧ W.cell? ⟨b, off + i * 7 + 3, none⟩ = some (.int .i64 x3) ∧ W.cell? ⟨b, off + i * 7 + 4, none⟩ = some (.int .i64 x4) ∧ W.cell? ⟨b, off + i * 7 + 5, none⟩ = some (.int .i64 x5) ∧ W.cell? ⟨b, off + i * 7 + 6, none⟩ = some (.int .i64 x6)) ∧ Below w.heap.size wr W)) (by kernel_rfl) S0 (fun _ => ?_)
        refine any_take (i := 1) (some 24) (.slice (some ⟨b, off, none⟩) l.length c) rfl rfl (by kernel_rfl) (by kernel_rfl) (by kernel_rfl) (fun _ _ _ h => h) rfl (fun W hSw => ?_) (S0) ?_
        · (try dsimp only at hSw); go_simp <;> with_reducible rfl
        try simp only [Act.put, List.setIfInBounds_toArray, List.set_cons_zero, List.set_cons_succ]
        refine any_take (i := 2) (some 25) (.int .i64 (i : Int)) rfl rfl (by kernel_rfl) (by kernel_rfl) (by kernel_rfl) (fun _ _ _ h => h) rfl (fun W hSw => ?_) (S0) ?_
        · (try dsimp only at hSw); go_simp <;> with_reducible rfl
        try simp only [Act.put, List.setIfInBounds_toArray, List.set_cons_zero, List.set_cons_succ]
        refine any_take (i := 3) (some 26) (.pointer (some ⟨b, off + i * 7, none⟩)) rfl rfl (by kernel_rfl) (by kernel_rfl) (by kernel_rfl) (fun _ _ _ h => h) rfl (fun W hSw => ?_) (S0) ?_
        · (try dsimp only at hSw); go_simp <;> with_reducible rfl
        try simp only [Act.put, List.setIfInBounds_toArray, List.set_cons_zero, List.set_cons_succ]
        refine any_take (i := 4) (some 27) (.agg #[.int .i64 x0, .int .i64 x1, .int .i64 x2, .int .i64 x3, .int .i64 x4, .int .i64 x5, .int .i64 x6]) rfl rfl (by kernel_rfl) (by kernel_rfl) (by kernel_rfl) (fun _ _ _ h => h) rfl (fun W hSw => ?_) (S0) ?_
        · (try dsimp only at hSw); go_simp <;> with_reducible rfl
        try simp only [Act.put, List.setIfInBounds_toArray, List.set_cons_zero, List.set_cons_succ]
        refine wpAnyH_ready (rs := [0]) (by kernel_rfl) (by simp) ?_
        refine AllReadyH.cons rfl (fun K hK => ?_) AllReadyH.nil
        have t0 := has_cell ZT.out 0 rfl; have t1 := has_cell ZT.out 1 rfl; have t2 := has_cell ZT.out 2 rfl; have t3 := has_cell ZT.out 3 rfl; have t4 := has_cell ZT.out 4 rfl; have t5 := has_cell ZT.out 5 rfl; have t6 := has_cell ZT.out 6 rfl
        go_simp
        try go_wp2_with fail
        refine hK.out _ _ S0 (fun _ => ?_)
        clear hK K
        clear t0 t1 t2 t3 t4 t5 t6
        try simp only [Act.put, List.setIfInBounds_toArray, List.set_cons_zero, List.set_cons_succ]
        refine wpAnyH_ready (rs := [5]) (by kernel_rfl) (by simp) ?_
        refine AllReadyH.cons rfl (fun K hK => ?_) AllReadyH.nil
        go_simp
        go_at_call 31
        refine (nextI_at _ f0 f1 f2 f3 f4 f5 f6 x0 x1 x2 x3 x4 x5 x6 g0 g1 g2 g3 g4 g5 g6 HEV.out ⟨e30, by omega⟩ ⟨e60, by omega⟩ HG.out).mono ?_
        rintro e wa ⟨rfl, hb8⟩
        have hbq : Below wr.heap.size wr wa := ((Below.refl wr.heap.size wr).drew).trans hb8
        have hb9wa : Below w.heap.size wr wa := bthenB ((Below.refl _ _).drew : Below w.heap.size wr wr.drew) hsz2 hb8
        have Swa : (fun W : World => (W.cell? ⟨b, off + i * 7, none⟩ = some (.int .i64 x0) ∧ W.cell? ⟨b, off + i * 7 + 1, none⟩ = some (.int .i64 x1) ∧ W.cell? ⟨b, off + i * 7 + 2, none⟩ = some (.int .i64 x2) ∧ W.cell? ⟨b, off + i * 7 + 3, none⟩ = some (.int .i64 x3) ∧ W.cell? ⟨b, off + i * 7 + 4, none⟩ = some (.int .i64 x4) ∧ W.cell? ⟨b, off + i * 7 + 5, none⟩ = some (.int .i64 x5) ∧ W.cell? ⟨b, off + i * 7 + 6, none⟩ = some (.int .i64 x6)) ∧ Below w.heap.size wr W) wa := ⟨⟨(hb9wa.cell (p := ⟨b, off + i * 7, none⟩) (hbw)).trans S0.1.1, (hb9wa.cell (p := ⟨b, off + i * 7 + 1, none⟩) (hbw)).trans S0.1.2.1, (hb9wa.cell (p := ⟨b, off + i * 7 + 2, none⟩) (hbw)).trans S0.1.2.2.1, (hb9wa.cell (p := ⟨b, off + i * 7 + 3, none⟩) (hbw)).trans S0.1.2.2.2.1, (hb9wa.cell (p := ⟨b, off + i * 7 + 4, none⟩) (hbw)).trans S0.1.2.2.2.2.1, (hb9wa.cell (p := ⟨b, off + i * 7 + 5, none⟩) (hbw)).trans S0.1.2.2.2.2.2.1, (hb9wa.cell (p := ⟨b, off + i * 7 + 6, none⟩) (hbw)).trans S0.1.2.2.2.2.2.2⟩, hb9wa⟩
        clear hb8
        go_wp2_with fail
        refine hK.out _ _ Swa (fun _ => ?_)
        clear hK K
        try simp only [Act.put, List.setIfInBounds_toArray, List.set_cons_zero, List.set_cons_succ]
        refine wpAnyH_ready (rs := [6]) (by kernel_rfl) (by simp) ?_
        refine AllReadyH.cons rfl (fun K hK => ?_) AllReadyH.nil
        have ZTa := has_call ZT.out hbq
        have t0 := has_cell ZTa 0 rfl; have tf0 := has_free ZTa 0; have t1 := has_cell ZTa 1 rfl; have tf1 := has_free ZTa 1; have t2 := has_cell ZTa 2 rfl; have tf2 := has_free ZTa 2; have t3 := has_cell ZTa 3 rfl; have tf3 := has_free ZTa 3; have t4 := has_cell ZTa 4 rfl; have tf4 := has_free ZTa 4; have t5 := has_cell ZTa 5 rfl; have tf5 := has_free ZTa 5; have t6 := has_cell ZTa 6 rfl; have tf6 := has_free ZTa 6
        have htl := has_lt ZTa
        go_simp
        try go_wp2_with fail
        have hb9z : Below w.heap.size wr (set7 wa (w.heap.size + 1) ⟨g0, g1, g2, g3, g4, g5, g6⟩) := below_set7 Swa.2 (by omega) _
        have Sz : (fun W : World => (W.cell? ⟨b, off + i * 7, none⟩ = some (.int .i64 x0) ∧ W.cell? ⟨b, off + i * 7 + 1, none⟩ = some (.int .i64 x1) ∧ W.cell? ⟨b, off + i * 7 + 2, none⟩ = some (.int .i64 x2) ∧ W.cell? ⟨b, off + i * 7 + 3, none⟩ = some (.int .i64 x3) ∧ W.cell? ⟨b, off + i * 7 + 4, none⟩ = some (.int .i64 x4) ∧ W.cell? ⟨b, off + i * 7 + 5, none⟩ = some (.int .i64 x5) ∧ W.cell? ⟨b, off + i * 7 + 6, none⟩ = some (.int .i64 x6)) ∧ Below w.heap.size wr W) ((set7 wa (w.heap.size + 1) ⟨g0, g1, g2, g3, g4, g5, g6⟩)) := ⟨⟨(hb9z.cell (p := ⟨b, off + i * 7, none⟩) (hbw)).trans S0.1.1, (hb9z.cell (p := ⟨b, off + i * 7 + 1, none⟩) (hbw)).trans S0.1.2.1, (hb9z.cell (p := ⟨b, off + i * 7 + 2, none⟩) (hbw)).trans S0.1.2.2.1, (hb9z.cell (p := ⟨b, off + i * 7 + 3, none⟩) (hbw)).trans S0.1.2.2.2.1, (hb9z.cell (p := ⟨b, off + i * 7 + 4, none⟩) (hbw)).trans S0.1.2.2.2.2.1, (hb9z.cell (p := ⟨b, off + i * 7 + 5, none⟩) (hbw)).trans S0.1.2.2.2.2.2.1, (hb9z.cell (p := ⟨b, off + i * 7 + 6, none⟩) (hbw)).trans S0.1.2.2.2.2.2.2⟩, hb9z⟩
        refine hK.out _ _ Sz (fun _ => ?_)
        clear hK K
        clear htl ZTa t0 tf0 t1 tf1 t2 tf2 t3 tf3 t4 tf4 t5 tf5 t6 tf6
        try simp only [Act.put, List.setIfInBounds_toArray, List.set_cons_zero, List.set_cons_succ]
        refine wpAnyH_done (by kernel_rfl) ?_ _
        have hbreg : Below w.heap.size wr ((set7 wa (w.heap.size + 1) ⟨g0, g1, g2, g3, g4, g5, g6⟩)) := Sz.2
        clear S0 Swa hb9wa Sz hb9z
        have ZR4 := Lib.hid (has_call ZR.out hbq); have ZT4 := Lib.hid (has_call ZT.out hbq); have HOR4 := Lib.hid (or_kept HOR.out hbq); have HB4 := Lib.hid (HB.out.trans (hbq.mono hsz)); have hs4 := hbq.size
        clear hbq hbreg
        have HH := Lib.hid (show fateN l p (k + 1) = ⟨g0, g1, g2, g3, g4, g5, g6⟩ by rw [fate_next HI.out HX.out HPP.out, HF.out]; exact HG.out)
        go_wp2_with fail
        go_roundw
        case rel => exact ⟨k + 1, by omega, by go_num, far_set7 ZR4.out (by omega) ⟨g0, g1, g2, g3, g4, g5, g6⟩, by rw [HH.out]; exact has_set7 ZT4.out rfl ⟨g0, g1, g2, g3, g4, g5, g6⟩, or_set7 HOR4.out (by omega) ⟨g0, g1, g2, g3, g4, g5, g6⟩, below_set7 HB4.out (by omega) ⟨g0, g1, g2, g3, g4, g5, g6⟩⟩
        case measure => simp [intOf]; omega
      · skip
        have hpd : (x4 == p) = false := by simp [hp]
        have HPP := Lib.hid hp; clear hp
        -- I False
        go_wp2_with fail
        go_roundw
        case rel => exact ⟨k + 1, by omega, by go_num, ZR.out, by rw [fate_same HI.out HX.out HPP.out, HF.out]; exact ZT.out, HOR.out, HB.out⟩
        case measure => simp [intOf]; omega
    · skip
      have hkl : k = l.length := by omega
      have HKE := Lib.hid hkl; have ZB := HB; clear hkl
      have r0 := has_cell ZR.out 0 rfl; have rf0 := has_free ZR.out 0; have r1 := has_cell ZR.out 1 rfl; have rf1 := has_free ZR.out 1; have r2 := has_cell ZR.out 2 rfl; have rf2 := has_free ZR.out 2; have r3 := has_cell ZR.out 3 rfl; have rf3 := has_free ZR.out 3; have r4 := has_cell ZR.out 4 rfl; have rf4 := has_free ZR.out 4; have r5 := has_cell ZR.out 5 rfl; have rf5 := has_free ZR.out 5; have r6 := has_cell ZR.out 6 rfl; have rf6 := has_free ZR.out 6
      have t0 := has_cell ZT.out 0 rfl; have t1 := has_cell ZT.out 1 rfl; have t2 := has_cell ZT.out 2 rfl; have t3 := has_cell ZT.out 3 rfl; have t4 := has_cell ZT.out 4 rfl; have t5 := has_cell ZT.out 5 rfl; have t6 := has_cell ZT.out 6 rfl
      have hlr := has_lt ZR.out; have hlt2 := has_lt ZT.out
      go_wp2_with fail
      have zz := has_set7 (w := wr) ZR.out rfl (⟨f0, f1, f2, f3, f4, f5, f6⟩ : Ft); unfold set7 at zz; dsimp only [Ft.A] at zz
      have z0 := has_cell zz 0 rfl; have z1 := has_cell zz 1 rfl; have z2 := has_cell zz 2 rfl; have z3 := has_cell zz 3 rfl; have z4 := has_cell zz 4 rfl; have z5 := has_cell zz 5 rfl; have z6 := has_cell zz 6 rfl
      clear zz
      refine bodyPost_ret (v := .agg #[.int .i64 f0, .int .i64 f1, .int .i64 f2, .int .i64 f3, .int .i64 f4, .int .i64 f5, .int .i64 f6]) (by simp [results, Try.results17, go_sem, z0, z1, z2, z3, z4, z5, z6]) rfl ⟨?_, ?_⟩
      · rw [fate_good HQ.out, ← HKE.out, HF.out]; rfl
      · repeat (first | (with_reducible exact ZB.out) | (with_reducible refine Below.setCell ?_ (by first | exact Nat.le_refl _ | exact Nat.le_succ _) _))
theorem fateI_any (w : World) (B : Nat) (A : Option Addr) (c : Nat) (l : List Ev) (p : Int) (hl : l.length ≤ 1048576) (hB : B ≤ w.heap.size) (hS : evL w B A l) : Calls Try.prog 17 #[.slice A l.length c, .int .i64 p] w fun e w' => e = .returned (.agg (fateE l p).A) ∧ Below w.heap.size w w' := by
  cases hq : jrnB l
  · exact fateI_bad w B A c l p hl hB hS hq
  · exact fateI_good w B A c l p hl hB hS hq
end Go.Proofs.Ytnimdbmcpbpoiaa
