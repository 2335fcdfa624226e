/- Chapter 2: a drawn column (gen_dcol.py). -/
import Derived.Test.YthfpjfekemelaaaQ17
import Derived.Test.YthfpjfekemelaaaQ18
import Derived.Test.YthfpjfekemelaaaQ01
namespace Go.Proofs.Ythfpjfekemelaaa
open Go.RowKit
set_option linter.unusedVariables false

theorem Cur.belC {w w' : World} {B g : Nat} (h : Cur w B g) (hb : Below w.heap.size w w') : Cur w' B g := by
  have hB := h.lt.1
  obtain ⟨A, n, c, i, hh, hH, hS, r⟩ := h
  exact ⟨A, n, c, i, hh, has_call hH hb, hS.below (hb.mono hB), r⟩
theorem Cur.setC {w : World} {B g k : Nat} (h : Cur w B g) (hk : B ≤ k) (hne : k ≠ g) (i : Nat) (u : Value) : Cur (w.setCell ⟨k, i, none⟩ u) B g := by
  obtain ⟨A, n, c, j, hh, hH, hS, r⟩ := h
  exact ⟨A, n, c, j, hh, has_far hH (Ne.symm hne) u, hS.below ((Below.refl B w).setCell (p := ⟨k, i, none⟩) hk u), r⟩
theorem only_belC {w w' : World} {g : Nat} (hb : Below w.heap.size w w') : Only w g w' := ⟨hb.os, hb.tape, hb.output, hb.size, fun k hk _ => hb.block k hk⟩
theorem only_setC {a w : World} {g k : Nat} (h : Only a g w) (hk : a.heap.size ≤ k) (i : Nat) (u : Value) : Only a g (w.setCell ⟨k, i, none⟩ u) := by
  refine ⟨h.os, h.tape, h.output, ?_, fun j hj hn => ?_⟩
  · rw [size_set]; exact h.size
  · exact (Below.heap_setCell w ⟨k, i, none⟩ u j (show j ≠ k by omega)).trans (h.block j hj hn)
theorem or_only {w w' : World} {base g : Nat} {e : TypeId} {A : Option Addr} {xs : List Value} (h : OR w base e A xs) (ho : Only w g w') (hg : g < base) : OR w' base e A xs := by
  rcases h with h | ⟨b, cur, rfl, hb, hh, hc⟩
  · exact .inl h
  · exact .inr ⟨b, cur, rfl, hb, has_only hh ho (by omega), hc⟩
theorem or_set3 {w : World} {base r : Nat} {e : TypeId} {A : Option Addr} {xs : List Value} {a b c : Value} (h : OR w base e A xs) (hh : Has w r 57 #[a, b, c]) (hne : e ≠ 57) (u v x : Value) : OR (((w.setCell ⟨r, 0, none⟩ u).setCell ⟨r, 1, none⟩ v).setCell ⟨r, 2, none⟩ x) base e A xs :=
  OR.set_other (OR.set_other (OR.set_other h hh hne 0 u) (has_set hh 0 u) hne 1 v) (has_set (has_set hh 0 u) 1 v) hne 2 x
theorem oq_only {w w' : World} {base g n : Nat} {e : TypeId} {A : Option Addr} {xs : List Value} (h : OQ n w base e A xs) (ho : Only w g w') (hg : g < base) : OQ n w' base e A xs :=
  h.kept fun k hk ⟨_, hc⟩ => ho.block k (has_lt hc) (fun e => by injection e; omega)
theorem oq_drewC {w : World} {base n : Nat} {e : TypeId} {A : Option Addr} {xs : List Value} (h : OQ n w base e A xs) : OQ n w.drew base e A xs := h
theorem oq_set3 {w : World} {base r n : Nat} {e : TypeId} {A : Option Addr} {xs : List Value} {a b c : Value} (h : OQ n w base e A xs) (hh : Has w r 57 #[a, b, c]) (hne : e ≠ 57) (u v x : Value) : OQ n (((w.setCell ⟨r, 0, none⟩ u).setCell ⟨r, 1, none⟩ v).setCell ⟨r, 2, none⟩ x) base e A xs :=
  OQ.set_other (OQ.set_other (OQ.set_other h hh hne 0 u) (has_set hh 0 u) hne 1 v) (has_set (has_set hh 0 u) 1 v) hne 2 x
theorem far3 {w : World} {k r : Nat} {t : TypeId} {cs : Array Value} (h : Has w k t cs) (hne : k ≠ r) (u v x : Value) : Has (((w.setCell ⟨r, 0, none⟩ u).setCell ⟨r, 1, none⟩ v).setCell ⟨r, 2, none⟩ x) k t cs := has_far (has_far (has_far h hne u) hne v) hne x
theorem cur3 {w : World} {B g r : Nat} (h : Cur w B g) (hk : B ≤ r) (hne : r ≠ g) (u v x : Value) : Cur (((w.setCell ⟨r, 0, none⟩ u).setCell ⟨r, 1, none⟩ v).setCell ⟨r, 2, none⟩ x) B g := ((h.setC hk hne 0 u).setC hk hne 1 v).setC hk hne 2 x
theorem only3 {a w : World} {g r : Nat} (h : Only a g w) (hk : a.heap.size ≤ r) (u v x : Value) : Only a g (((w.setCell ⟨r, 0, none⟩ u).setCell ⟨r, 1, none⟩ v).setCell ⟨r, 2, none⟩ x) := only_setC (only_setC (only_setC h hk 0 u) hk 1 v) hk 2 x
theorem or_drewC {w : World} {base : Nat} {e : TypeId} {A : Option Addr} {xs : List Value} (h : OR w base e A xs) : OR w.drew base e A xs := h
theorem own_nilC {w : World} {g base : Nat} {e : TypeId} {size : Nat} (h : Has w g e #[]) (hb : base ≤ g) : w.ownsRow base e size (.slice (some ⟨g, 0, none⟩) 0 0) 0 [] := ⟨by simp, .inr ⟨g, 0, #[], rfl, hb, h, by simp, by simp⟩⟩
theorem only_grownC {w w2 w3 : World} {g : Nat} {row : Option Nat} {o : Obj} (h2 : Only w g w2) (hgrow : (w2.alloc o).grownBy w3 row) (hrow : ∀ b, row = some b → w.heap.size ≤ b) : Only w g w3 :=
  ⟨hgrow.os.trans h2.os, hgrow.tape.trans h2.tape, hgrow.output.trans h2.output, Nat.le_trans h2.size (Nat.le_trans (balloc w2 o).size hgrow.size), fun k hk hne => by
    have h2s := h2.size
    have hs := (balloc w2 o).size
    have hr : some k ≠ row := fun e => by have := hrow k e.symm; omega
    exact ((hgrow.block k (by omega) hr).trans ((balloc w2 o).block k (by omega))).trans (h2.block k hk hne)⟩
theorem cur_grownC {w2 w3 : World} {B g : Nat} {row : Option Nat} {o : Obj} (h : Cur w2 B g) (hgrow : (w2.alloc o).grownBy w3 row) (hrow : ∀ b, row = some b → g < b) : Cur w3 B g := by
  obtain ⟨A, n, c, i, hh, hH, hS, hn, h0, h1, hg⟩ := h
  have hlt := has_lt hH
  have key : ∀ k, k ≤ g → w3.heap[k]? = w2.heap[k]? := fun k hk => by
    have hs := (balloc w2 o).size
    have hr : some k ≠ row := fun e => by have := hrow k e.symm; omega
    exact (hgrow.block k (by omega) hr).trans ((balloc w2 o).block k (by omega))
  exact ⟨A, n, c, i, hh, (key g (Nat.le_refl _)).trans hH, hS.kept fun p hp => World.cell?_of_block (key p.block (by omega)), hn, h0, h1, hg⟩
theorem src_intC {w : World} {g : Nat} {x : Int} {t : TypeId} (h : Has w g t #[.int .i64 x]) : Src w (some ⟨g, 0, none⟩) 1 1 [.int .i64 x] := by
  refine ⟨rfl, fun u hu => ?_, (fun e => by cases e), fun ad e j u hu => ?_⟩
  · simp at hu; subst hu; rfl
  · injection e with e; subst e
    rw [addrK, Nat.zero_add, cell_of_row w g j _ t (0, 0) h]
    simpa using hu
/-- a valid column with parcels from a number on -/
def ColV (first : Int) (z : Int) (F : List Int) (L : List Bx) : Prop := ColOk z F L ∧ F.length ≤ 1 ∧ ∀ b ∈ L, b.par = 0 ∨ (first ≤ b.par ∧ b.par ≤ first + 5)
def DrawnCol (P : Int → List Int → List Bx → Prop) (w : World) (B g : Nat) (e : Ending) (w' : World) : Prop := ∃ (z : Int) (F : List Int) (L : List Bx) (A A' : Option Addr) (n n' : Nat), e = .returned (.agg #[.int .i64 z, .slice A F.length n, .slice A' L.length n']) ∧ P z F L ∧ OQ n w' w.heap.size 3 A (intV F) ∧ OR w' w.heap.size 65 A' (boxV L) ∧ Cur w' B g ∧ Only w g w'
theorem colV_new {first h z : Int} {F F' : List Int} {L : List Bx} {b : Bool} (hF : FixOk h F) (hl : F.length ≤ 1) (h1 : newR h F z F' L b) : ColV first z F' L := by
  rcases h1 with ⟨_, rfl, rfl, rfl, _⟩ | ⟨hn, _⟩
  · refine ⟨col_new hF, hl, fun x hx => .inl ?_⟩
    obtain ⟨j, _, rfl⟩ := List.mem_map.1 hx
    rfl
  · exact absurd hF hn
theorem cvd_len {first z : Int} {F : List Int} {L : List Bx} (h : ColV first z F L) : L.length ≤ 24 ∧ 1 ≤ L.length ∧ 1 ≤ z ∧ z ≤ 24 := ⟨(col_sum h.1).2.2, col_some h.1, h.1.fix.lo, h.1.fix.hi⟩
theorem colV_take {first z z' p : Int} {F F' : List Int} {L L' : List Bx} {b : Bool} (h : ColV first z F L) (h1 : takeR z F L p z' F' L' b) : ColV first z' F' L' := by
  obtain ⟨rfl, rfl, h1⟩ := h1
  rcases h1 with ⟨j, x, ⟨_, _, hx, _⟩, _, rfl⟩ | ⟨_, _, rfl⟩
  · refine ⟨col_zero h.1 hx, h.2.1, fun y hy => ?_⟩
    rcases List.mem_or_eq_of_mem_set hy with hy | rfl
    · exact h.2.2 y hy
    · exact .inl rfl
  · exact h
theorem colV_jam {first z z' u : Int} {q : Bool} {F F' : List Int} {L L' : List Bx} {b : Bool} (h : ColV first z F L) (h1 : jamR z F L u q z' F' L' b) : ColV first z' F' L' := by
  obtain ⟨rfl, rfl, h1⟩ := h1
  rcases h1 with ⟨j, x, ⟨_, _, hx⟩, _, rfl⟩ | ⟨_, _, rfl⟩
  · refine ⟨col_jam h.1 hx, h.2.1, fun y hy => ?_⟩
    rcases List.mem_or_eq_of_mem_set hy with hy | rfl
    · exact h.2.2 y hy
    · exact h.2.2 x (List.mem_of_getElem? hx)
  · exact h
theorem colV_put {first z z' p size i : Int} {F F' : List Int} {L L' : List Bx} {b : Bool} (h : ColV first z F L) (hp : first ≤ p ∧ p ≤ first + 5) (h1 : putR z F L p size z' F' L' i b) : ColV first z' F' L' := by
  obtain ⟨rfl, rfl, h1⟩ := h1
  rcases h1 with ⟨hc, rfl, _, _⟩ | ⟨_, rfl, _, _⟩
  · obtain ⟨g, hg, _, _, _, _, ho, _, _, _, hm⟩ := col_put hc
    rw [hg]
    refine ⟨ho, h.2.1, fun y hy => ?_⟩
    rcases hm y hy with e | e | ⟨y', hy', e⟩
    · exact .inr (e ▸ hp)
    · exact .inl e
    · rw [← e]; exact h.2.2 y' hy'
  · exact h
theorem fix_none {h : Int} (h1 : 1 ≤ h) (h2 : h ≤ 24) : FixOk h [] := ⟨h1, h2, fun k x hx => by simp at hx, fun k x y hx => by simp at hx⟩
theorem fix_one {h y : Int} (h2 : h ≤ 24) (h3 : 1 ≤ y) (h4 : y < h) : FixOk h [y] := ⟨by omega, h2, fun k x hx => by
  rcases k with _ | k
  · simp at hx; omega
  · simp at hx, fun k x y hx hy => by simp at hy⟩

set_option maxRecDepth 100000 in
set_option maxHeartbeats 8000000 in
theorem colD_any (w : World) (B g : Nat) (first : Int) (hf1 : 1 ≤ first) (hf2 : first ≤ 900) (hC : Cur w B g) : Calls Try.prog 72 #[.pointer (some ⟨g, 0, none⟩), .int .i64 first] w (DrawnCol (ColV first) w B g) := by
  have hlt := hC.lt; obtain ⟨hB, hg⟩ := hlt
  obtain ⟨j0, hj0, hy0, hy1, hy2⟩ := info_parts intInfo
  have HC := Lib.hid hC; clear hC
  have HO := Lib.hid (only_refl w g)
  have hsw := HO.out.size
  go_enter Try.func72, Try.ntmps72
  go_wp2_with fail
  generalize hX : (w.alloc (.cells #[.int .i64 0, .slice none 0 0, .slice none 0 0] 57)) = w1
  have hb : Below w.heap.size w w1 := by rw [← hX]; exact balloc _ _
  have hk : Has w1 w.heap.size 57 #[.int .i64 0, .slice none 0 0, .slice none 0 0] := by rw [← hX]; exact has_new _ _ _
  clear hX
  have hmw1 := hb.size
  have kk := HC.out.belC hb; clear HC; have HC := Lib.hid kk; clear kk
  have kk := only_trans HO.out (only_belC (g := g) hb); clear HO; have HO := Lib.hid kk; clear kk hb
  have hsw1 := HO.out.size
  have zr := hk; clear hk; have hlzr := has_lt zr
  refine (below_any _ B g 9 (by omega) (by omega) HC.out).mono ?_
  rintro e w2 ⟨x0, hx00, hx01, rfl, hC9, hO9⟩
  replace zr := has_only zr hO9 (by omega)
  have hmw2 := hO9.size
  have kk := only_trans HO.out hO9; clear HO; have HO := Lib.hid kk; clear kk
  clear HC; have HC := Lib.hid hC9; clear hC9 hO9
  have hsw2 := HO.out.size
  have zrc0 := has_cell zr 0 rfl; have zrc1 := has_cell zr 1 rfl; have zrc2 := has_cell zr 2 rfl
  have zrlt := has_lt zr
  have ZRH := Lib.hid zr; clear zr
  go_wp2_with fail
  clear zrc0 zrc1 zrc2 zrlt
  have zr := ZRH.out; clear ZRH
  generalize hX : (w2.alloc (.cells #[] 3)) = w3
  have hb : Below w2.heap.size w2 w3 := by rw [← hX]; exact balloc _ _
  have hk : Has w3 w2.heap.size 3 #[] := by rw [← hX]; exact has_new _ _ _
  clear hX
  replace zr := has_call zr hb
  have hmw3 := hb.size
  have kk := HC.out.belC hb; clear HC; have HC := Lib.hid kk; clear kk
  have kk := only_trans HO.out (only_belC (g := g) hb); clear HO; have HO := Lib.hid kk; clear kk hb
  have hsw3 := HO.out.size
  have zf := hk; clear hk; have hlzf := has_lt zf
  refine (once_any _ B g 2 (by omega) (by omega) HC.out).mono ?_
  rintro e w4 ⟨x1, rfl, hC9, hO9⟩
  replace zr := has_only zr hO9 (by omega)
  replace zf := has_only zf hO9 (by omega)
  have hmw4 := hO9.size
  have kk := only_trans HO.out hO9; clear HO; have HO := Lib.hid kk; clear kk
  clear HC; have HC := Lib.hid hC9; clear hC9 hO9
  have hsw4 := HO.out.size
  cases x1
  · skip
    have ZRH := Lib.hid zr; clear zr
    have ZFH := Lib.hid zf; clear zf
    go_wp2_with fail
    have zr := ZRH.out; clear ZRH
    have zf := ZFH.out; clear ZFH
    refine (newSo_any w4 w4.heap.size (some ⟨w2.heap.size, 0, none⟩) 0 (4 + x0) [] (by simp) (Nat.le_refl _) (.inl rfl)).mono ?_
    rintro e w5 ⟨z, F, L, bq, fA, lA, fn, ln, rfl, hR, hlf, hlb, or1, or2, hb⟩
    have hV := colV_new (first := first) (fix_none (by omega) (by omega)) (by simp) hR; clear hR
    replace zr := has_call zr hb
    replace zf := has_call zf hb
    have hmw5 := hb.size
    have kk := HC.out.belC hb; clear HC; have HC := Lib.hid kk; clear kk
    have kk := only_trans HO.out (only_belC (g := g) hb); clear HO; have HO := Lib.hid kk; clear kk hb
    have hsw5 := HO.out.size
    have RF := Lib.hid (or1.more (show w.heap.size ≤ w4.heap.size by omega)); have RL := Lib.hid (or2.more (show w.heap.size ≤ w4.heap.size by omega)); clear or1 or2
    have zrc0 := has_cell zr 0 rfl; have zrc1 := has_cell zr 1 rfl; have zrc2 := has_cell zr 2 rfl
    have zrlt := has_lt zr
    have zflt := has_lt zf
    have ZRH := Lib.hid zr; clear zr
    have ZFH := Lib.hid zf; clear zf
    go_wp2_with fail
    clear zrc0 zrc1 zrc2 zrlt zflt
    have zr := ZRH.out; clear ZRH
    have zf := ZFH.out; clear ZFH
    generalize hX : (w5.alloc (.cells #[.int .i64 z, .slice fA F.length fn, .slice lA L.length ln] 57)) = w6
    have hb : Below w5.heap.size w5 w6 := by rw [← hX]; exact balloc _ _
    have hk : Has w6 w5.heap.size 57 #[.int .i64 z, .slice fA F.length fn, .slice lA L.length ln] := by rw [← hX]; exact has_new _ _ _
    clear hX
    replace zr := has_call zr hb
    replace zf := has_call zf hb
    have kk := OQ.below RF.out hb; clear RF; have RF := Lib.hid kk; clear kk
    have kk := OR.below RL.out hb; clear RL; have RL := Lib.hid kk; clear kk
    have hmw6 := hb.size
    have kk := HC.out.belC hb; clear HC; have HC := Lib.hid kk; clear kk
    have kk := only_trans HO.out (only_belC (g := g) hb); clear HO; have HO := Lib.hid kk; clear kk hb
    have hsw6 := HO.out.size
    have zx := hk; clear hk; have hlzx := has_lt zx
    clear zf hlzf
    refine (below_any _ B g 7 (by omega) (by omega) HC.out).mono ?_
    rintro e w7 ⟨xn, hxn0, hxn1, rfl, hC9, hO9⟩
    replace zr := has_only zr hO9 (by omega)
    replace zx := has_only zx hO9 (by omega)
    have kk := oq_only RF.out hO9 (by omega); clear RF; have RF := Lib.hid kk; clear kk
    have kk := or_only RL.out hO9 (by omega); clear RL; have RL := Lib.hid kk; clear kk
    have hmw7 := hO9.size
    have kk := only_trans HO.out hO9; clear HO; have HO := Lib.hid kk; clear kk
    clear HC; have HC := Lib.hid hC9; clear hC9 hO9
    have hsw7 := HO.out.size
    obtain ⟨n0, hn0⟩ := Int.eq_ofNat_of_zero_le hxn0; subst hn0
    have hne1 : ¬ w.heap.size = w5.heap.size := (by omega); have hne2 : ¬ w5.heap.size = w.heap.size := (by omega)
    have HV := Lib.hid hV; clear hV
    have ST : Hid (Has w7 (w.heap.size) 57 #[.int .i64 0, .slice none 0 0, .slice none 0 0] ∧ Has w7 (w5.heap.size) 57 #[.int .i64 z, .slice fA F.length fn, .slice lA L.length ln]) := Lib.hid ⟨zr, zx⟩; clear zr zx
    go_wp2_with fail
    go_loopw [9] (fun nv wr => ∃ (k : Nat) (z : Int) (F : List Int) (L : List Bx) (A A' : Option Addr) (n n' : Nat), nv = .int .i64 (k : Int) ∧ k ≤ 6 ∧ ColV first z F L ∧ OQ n wr w.heap.size 3 A (intV F) ∧ OR wr w.heap.size 65 A' (boxV L) ∧ Has wr (w.heap.size) 57 #[.int .i64 0, .slice none 0 0, .slice none 0 0] ∧ Has wr (w5.heap.size) 57 #[.int .i64 z, .slice A F.length n, .slice A' L.length n'] ∧ Cur wr B g ∧ Only w g wr) (fun nv _ => (intOf nv).toNat)
    case atStart => exact ⟨n0, z, F, L, fA, lA, fn, ln, rfl, by omega, HV.out, RF.out, RL.out, ST.out.1, ST.out.2, HC.out, HO.out⟩
    case round =>
      obtain ⟨k, z, F, L, A, A', n, n', rfl, hk6, hV, or1, or2, zr, zx, hC9, hO9⟩ := hrel
      clear ST HC HO HV RF RL; have HC := Lib.hid hC9; have HO := Lib.hid hO9; have HV := Lib.hid hV; have RF := Lib.hid or1; have RL := Lib.hid or2; clear hC9 hO9 or1 or2
      obtain ⟨hl1, hl2, hl3, hl4⟩ := cvd_len hV; have hl5 := hV.2.1; clear hV
      have hswr := HO.out.size
      have hlzr := has_lt zr; have hlzx := has_lt zx
      rcases k with _ | k
      · skip
        have zrc0 := has_cell zr 0 rfl; have zrc1 := has_cell zr 1 rfl; have zrc2 := has_cell zr 2 rfl
        have zrf0 := has_free zr 0; have zrf1 := has_free zr 1; have zrf2 := has_free zr 2
        have zrlt := has_lt zr
        have zxc0 := has_cell zx 0 rfl; have zxc1 := has_cell zx 1 rfl; have zxc2 := has_cell zx 2 rfl
        have zxlt := has_lt zx
        have ZRH := Lib.hid zr; clear zr
        have ZXH := Lib.hid zx; clear zx
        go_wp2_with fail
        refine bodyPost_ret (v := .agg #[.int .i64 z, .slice A F.length n, .slice A' L.length n']) ?_ ?_ ?_
        · simp [results, Try.results72, go_sem, zrc0, zrc1, zrc2, zrf0, zrf1, zrf2, zrlt]
        · rfl
        · exact ⟨z, F, L, A, A', n, n', rfl, HV.out, oq_set3 RF.out ZRH.out (by decide) _ _ _, or_set3 RL.out ZRH.out (by decide) _ _ _, cur3 HC.out (by omega) (by omega) _ _ _, only3 HO.out (by omega) _ _ _⟩
      · have hgt : (0 : Int) < ((k + 1 : Nat) : Int) := by omega
        have zrc0 := has_cell zr 0 rfl; have zrc1 := has_cell zr 1 rfl; have zrc2 := has_cell zr 2 rfl
        have zrlt := has_lt zr
        have zxc0 := has_cell zx 0 rfl; have zxc1 := has_cell zx 1 rfl; have zxc2 := has_cell zx 2 rfl
        have zxlt := has_lt zx
        have ZRH := Lib.hid zr; clear zr
        have ZXH := Lib.hid zx; clear zx
        go_wp2_with fail
        clear zrc0 zrc1 zrc2 zrlt zxc0 zxc1 zxc2 zxlt
        have zr := ZRH.out; clear ZRH
        have zx := ZXH.out; clear ZXH
        refine (below_any _ B g 6 (by omega) (by omega) HC.out).mono ?_
        rintro e w8 ⟨xp, hxp0, hxp1, rfl, hC9, hO9⟩
        replace zr := has_only zr hO9 (by omega)
        replace zx := has_only zx hO9 (by omega)
        have kk := oq_only RF.out hO9 (by omega); clear RF; have RF := Lib.hid kk; clear kk
        have kk := or_only RL.out hO9 (by omega); clear RL; have RL := Lib.hid kk; clear kk
        have hmw8 := hO9.size
        have kk := only_trans HO.out hO9; clear HO; have HO := Lib.hid kk; clear kk
        clear HC; have HC := Lib.hid hC9; clear hC9 hO9
        have hsw8 := HO.out.size
        have zrc0 := has_cell zr 0 rfl; have zrc1 := has_cell zr 1 rfl; have zrc2 := has_cell zr 2 rfl
        have zrlt := has_lt zr
        have zxc0 := has_cell zx 0 rfl; have zxc1 := has_cell zx 1 rfl; have zxc2 := has_cell zx 2 rfl
        have zxlt := has_lt zx
        have ZRH := Lib.hid zr; clear zr
        have ZXH := Lib.hid zx; clear zx
        go_wp2_with fail
        clear zrc0 zrc1 zrc2 zrlt zxc0 zxc1 zxc2 zxlt
        have zr := ZRH.out; clear ZRH
        have zx := ZXH.out; clear ZXH
        refine (below_any _ B g 6 (by omega) (by omega) HC.out).mono ?_
        rintro e w9 ⟨xt, hxt0, hxt1, rfl, hC9, hO9⟩
        replace zr := has_only zr hO9 (by omega)
        replace zx := has_only zx hO9 (by omega)
        have kk := oq_only RF.out hO9 (by omega); clear RF; have RF := Lib.hid kk; clear kk
        have kk := or_only RL.out hO9 (by omega); clear RL; have RL := Lib.hid kk; clear kk
        have hmw9 := hO9.size
        have kk := only_trans HO.out hO9; clear HO; have HO := Lib.hid kk; clear kk
        clear HC; have HC := Lib.hid hC9; clear hC9 hO9
        have hsw9 := HO.out.size
        have hcs : xt = 0 ∨ xt = 1 ∨ xt = 2 ∨ 3 ≤ xt := by omega
        rcases hcs with rfl | rfl | rfl | h3
        · skip
          have zrc0 := has_cell zr 0 rfl; have zrc1 := has_cell zr 1 rfl; have zrc2 := has_cell zr 2 rfl
          have zrlt := has_lt zr
          have zxc0 := has_cell zx 0 rfl; have zxc1 := has_cell zx 1 rfl; have zxc2 := has_cell zx 2 rfl
          have zxlt := has_lt zx
          have ZRH := Lib.hid zr; clear zr
          have ZXH := Lib.hid zx; clear zx
          go_wp2_with fail
          clear zrc0 zrc1 zrc2 zrlt zxc0 zxc1 zxc2 zxlt
          have zr := ZRH.out; clear ZRH
          have zx := ZXH.out; clear ZXH
          have hct := takeSo_any w9 w9.heap.size ⟨z, A, F, n, A', L, n'⟩ (first + xp) (by show F.length ≤ _; omega) (by show L.length ≤ _; omega) (Nat.le_refl _) ⟨RF.out.il, RL.out.xl, by show F.length ≤ maxLen; unfold maxLen; omega, by show L.length ≤ maxLen; unfold maxLen; omega⟩
          dsimp only at hct
          refine hct.mono ?_
          clear hct
          rintro e w10 ⟨z1, F1, L1, bq, fA, lA, fn, ln, rfl, hR, hlf, hlb, or1, or2, hb⟩
          have HV1 := Lib.hid (colV_take HV.out hR); clear hR
          clear RF RL
          replace zr := has_call zr hb
          replace zx := has_call zx hb
          have hmw10 := hb.size
          have kk := HC.out.belC hb; clear HC; have HC := Lib.hid kk; clear kk
          have kk := only_trans HO.out (only_belC (g := g) hb); clear HO; have HO := Lib.hid kk; clear kk hb
          have hsw10 := HO.out.size
          have RF := Lib.hid (or1.more (show w.heap.size ≤ w9.heap.size by omega)); have RL := Lib.hid (or2.more (show w.heap.size ≤ w9.heap.size by omega)); clear or1 or2
          have zrc0 := has_cell zr 0 rfl; have zrc1 := has_cell zr 1 rfl; have zrc2 := has_cell zr 2 rfl
          have zrlt := has_lt zr
          have zxc0 := has_cell zx 0 rfl; have zxc1 := has_cell zx 1 rfl; have zxc2 := has_cell zx 2 rfl
          have zxf0 := has_free zx 0; have zxf1 := has_free zx 1; have zxf2 := has_free zx 2
          have zxlt := has_lt zx
          have ZRH := Lib.hid zr; clear zr
          have ZXH := Lib.hid zx; clear zx
          go_wp2_with fail
          go_roundw
          case rel => exact ⟨k, z1, F1, L1, fA, lA, fn, ln, by go_num, by omega, HV1.out, oq_set3 RF.out ZXH.out (by decide) _ _ _, or_set3 RL.out ZXH.out (by decide) _ _ _, far3 ZRH.out (by omega) _ _ _, set3 ZXH.out, cur3 HC.out (by omega) (by omega) _ _ _, only3 HO.out (by omega) _ _ _⟩
          case measure => simp [intOf] <;> omega
        · skip
          have zrc0 := has_cell zr 0 rfl; have zrc1 := has_cell zr 1 rfl; have zrc2 := has_cell zr 2 rfl
          have zrlt := has_lt zr
          have zxc0 := has_cell zx 0 rfl; have zxc1 := has_cell zx 1 rfl; have zxc2 := has_cell zx 2 rfl
          have zxlt := has_lt zx
          have ZRH := Lib.hid zr; clear zr
          have ZXH := Lib.hid zx; clear zx
          go_wp2_with fail
          clear zrc0 zrc1 zrc2 zrlt zxc0 zxc1 zxc2 zxlt
          have zr := ZRH.out; clear ZRH
          have zx := ZXH.out; clear ZXH
          have hct := takeSo_any w9 w9.heap.size ⟨z, A, F, n, A', L, n'⟩ (first + xp) (by show F.length ≤ _; omega) (by show L.length ≤ _; omega) (Nat.le_refl _) ⟨RF.out.il, RL.out.xl, by show F.length ≤ maxLen; unfold maxLen; omega, by show L.length ≤ maxLen; unfold maxLen; omega⟩
          dsimp only at hct
          refine hct.mono ?_
          clear hct
          rintro e w10 ⟨z1, F1, L1, bq, fA, lA, fn, ln, rfl, hR, hlf, hlb, or1, or2, hb⟩
          have HV1 := Lib.hid (colV_take HV.out hR); clear hR
          clear RF RL
          replace zr := has_call zr hb
          replace zx := has_call zx hb
          have hmw10 := hb.size
          have kk := HC.out.belC hb; clear HC; have HC := Lib.hid kk; clear kk
          have kk := only_trans HO.out (only_belC (g := g) hb); clear HO; have HO := Lib.hid kk; clear kk hb
          have hsw10 := HO.out.size
          have RF := Lib.hid (or1.more (show w.heap.size ≤ w9.heap.size by omega)); have RL := Lib.hid (or2.more (show w.heap.size ≤ w9.heap.size by omega)); clear or1 or2
          have zrc0 := has_cell zr 0 rfl; have zrc1 := has_cell zr 1 rfl; have zrc2 := has_cell zr 2 rfl
          have zrlt := has_lt zr
          have zxc0 := has_cell zx 0 rfl; have zxc1 := has_cell zx 1 rfl; have zxc2 := has_cell zx 2 rfl
          have zxf0 := has_free zx 0; have zxf1 := has_free zx 1; have zxf2 := has_free zx 2
          have zxlt := has_lt zx
          have ZRH := Lib.hid zr; clear zr
          have ZXH := Lib.hid zx; clear zx
          go_wp2_with fail
          go_roundw
          case rel => exact ⟨k, z1, F1, L1, fA, lA, fn, ln, by go_num, by omega, HV1.out, oq_set3 RF.out ZXH.out (by decide) _ _ _, or_set3 RL.out ZXH.out (by decide) _ _ _, far3 ZRH.out (by omega) _ _ _, set3 ZXH.out, cur3 HC.out (by omega) (by omega) _ _ _, only3 HO.out (by omega) _ _ _⟩
          case measure => simp [intOf] <;> omega
        · skip
          have hF1 : F.length ≤ 1048576 := by omega
          have hL1 : L.length ≤ 1048576 := by omega
          have hF2 : F.length ≤ maxLen := by unfold maxLen; omega
          have hL2 : L.length ≤ maxLen := by unfold maxLen; omega
          have hj := fun (W : World) (h1 : OQ n W w.heap.size 3 A (intV F)) (h2 : OR W w.heap.size 65 A' (boxV L)) (u : Int) (j : Bool) => jamSo_any W W.heap.size ⟨z, A, F, n, A', L, n'⟩ u j hF1 hL1 (Nat.le_refl _) ⟨h1.il, h2.xl, hF2, hL2⟩
          dsimp only at hj
          have HJ := Lib.hid hj; clear hj hF1 hL1 hF2 hL2
          have zrc0 := has_cell zr 0 rfl; have zrc1 := has_cell zr 1 rfl; have zrc2 := has_cell zr 2 rfl
          have zrlt := has_lt zr
          have zxc0 := has_cell zx 0 rfl; have zxc1 := has_cell zx 1 rfl; have zxc2 := has_cell zx 2 rfl
          have zxlt := has_lt zx
          have ZRH := Lib.hid zr; clear zr
          have ZXH := Lib.hid zx; clear zx
          have zx0 := has_drew ZXH.out
          have zx0c0 := has_cell zx0 0 rfl; have zx0c1 := has_cell zx0 1 rfl; have zx0c2 := has_cell zx0 2 rfl
          clear zx0
          go_upto_region 16 with fail
          go_region_with (first
            | (go_at_call 26; refine (below_any w9.drew B g (4 + x0) (by omega) (by omega) HC.out.drew).mono ?_; rintro e w10 ⟨xu, hxu0, hxu1, rfl, hC9, hO9⟩; have hmw10 := hO9.size; have zrw10 := has_only (has_drew ZRH.out) hO9 (by omega); have zxw10 := has_only (has_drew ZXH.out) hO9 (by omega); have rfw10 := oq_only (oq_drewC RF.out) hO9 (by omega); have rlw10 := or_only (or_drewC RL.out) hO9 (by omega); have how10 := only_trans (only_drew HO.out) hO9; have zxw10c0 := has_cell zxw10 0 rfl; have zxw10c1 := has_cell zxw10 1 rfl; have zxw10c2 := has_cell zxw10 2 rfl; have ZRw10 := Lib.hid zrw10; have ZXw10 := Lib.hid zxw10; have RFw10 := Lib.hid rfw10; have RLw10 := Lib.hid rlw10; have HOw10 := Lib.hid how10; have HCw10 := Lib.hid hC9; clear zrw10 zxw10 rfw10 rlw10 how10 hC9 hO9)
            | (go_at_call 81; refine (once_any w10 B g 3 (by omega) (by omega) HCw10.out).mono ?_; rintro e w11 ⟨xj, rfl, hC9, hO9⟩; have hmw11 := hO9.size; have zrw11 := has_only ZRw10.out hO9 (by omega); have zxw11 := has_only ZXw10.out hO9 (by omega); have rfw11 := oq_only RFw10.out hO9 (by omega); have rlw11 := or_only RLw10.out hO9 (by omega); have how11 := only_trans HOw10.out hO9; have zxw11c0 := has_cell zxw11 0 rfl; have zxw11c1 := has_cell zxw11 1 rfl; have zxw11c2 := has_cell zxw11 2 rfl; have ZRw11 := Lib.hid zrw11; have ZXw11 := Lib.hid zxw11; have RFw11 := Lib.hid rfw11; have RLw11 := Lib.hid rlw11; have HOw11 := Lib.hid how11; have HCw11 := Lib.hid hC9; clear zrw11 zxw11 rfw11 rlw11 how11 hC9 hO9)
            | (go_at_call 83; (try rw [wx9]); refine (HJ.out w11 RFw11.out RLw11.out xu xj).mono ?_; rintro e w12 ⟨z1, F1, L1, bq, fA, lA, fn, ln, rfl, hR, hlf, hlb, or1, or2, hb⟩; have HV1 := Lib.hid (colV_jam HV.out hR); have hmw12 := hb.size; have zr9 := has_call ZRw11.out hb; have zx9 := has_call ZXw11.out hb; have zx9c0 := has_cell zx9 0 rfl; have zx9f0 := has_free zx9 0; have zx9c1 := has_cell zx9 1 rfl; have zx9f1 := has_free zx9 1; have zx9c2 := has_cell zx9 2 rfl; have zx9f2 := has_free zx9 2; have zx9lt := has_lt zx9; have ZR9 := Lib.hid zr9; have ZX9 := Lib.hid zx9; have RF9 := Lib.hid (or1.more HOw11.out.size); have RL9 := Lib.hid (or2.more HOw11.out.size); have HO9 := Lib.hid (only_trans HOw11.out (only_belC (g := g) hb)); have HC9 := Lib.hid (HCw11.out.belC hb); clear zr9 zx9 or1 or2 hb hR))
          all_goals (go_wp2_with fail)
          all_goals go_roundw
          skip
          all_goals first | exact ⟨k, z1, F1, L1, fA, lA, fn, ln, by go_num, by omega, HV1.out, oq_set3 RF9.out ZX9.out (by decide) _ _ _, or_set3 RL9.out ZX9.out (by decide) _ _ _, far3 ZR9.out (by omega) _ _ _, set3 ZX9.out, cur3 HC9.out (by omega) (by omega) _ _ _, only3 HO9.out (by omega) _ _ _⟩ | (simp [intOf] <;> omega)
        · skip
          have e0 : (xt == 0) = false := by rw [beq_eq_false_iff_ne]; omega
          have e1 : (xt == 1) = false := by rw [beq_eq_false_iff_ne]; omega
          have e2 : (xt == 2) = false := by rw [beq_eq_false_iff_ne]; omega
          have hF1 : F.length ≤ 1048576 := by omega
          have hL1 : L.length ≤ 1048576 := by omega
          have hF2 : F.length ≤ maxLen := by unfold maxLen; omega
          have hL2 : L.length ≤ maxLen := by unfold maxLen; omega
          have hj := fun (W : World) (h1 : OQ n W w.heap.size 3 A (intV F)) (h2 : OR W w.heap.size 65 A' (boxV L)) (p s : Int) => putSo_any W W.heap.size ⟨z, A, F, n, A', L, n'⟩ p s hF1 hL1 (Nat.le_refl _) ⟨h1.il, h2.xl, hF2, hL2⟩
          dsimp only at hj
          have HJ := Lib.hid hj; clear hj hF1 hL1 hF2 hL2
          have hpr : first ≤ first + xp ∧ first + xp ≤ first + 5 := by omega
          have zrc0 := has_cell zr 0 rfl; have zrc1 := has_cell zr 1 rfl; have zrc2 := has_cell zr 2 rfl
          have zrlt := has_lt zr
          have zxc0 := has_cell zx 0 rfl; have zxc1 := has_cell zx 1 rfl; have zxc2 := has_cell zx 2 rfl
          have zxlt := has_lt zx
          have ZRH := Lib.hid zr; clear zr
          have ZXH := Lib.hid zx; clear zx
          have zx0 := has_drew ZXH.out
          have zx0c0 := has_cell zx0 0 rfl; have zx0c1 := has_cell zx0 1 rfl; have zx0c2 := has_cell zx0 2 rfl
          clear zx0
          go_upto_region 11 with fail
          go_region_with (first
            | (go_at_call 26; refine (below_any w9.drew B g 4 (by omega) (by omega) HC.out.drew).mono ?_; rintro e w10 ⟨xu, hxu0, hxu1, rfl, hC9, hO9⟩; have hmw10 := hO9.size; have zrw10 := has_only (has_drew ZRH.out) hO9 (by omega); have zxw10 := has_only (has_drew ZXH.out) hO9 (by omega); have rfw10 := oq_only (oq_drewC RF.out) hO9 (by omega); have rlw10 := or_only (or_drewC RL.out) hO9 (by omega); have how10 := only_trans (only_drew HO.out) hO9; have zxw10c0 := has_cell zxw10 0 rfl; have zxw10c1 := has_cell zxw10 1 rfl; have zxw10c2 := has_cell zxw10 2 rfl; have ZRw10 := Lib.hid zrw10; have ZXw10 := Lib.hid zxw10; have RFw10 := Lib.hid rfw10; have RLw10 := Lib.hid rlw10; have HOw10 := Lib.hid how10; have HCw10 := Lib.hid hC9; clear zrw10 zxw10 rfw10 rlw10 how10 hC9 hO9; have wx9 : IntKind.i64.wrap (1 + xu) = 1 + xu := IntWalk.i64_in _ (by omega))
            | (go_at_call 84; (try rw [wx9]); refine (HJ.out w10 RFw10.out RLw10.out (first + xp) (1 + xu)).mono ?_; rintro e w11 ⟨z1, F1, L1, iq, bq, fA, lA, fn, ln, rfl, hR, hlf, hlb, or1, or2, hb⟩; have HV1 := Lib.hid (colV_put HV.out hpr hR); have hmw11 := hb.size; have zr9 := has_call ZRw10.out hb; have zx9 := has_call ZXw10.out hb; have zx9c0 := has_cell zx9 0 rfl; have zx9f0 := has_free zx9 0; have zx9c1 := has_cell zx9 1 rfl; have zx9f1 := has_free zx9 1; have zx9c2 := has_cell zx9 2 rfl; have zx9f2 := has_free zx9 2; have zx9lt := has_lt zx9; have ZR9 := Lib.hid zr9; have ZX9 := Lib.hid zx9; have RF9 := Lib.hid (or1.more HOw10.out.size); have RL9 := Lib.hid (or2.more HOw10.out.size); have HO9 := Lib.hid (only_trans HOw10.out (only_belC (g := g) hb)); have HC9 := Lib.hid (HCw10.out.belC hb); clear zr9 zx9 or1 or2 hb hR))
          all_goals (go_wp2_with fail)
          all_goals go_roundw
          skip
          all_goals first | exact ⟨k, z1, F1, L1, fA, lA, fn, ln, by go_num, by omega, HV1.out, oq_set3 RF9.out ZX9.out (by decide) _ _ _, or_set3 RL9.out ZX9.out (by decide) _ _ _, far3 ZR9.out (by omega) _ _ _, set3 ZX9.out, cur3 HC9.out (by omega) (by omega) _ _ _, only3 HO9.out (by omega) _ _ _⟩ | (simp [intOf] <;> omega)
  · skip
    have zrc0 := has_cell zr 0 rfl; have zrc1 := has_cell zr 1 rfl; have zrc2 := has_cell zr 2 rfl
    have zrlt := has_lt zr
    have zflt := has_lt zf
    have ZRH := Lib.hid zr; clear zr
    have ZFH := Lib.hid zf; clear zf
    go_wp2_with fail
    clear zrc0 zrc1 zrc2 zrlt zflt
    have zr := ZRH.out; clear ZRH
    have zf := ZFH.out; clear ZFH
    refine (below_any _ B g (4 + x0 - 2) (by omega) (by omega) HC.out).mono ?_
    rintro e w5 ⟨xy, hxy0, hxy1, rfl, hC9, hO9⟩
    replace zr := has_only zr hO9 (by omega)
    replace zf := has_only zf hO9 (by omega)
    have hmw5 := hO9.size
    have kk := only_trans HO.out hO9; clear HO; have HO := Lib.hid kk; clear kk
    clear HC; have HC := Lib.hid hC9; clear hC9 hO9
    have hsw5 := HO.out.size
    have HOWN := Lib.hid (own_nilC (size := 1) zf (Nat.le_refl _))
    have ZRH := Lib.hid zr; clear zr
    have ZFH := Lib.hid zf; clear zf
    go_wp2_with (at_builtin; go_must (refine list_app rfl _ _ 43 rfl w2.heap.size 3 j0 (.int .i64 0) 1 8 Try.underlying43 hj0 hy0 hy1 hy2 rfl (by decide) _ 0 _ rfl (HOWN.out.alloc _) (some ⟨w5.heap.size, 0, none⟩) 1 1 [.int .i64 (1 + xy)] rfl (src_intC (has_new _ _ _)) (by unfold maxLen; omega) (by omega) (by simp; omega) ?_))
    intro A3 c3 w6 hown3 hgrow3 hrow3
    have hO9 : Only w g w6 := only_grownC HO.out hgrow3 (fun b hb => by have := (hrow3 b hb).1; omega)
    have hC9 : Cur w6 B g := cur_grownC HC.out hgrow3 (fun b hb => by have := (hrow3 b hb).1; omega)
    have or3 := or_of hown3
    have hlr := has_lt ZFH.out
    have zr := has_grown (has_alloc ZRH.out (.cells #[.int .i64 (1 + xy)] 3)) hgrow3 (fun e => by have := (hrow3 _ e.symm).1; omega)
    have hmw6 : w5.heap.size ≤ w6.heap.size := by have h8 := hgrow3.size; have h9 := (balloc w5 (.cells #[.int .i64 (1 + xy)] 3)).size; omega
    clear hown3 hgrow3 hrow3 ZRH ZFH
    clear HO HC; have HO := Lib.hid hO9; have HC := Lib.hid hC9; clear hO9 hC9
    have hsw6 := HO.out.size
    have zf := zr
    skip
    have zrc0 := has_cell zr 0 rfl; have zrc1 := has_cell zr 1 rfl; have zrc2 := has_cell zr 2 rfl
    have zrlt := has_lt zr
    have ZRH := Lib.hid zr; clear zr
    have ZFH := Lib.hid zf; clear zf
    go_wp2_with fail
    clear zrc0 zrc1 zrc2 zrlt
    have zr := ZRH.out; clear ZRH
    have zf := ZFH.out; clear ZFH
    have ZRH := Lib.hid zr; clear zr
    have ZFH := Lib.hid zf; clear zf
    go_wp2_with fail
    have zr := ZRH.out; clear ZRH
    have zf := ZFH.out; clear ZFH
    refine (newSo_any w6 w6.heap.size A3 c3 (4 + x0) [1 + xy] (by simp) (Nat.le_refl _) or3.il).mono ?_
    rintro e w7 ⟨z, F, L, bq, fA, lA, fn, ln, rfl, hR, hlf, hlb, or1, or2, hb⟩
    have hV := colV_new (first := first) (fix_one (by omega) (by omega) (by omega)) (by simp) hR; clear hR
    replace zr := has_call zr hb
    replace zf := has_call zf hb
    have hmw7 := hb.size
    have kk := HC.out.belC hb; clear HC; have HC := Lib.hid kk; clear kk
    have kk := only_trans HO.out (only_belC (g := g) hb); clear HO; have HO := Lib.hid kk; clear kk hb
    have hsw7 := HO.out.size
    have RF := Lib.hid (or1.more (show w.heap.size ≤ w6.heap.size by omega)); have RL := Lib.hid (or2.more (show w.heap.size ≤ w6.heap.size by omega)); clear or1 or2
    have zrc0 := has_cell zr 0 rfl; have zrc1 := has_cell zr 1 rfl; have zrc2 := has_cell zr 2 rfl
    have zrlt := has_lt zr
    have zflt := has_lt zf
    have ZRH := Lib.hid zr; clear zr
    have ZFH := Lib.hid zf; clear zf
    go_wp2_with fail
    clear zrc0 zrc1 zrc2 zrlt zflt
    have zr := ZRH.out; clear ZRH
    have zf := ZFH.out; clear ZFH
    generalize hX : (w7.alloc (.cells #[.int .i64 z, .slice fA F.length fn, .slice lA L.length ln] 57)) = w8
    have hb : Below w7.heap.size w7 w8 := by rw [← hX]; exact balloc _ _
    have hk : Has w8 w7.heap.size 57 #[.int .i64 z, .slice fA F.length fn, .slice lA L.length ln] := by rw [← hX]; exact has_new _ _ _
    clear hX
    replace zr := has_call zr hb
    replace zf := has_call zf hb
    have kk := OQ.below RF.out hb; clear RF; have RF := Lib.hid kk; clear kk
    have kk := OR.below RL.out hb; clear RL; have RL := Lib.hid kk; clear kk
    have hmw8 := hb.size
    have kk := HC.out.belC hb; clear HC; have HC := Lib.hid kk; clear kk
    have kk := only_trans HO.out (only_belC (g := g) hb); clear HO; have HO := Lib.hid kk; clear kk hb
    have hsw8 := HO.out.size
    have zx := hk; clear hk; have hlzx := has_lt zx
    clear zf hlzf
    refine (below_any _ B g 7 (by omega) (by omega) HC.out).mono ?_
    rintro e w9 ⟨xn, hxn0, hxn1, rfl, hC9, hO9⟩
    replace zr := has_only zr hO9 (by omega)
    replace zx := has_only zx hO9 (by omega)
    have kk := oq_only RF.out hO9 (by omega); clear RF; have RF := Lib.hid kk; clear kk
    have kk := or_only RL.out hO9 (by omega); clear RL; have RL := Lib.hid kk; clear kk
    have hmw9 := hO9.size
    have kk := only_trans HO.out hO9; clear HO; have HO := Lib.hid kk; clear kk
    clear HC; have HC := Lib.hid hC9; clear hC9 hO9
    have hsw9 := HO.out.size
    obtain ⟨n0, hn0⟩ := Int.eq_ofNat_of_zero_le hxn0; subst hn0
    have hne1 : ¬ w.heap.size = w7.heap.size := (by omega); have hne2 : ¬ w7.heap.size = w.heap.size := (by omega)
    have HV := Lib.hid hV; clear hV
    have ST : Hid (Has w9 (w.heap.size) 57 #[.int .i64 0, .slice none 0 0, .slice none 0 0] ∧ Has w9 (w7.heap.size) 57 #[.int .i64 z, .slice fA F.length fn, .slice lA L.length ln]) := Lib.hid ⟨zr, zx⟩; clear zr zx
    go_wp2_with fail
    go_loopw [9] (fun nv wr => ∃ (k : Nat) (z : Int) (F : List Int) (L : List Bx) (A A' : Option Addr) (n n' : Nat), nv = .int .i64 (k : Int) ∧ k ≤ 6 ∧ ColV first z F L ∧ OQ n wr w.heap.size 3 A (intV F) ∧ OR wr w.heap.size 65 A' (boxV L) ∧ Has wr (w.heap.size) 57 #[.int .i64 0, .slice none 0 0, .slice none 0 0] ∧ Has wr (w7.heap.size) 57 #[.int .i64 z, .slice A F.length n, .slice A' L.length n'] ∧ Cur wr B g ∧ Only w g wr) (fun nv _ => (intOf nv).toNat)
    case atStart => exact ⟨n0, z, F, L, fA, lA, fn, ln, rfl, by omega, HV.out, RF.out, RL.out, ST.out.1, ST.out.2, HC.out, HO.out⟩
    case round =>
      obtain ⟨k, z, F, L, A, A', n, n', rfl, hk6, hV, or1, or2, zr, zx, hC9, hO9⟩ := hrel
      clear ST HC HO HV RF RL; have HC := Lib.hid hC9; have HO := Lib.hid hO9; have HV := Lib.hid hV; have RF := Lib.hid or1; have RL := Lib.hid or2; clear hC9 hO9 or1 or2
      obtain ⟨hl1, hl2, hl3, hl4⟩ := cvd_len hV; have hl5 := hV.2.1; clear hV
      have hswr := HO.out.size
      have hlzr := has_lt zr; have hlzx := has_lt zx
      rcases k with _ | k
      · skip
        have zrc0 := has_cell zr 0 rfl; have zrc1 := has_cell zr 1 rfl; have zrc2 := has_cell zr 2 rfl
        have zrf0 := has_free zr 0; have zrf1 := has_free zr 1; have zrf2 := has_free zr 2
        have zrlt := has_lt zr
        have zxc0 := has_cell zx 0 rfl; have zxc1 := has_cell zx 1 rfl; have zxc2 := has_cell zx 2 rfl
        have zxlt := has_lt zx
        have ZRH := Lib.hid zr; clear zr
        have ZXH := Lib.hid zx; clear zx
        go_wp2_with fail
        refine bodyPost_ret (v := .agg #[.int .i64 z, .slice A F.length n, .slice A' L.length n']) ?_ ?_ ?_
        · simp [results, Try.results72, go_sem, zrc0, zrc1, zrc2, zrf0, zrf1, zrf2, zrlt]
        · rfl
        · exact ⟨z, F, L, A, A', n, n', rfl, HV.out, oq_set3 RF.out ZRH.out (by decide) _ _ _, or_set3 RL.out ZRH.out (by decide) _ _ _, cur3 HC.out (by omega) (by omega) _ _ _, only3 HO.out (by omega) _ _ _⟩
      · have hgt : (0 : Int) < ((k + 1 : Nat) : Int) := by omega
        have zrc0 := has_cell zr 0 rfl; have zrc1 := has_cell zr 1 rfl; have zrc2 := has_cell zr 2 rfl
        have zrlt := has_lt zr
        have zxc0 := has_cell zx 0 rfl; have zxc1 := has_cell zx 1 rfl; have zxc2 := has_cell zx 2 rfl
        have zxlt := has_lt zx
        have ZRH := Lib.hid zr; clear zr
        have ZXH := Lib.hid zx; clear zx
        go_wp2_with fail
        clear zrc0 zrc1 zrc2 zrlt zxc0 zxc1 zxc2 zxlt
        have zr := ZRH.out; clear ZRH
        have zx := ZXH.out; clear ZXH
        refine (below_any _ B g 6 (by omega) (by omega) HC.out).mono ?_
        rintro e w10 ⟨xp, hxp0, hxp1, rfl, hC9, hO9⟩
        replace zr := has_only zr hO9 (by omega)
        replace zx := has_only zx hO9 (by omega)
        have kk := oq_only RF.out hO9 (by omega); clear RF; have RF := Lib.hid kk; clear kk
        have kk := or_only RL.out hO9 (by omega); clear RL; have RL := Lib.hid kk; clear kk
        have hmw10 := hO9.size
        have kk := only_trans HO.out hO9; clear HO; have HO := Lib.hid kk; clear kk
        clear HC; have HC := Lib.hid hC9; clear hC9 hO9
        have hsw10 := HO.out.size
        have zrc0 := has_cell zr 0 rfl; have zrc1 := has_cell zr 1 rfl; have zrc2 := has_cell zr 2 rfl
        have zrlt := has_lt zr
        have zxc0 := has_cell zx 0 rfl; have zxc1 := has_cell zx 1 rfl; have zxc2 := has_cell zx 2 rfl
        have zxlt := has_lt zx
        have ZRH := Lib.hid zr; clear zr
        have ZXH := Lib.hid zx; clear zx
        go_wp2_with fail
        clear zrc0 zrc1 zrc2 zrlt zxc0 zxc1 zxc2 zxlt
        have zr := ZRH.out; clear ZRH
        have zx := ZXH.out; clear ZXH
        refine (below_any _ B g 6 (by omega) (by omega) HC.out).mono ?_
        rintro e w11 ⟨xt, hxt0, hxt1, rfl, hC9, hO9⟩
        replace zr := has_only zr hO9 (by omega)
        replace zx := has_only zx hO9 (by omega)
        have kk := oq_only RF.out hO9 (by omega); clear RF; have RF := Lib.hid kk; clear kk
        have kk := or_only RL.out hO9 (by omega); clear RL; have RL := Lib.hid kk; clear kk
        have hmw11 := hO9.size
        have kk := only_trans HO.out hO9; clear HO; have HO := Lib.hid kk; clear kk
        clear HC; have HC := Lib.hid hC9; clear hC9 hO9
        have hsw11 := HO.out.size
        have hcs : xt = 0 ∨ xt = 1 ∨ xt = 2 ∨ 3 ≤ xt := by omega
        rcases hcs with rfl | rfl | rfl | h3
        · skip
          have zrc0 := has_cell zr 0 rfl; have zrc1 := has_cell zr 1 rfl; have zrc2 := has_cell zr 2 rfl
          have zrlt := has_lt zr
          have zxc0 := has_cell zx 0 rfl; have zxc1 := has_cell zx 1 rfl; have zxc2 := has_cell zx 2 rfl
          have zxlt := has_lt zx
          have ZRH := Lib.hid zr; clear zr
          have ZXH := Lib.hid zx; clear zx
          go_wp2_with fail
          clear zrc0 zrc1 zrc2 zrlt zxc0 zxc1 zxc2 zxlt
          have zr := ZRH.out; clear ZRH
          have zx := ZXH.out; clear ZXH
          have hct := takeSo_any w11 w11.heap.size ⟨z, A, F, n, A', L, n'⟩ (first + xp) (by show F.length ≤ _; omega) (by show L.length ≤ _; omega) (Nat.le_refl _) ⟨RF.out.il, RL.out.xl, by show F.length ≤ maxLen; unfold maxLen; omega, by show L.length ≤ maxLen; unfold maxLen; omega⟩
          dsimp only at hct
          refine hct.mono ?_
          clear hct
          rintro e w12 ⟨z1, F1, L1, bq, fA, lA, fn, ln, rfl, hR, hlf, hlb, or1, or2, hb⟩
          have HV1 := Lib.hid (colV_take HV.out hR); clear hR
          clear RF RL
          replace zr := has_call zr hb
          replace zx := has_call zx hb
          have hmw12 := hb.size
          have kk := HC.out.belC hb; clear HC; have HC := Lib.hid kk; clear kk
          have kk := only_trans HO.out (only_belC (g := g) hb); clear HO; have HO := Lib.hid kk; clear kk hb
          have hsw12 := HO.out.size
          have RF := Lib.hid (or1.more (show w.heap.size ≤ w11.heap.size by omega)); have RL := Lib.hid (or2.more (show w.heap.size ≤ w11.heap.size by omega)); clear or1 or2
          have zrc0 := has_cell zr 0 rfl; have zrc1 := has_cell zr 1 rfl; have zrc2 := has_cell zr 2 rfl
          have zrlt := has_lt zr
          have zxc0 := has_cell zx 0 rfl; have zxc1 := has_cell zx 1 rfl; have zxc2 := has_cell zx 2 rfl
          have zxf0 := has_free zx 0; have zxf1 := has_free zx 1; have zxf2 := has_free zx 2
          have zxlt := has_lt zx
          have ZRH := Lib.hid zr; clear zr
          have ZXH := Lib.hid zx; clear zx
          go_wp2_with fail
          go_roundw
          case rel => exact ⟨k, z1, F1, L1, fA, lA, fn, ln, by go_num, by omega, HV1.out, oq_set3 RF.out ZXH.out (by decide) _ _ _, or_set3 RL.out ZXH.out (by decide) _ _ _, far3 ZRH.out (by omega) _ _ _, set3 ZXH.out, cur3 HC.out (by omega) (by omega) _ _ _, only3 HO.out (by omega) _ _ _⟩
          case measure => simp [intOf] <;> omega
        · skip
          have zrc0 := has_cell zr 0 rfl; have zrc1 := has_cell zr 1 rfl; have zrc2 := has_cell zr 2 rfl
          have zrlt := has_lt zr
          have zxc0 := has_cell zx 0 rfl; have zxc1 := has_cell zx 1 rfl; have zxc2 := has_cell zx 2 rfl
          have zxlt := has_lt zx
          have ZRH := Lib.hid zr; clear zr
          have ZXH := Lib.hid zx; clear zx
          go_wp2_with fail
          clear zrc0 zrc1 zrc2 zrlt zxc0 zxc1 zxc2 zxlt
          have zr := ZRH.out; clear ZRH
          have zx := ZXH.out; clear ZXH
          have hct := takeSo_any w11 w11.heap.size ⟨z, A, F, n, A', L, n'⟩ (first + xp) (by show F.length ≤ _; omega) (by show L.length ≤ _; omega) (Nat.le_refl _) ⟨RF.out.il, RL.out.xl, by show F.length ≤ maxLen; unfold maxLen; omega, by show L.length ≤ maxLen; unfold maxLen; omega⟩
          dsimp only at hct
          refine hct.mono ?_
          clear hct
          rintro e w12 ⟨z1, F1, L1, bq, fA, lA, fn, ln, rfl, hR, hlf, hlb, or1, or2, hb⟩
          have HV1 := Lib.hid (colV_take HV.out hR); clear hR
          clear RF RL
          replace zr := has_call zr hb
          replace zx := has_call zx hb
          have hmw12 := hb.size
          have kk := HC.out.belC hb; clear HC; have HC := Lib.hid kk; clear kk
          have kk := only_trans HO.out (only_belC (g := g) hb); clear HO; have HO := Lib.hid kk; clear kk hb
          have hsw12 := HO.out.size
          have RF := Lib.hid (or1.more (show w.heap.size ≤ w11.heap.size by omega)); have RL := Lib.hid (or2.more (show w.heap.size ≤ w11.heap.size by omega)); clear or1 or2
          have zrc0 := has_cell zr 0 rfl; have zrc1 := has_cell zr 1 rfl; have zrc2 := has_cell zr 2 rfl
          have zrlt := has_lt zr
          have zxc0 := has_cell zx 0 rfl; have zxc1 := has_cell zx 1 rfl; have zxc2 := has_cell zx 2 rfl
          have zxf0 := has_free zx 0; have zxf1 := has_free zx 1; have zxf2 := has_free zx 2
          have zxlt := has_lt zx
          have ZRH := Lib.hid zr; clear zr
          have ZXH := Lib.hid zx; clear zx
          go_wp2_with fail
          go_roundw
          case rel => exact ⟨k, z1, F1, L1, fA, lA, fn, ln, by go_num, by omega, HV1.out, oq_set3 RF.out ZXH.out (by decide) _ _ _, or_set3 RL.out ZXH.out (by decide) _ _ _, far3 ZRH.out (by omega) _ _ _, set3 ZXH.out, cur3 HC.out (by omega) (by omega) _ _ _, only3 HO.out (by omega) _ _ _⟩
          case measure => simp [intOf] <;> omega
        · skip
          have hF1 : F.length ≤ 1048576 := by omega
          have hL1 : L.length ≤ 1048576 := by omega
          have hF2 : F.length ≤ maxLen := by unfold maxLen; omega
          have hL2 : L.length ≤ maxLen := by unfold maxLen; omega
          have hj := fun (W : World) (h1 : OQ n W w.heap.size 3 A (intV F)) (h2 : OR W w.heap.size 65 A' (boxV L)) (u : Int) (j : Bool) => jamSo_any W W.heap.size ⟨z, A, F, n, A', L, n'⟩ u j hF1 hL1 (Nat.le_refl _) ⟨h1.il, h2.xl, hF2, hL2⟩
          dsimp only at hj
          have HJ := Lib.hid hj; clear hj hF1 hL1 hF2 hL2
          have zrc0 := has_cell zr 0 rfl; have zrc1 := has_cell zr 1 rfl; have zrc2 := has_cell zr 2 rfl
          have zrlt := has_lt zr
          have zxc0 := has_cell zx 0 rfl; have zxc1 := has_cell zx 1 rfl; have zxc2 := has_cell zx 2 rfl
          have zxlt := has_lt zx
          have ZRH := Lib.hid zr; clear zr
          have ZXH := Lib.hid zx; clear zx
          have zx0 := has_drew ZXH.out
          have zx0c0 := has_cell zx0 0 rfl; have zx0c1 := has_cell zx0 1 rfl; have zx0c2 := has_cell zx0 2 rfl
          clear zx0
          go_upto_region 16 with fail
          go_region_with (first
            | (go_at_call 26; refine (below_any w11.drew B g (4 + x0) (by omega) (by omega) HC.out.drew).mono ?_; rintro e w12 ⟨xu, hxu0, hxu1, rfl, hC9, hO9⟩; have hmw12 := hO9.size; have zrw12 := has_only (has_drew ZRH.out) hO9 (by omega); have zxw12 := has_only (has_drew ZXH.out) hO9 (by omega); have rfw12 := oq_only (oq_drewC RF.out) hO9 (by omega); have rlw12 := or_only (or_drewC RL.out) hO9 (by omega); have how12 := only_trans (only_drew HO.out) hO9; have zxw12c0 := has_cell zxw12 0 rfl; have zxw12c1 := has_cell zxw12 1 rfl; have zxw12c2 := has_cell zxw12 2 rfl; have ZRw12 := Lib.hid zrw12; have ZXw12 := Lib.hid zxw12; have RFw12 := Lib.hid rfw12; have RLw12 := Lib.hid rlw12; have HOw12 := Lib.hid how12; have HCw12 := Lib.hid hC9; clear zrw12 zxw12 rfw12 rlw12 how12 hC9 hO9)
            | (go_at_call 81; refine (once_any w12 B g 3 (by omega) (by omega) HCw12.out).mono ?_; rintro e w13 ⟨xj, rfl, hC9, hO9⟩; have hmw13 := hO9.size; have zrw13 := has_only ZRw12.out hO9 (by omega); have zxw13 := has_only ZXw12.out hO9 (by omega); have rfw13 := oq_only RFw12.out hO9 (by omega); have rlw13 := or_only RLw12.out hO9 (by omega); have how13 := only_trans HOw12.out hO9; have zxw13c0 := has_cell zxw13 0 rfl; have zxw13c1 := has_cell zxw13 1 rfl; have zxw13c2 := has_cell zxw13 2 rfl; have ZRw13 := Lib.hid zrw13; have ZXw13 := Lib.hid zxw13; have RFw13 := Lib.hid rfw13; have RLw13 := Lib.hid rlw13; have HOw13 := Lib.hid how13; have HCw13 := Lib.hid hC9; clear zrw13 zxw13 rfw13 rlw13 how13 hC9 hO9)
            | (go_at_call 83; (try rw [wx9]); refine (HJ.out w13 RFw13.out RLw13.out xu xj).mono ?_; rintro e w14 ⟨z1, F1, L1, bq, fA, lA, fn, ln, rfl, hR, hlf, hlb, or1, or2, hb⟩; have HV1 := Lib.hid (colV_jam HV.out hR); have hmw14 := hb.size; have zr9 := has_call ZRw13.out hb; have zx9 := has_call ZXw13.out hb; have zx9c0 := has_cell zx9 0 rfl; have zx9f0 := has_free zx9 0; have zx9c1 := has_cell zx9 1 rfl; have zx9f1 := has_free zx9 1; have zx9c2 := has_cell zx9 2 rfl; have zx9f2 := has_free zx9 2; have zx9lt := has_lt zx9; have ZR9 := Lib.hid zr9; have ZX9 := Lib.hid zx9; have RF9 := Lib.hid (or1.more HOw13.out.size); have RL9 := Lib.hid (or2.more HOw13.out.size); have HO9 := Lib.hid (only_trans HOw13.out (only_belC (g := g) hb)); have HC9 := Lib.hid (HCw13.out.belC hb); clear zr9 zx9 or1 or2 hb hR))
          all_goals (go_wp2_with fail)
          all_goals go_roundw
          skip
          all_goals first | exact ⟨k, z1, F1, L1, fA, lA, fn, ln, by go_num, by omega, HV1.out, oq_set3 RF9.out ZX9.out (by decide) _ _ _, or_set3 RL9.out ZX9.out (by decide) _ _ _, far3 ZR9.out (by omega) _ _ _, set3 ZX9.out, cur3 HC9.out (by omega) (by omega) _ _ _, only3 HO9.out (by omega) _ _ _⟩ | (simp [intOf] <;> omega)
        · skip
          have e0 : (xt == 0) = false := by rw [beq_eq_false_iff_ne]; omega
          have e1 : (xt == 1) = false := by rw [beq_eq_false_iff_ne]; omega
          have e2 : (xt == 2) = false := by rw [beq_eq_false_iff_ne]; omega
          have hF1 : F.length ≤ 1048576 := by omega
          have hL1 : L.length ≤ 1048576 := by omega
          have hF2 : F.length ≤ maxLen := by unfold maxLen; omega
          have hL2 : L.length ≤ maxLen := by unfold maxLen; omega
          have hj := fun (W : World) (h1 : OQ n W w.heap.size 3 A (intV F)) (h2 : OR W w.heap.size 65 A' (boxV L)) (p s : Int) => putSo_any W W.heap.size ⟨z, A, F, n, A', L, n'⟩ p s hF1 hL1 (Nat.le_refl _) ⟨h1.il, h2.xl, hF2, hL2⟩
          dsimp only at hj
          have HJ := Lib.hid hj; clear hj hF1 hL1 hF2 hL2
          have hpr : first ≤ first + xp ∧ first + xp ≤ first + 5 := by omega
          have zrc0 := has_cell zr 0 rfl; have zrc1 := has_cell zr 1 rfl; have zrc2 := has_cell zr 2 rfl
          have zrlt := has_lt zr
          have zxc0 := has_cell zx 0 rfl; have zxc1 := has_cell zx 1 rfl; have zxc2 := has_cell zx 2 rfl
          have zxlt := has_lt zx
          have ZRH := Lib.hid zr; clear zr
          have ZXH := Lib.hid zx; clear zx
          have zx0 := has_drew ZXH.out
          have zx0c0 := has_cell zx0 0 rfl; have zx0c1 := has_cell zx0 1 rfl; have zx0c2 := has_cell zx0 2 rfl
          clear zx0
          go_upto_region 11 with fail
          go_region_with (first
            | (go_at_call 26; refine (below_any w11.drew B g 4 (by omega) (by omega) HC.out.drew).mono ?_; rintro e w12 ⟨xu, hxu0, hxu1, rfl, hC9, hO9⟩; have hmw12 := hO9.size; have zrw12 := has_only (has_drew ZRH.out) hO9 (by omega); have zxw12 := has_only (has_drew ZXH.out) hO9 (by omega); have rfw12 := oq_only (oq_drewC RF.out) hO9 (by omega); have rlw12 := or_only (or_drewC RL.out) hO9 (by omega); have how12 := only_trans (only_drew HO.out) hO9; have zxw12c0 := has_cell zxw12 0 rfl; have zxw12c1 := has_cell zxw12 1 rfl; have zxw12c2 := has_cell zxw12 2 rfl; have ZRw12 := Lib.hid zrw12; have ZXw12 := Lib.hid zxw12; have RFw12 := Lib.hid rfw12; have RLw12 := Lib.hid rlw12; have HOw12 := Lib.hid how12; have HCw12 := Lib.hid hC9; clear zrw12 zxw12 rfw12 rlw12 how12 hC9 hO9; have wx9 : IntKind.i64.wrap (1 + xu) = 1 + xu := IntWalk.i64_in _ (by omega))
            | (go_at_call 84; (try rw [wx9]); refine (HJ.out w12 RFw12.out RLw12.out (first + xp) (1 + xu)).mono ?_; rintro e w13 ⟨z1, F1, L1, iq, bq, fA, lA, fn, ln, rfl, hR, hlf, hlb, or1, or2, hb⟩; have HV1 := Lib.hid (colV_put HV.out hpr hR); have hmw13 := hb.size; have zr9 := has_call ZRw12.out hb; have zx9 := has_call ZXw12.out hb; have zx9c0 := has_cell zx9 0 rfl; have zx9f0 := has_free zx9 0; have zx9c1 := has_cell zx9 1 rfl; have zx9f1 := has_free zx9 1; have zx9c2 := has_cell zx9 2 rfl; have zx9f2 := has_free zx9 2; have zx9lt := has_lt zx9; have ZR9 := Lib.hid zr9; have ZX9 := Lib.hid zx9; have RF9 := Lib.hid (or1.more HOw12.out.size); have RL9 := Lib.hid (or2.more HOw12.out.size); have HO9 := Lib.hid (only_trans HOw12.out (only_belC (g := g) hb)); have HC9 := Lib.hid (HCw12.out.belC hb); clear zr9 zx9 or1 or2 hb hR))
          all_goals (go_wp2_with fail)
          all_goals go_roundw
          skip
          all_goals first | exact ⟨k, z1, F1, L1, fA, lA, fn, ln, by go_num, by omega, HV1.out, oq_set3 RF9.out ZX9.out (by decide) _ _ _, or_set3 RL9.out ZX9.out (by decide) _ _ _, far3 ZR9.out (by omega) _ _ _, set3 ZX9.out, cur3 HC9.out (by omega) (by omega) _ _ _, only3 HO9.out (by omega) _ _ _⟩ | (simp [intOf] <;> omega)
end Go.Proofs.Ythfpjfekemelaaa
