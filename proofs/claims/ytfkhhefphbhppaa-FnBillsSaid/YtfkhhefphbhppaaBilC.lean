/- Chapter 6: the drawing for the law on bills (gen_dct.py). -/
import Derived.Test.YtfkhhefphbhppaaAnyW
namespace Go.Proofs.Ytfkhhefphbhppaa
open Go.RowKit
set_option linter.unusedVariables false
theorem tm_more {w : World} {base : Nat} {v : Value} {l : List Tm} {x : Tm} (h : w.ownsRow base 35 8 v (l.length + 1) (tmV l ++ tmC x)) : w.ownsRow base 35 8 v (l ++ [x]).length (tmV (l ++ [x])) := by
  rw [tmV_app, List.length_append]; exact h
theorem own_or6 {w : World} {base size n c : Nat} {e : TypeId} {A : Option Addr} {xs : List Value} (h : w.ownsRow base e size (.slice A n c) n xs) : OR w base e A xs := by
  obtain ⟨A', c', e1, h1⟩ := or_own h
  injection e1 with e1 _ _; subst e1; exact h1
theorem sl_own6 {w : World} {base n : Nat} {A : Option Addr} {l : List (Int × Int)} (h : w.ownsRow base 57 2 (.slice A l.length n) l.length (cellsL l)) : SL w w.heap.size A l := by
  obtain ⟨A1, c1, e1, S1, _⟩ := sl_own h
  injection e1 with e1 _ _; subst e1; exact S1
theorem tm_not {w : World} {base n gz : Nat} {v : Value} {xs : List Value} {cs : Array Value} (h : w.ownsRow base 35 8 v n xs) (hz : Has w gz 26 cs) : v.ownBlock ≠ some gz := by
  intro e
  rcases h.2 with ⟨rfl, _⟩ | ⟨g, cap, cur, rfl, _, hh, _⟩
  · simp [Value.ownBlock] at e
  · have : g = gz := by simpa [Value.ownBlock] using e
    subst this
    have := hh.symm.trans hz
    injection this with this; injection this with _ this _
    exact absurd this (by decide)
/-- a row of terms and a row of spans are not one row -/
theorem tm_own {w : World} {base base' n n' : Nat} {v v' : Value} {xs xs' : List Value} (h : w.ownsRow base 35 8 v n xs) (h' : w.ownsRow base' 57 2 v' n' xs') : v'.ownBlock = none ∨ v'.ownBlock ≠ v.ownBlock := by
  rcases h'.2 with ⟨rfl, _⟩ | ⟨g', cap', cur', rfl, _, hh', _⟩
  · exact .inl rfl
  · refine .inr fun e => ?_
    rcases h.2 with ⟨rfl, _⟩ | ⟨g, cap, cur, rfl, _, hh, _⟩
    · simp [Value.ownBlock] at e
    · have : g' = g := by simpa [Value.ownBlock] using e
      subst this
      have := hh.symm.trans hh'
      injection this with this; injection this with _ this _
      exact absurd this (by decide)
/-- what is drawn for the law on bills -/
def BillGiven (w : World) (e : Ending) (w' : World) : Prop :=
  ∃ (A1 A2 : Option Addr) (m m' : Nat) (o c : List (Int × Int)) (AT : Option Addr) (cT : Nat) (T : List Tm) (AF : Option Addr) (cF : Nat) (L : List St),
    e = .returned (.tuple #[.agg #[.slice A1 o.length m, .slice A2 c.length m'], .slice AT T.length cT, .slice AF L.length cF]) ∧ o.length ≤ 20 ∧ c.length ≤ 21 ∧ T.length ≤ 3 ∧ L.length ≤ 21 ∧
    SL w' w'.heap.size A1 o ∧ SL w' w'.heap.size A2 c ∧ tmL w' w'.heap.size AT T ∧ stL w' w'.heap.size AF L ∧ Below w.heap.size w w' 
set_option maxRecDepth 100000 in
set_option maxHeartbeats 16000000 in
theorem billD_any (w : World) (A : Option Addr) (n ca : Nat) (hn : n ≤ maxLen) (hS : BS w w.heap.size A n) : Calls Try.prog 5 #[.slice A n ca] w (BillGiven w) := by
  have HS := Lib.hid hS; clear hS
  obtain ⟨i0, hi0, hz0, hz1, hz2⟩ := info_parts tmInfo
  have I0 := Lib.hid hi0; have Z0 := Lib.hid hz0; have Z1 := Lib.hid hz1; have Z2 := Lib.hid hz2; clear hi0 hz0 hz1 hz2
  go_enter Try.func5, Try.ntmps5
  go_wp2_with fail
  generalize hX : (w.alloc (.cells #[.slice none 0 0, .slice none 0 0] 26)) = w1
  have b1 : Below w.heap.size w w1 := by rw [← hX]; exact balloc _ _
  have k1 : Has w1 w.heap.size 26 #[.slice none 0 0, .slice none 0 0] := by rw [← hX]; exact has_new _ _ _
  have z1 : w1.heap.size = w.heap.size + 1 := by rw [← hX]; simp
  clear hX
  have Z1z := Lib.hid z1; clear z1
  refine (new_any w1 w.heap.size A n ca hn b1.size (HS.out.below b1)).mono ?_
  rintro e w2 ⟨rfl, hC2, hb2⟩
  have hg2 := hC2.lt.2
  have k2 := has_call k1 hb2
  have B2 := Lib.hid (bthen b1 hb2); have C2 := Lib.hid hC2; have KR2 := Lib.hid k2; clear k1 k2 b1 hb2 hC2
  obtain ⟨gg, hgg⟩ : ∃ gg, w1.heap.size = gg := ⟨_, rfl⟩
  have hgw : gg = w.heap.size + 1 := by have := Z1z.out; omega
  have HGG := Lib.hid hgw; clear hgw
  rw [hgg] at C2 hg2 ⊢
  clear hgg Z1z
  have hw2 : w.heap.size + 1 < w2.heap.size := by have := HGG.out; omega
  go_wp2_with fail
  refine (anyWeek_any w2 w.heap.size gg C2.out).mono ?_
  rintro e w3 ⟨A1, A2, m, m', o, c, rfl, hlo, hlc, ⟨b1, hb1, ro⟩, ⟨b2, hb2, rc⟩, hC3, hO3⟩
  have RO3 := Lib.hid ro; have RC3 := Lib.hid rc; have C3 := Lib.hid hC3; have O3 := Lib.hid hO3; clear ro rc hC3 hO3 C2
  have hs3 := O3.out.size
  have KR3 := Lib.hid (hoo6 KR2.out O3.out (by have := HGG.out; omega)); clear KR2
  go_wp2_with fail
  generalize hX : (w3.alloc (.cells #[.slice A1 o.length m, .slice A2 c.length m'] 26)) = w4
  have hb4 : Below w3.heap.size w3 w4 := by rw [← hX]; exact balloc _ _
  have kw : Has w4 w3.heap.size 26 #[.slice A1 o.length m, .slice A2 c.length m'] := by rw [← hX]; exact has_new _ _ _
  have z4 : w4.heap.size = w3.heap.size + 1 := by rw [← hX]; simp
  clear hX
  have hs4 : w2.heap.size + 1 ≤ w4.heap.size := by omega
  generalize hX : (w4.alloc _) = wa
  have hba : Below w4.heap.size w4 wa := by rw [← hX]; exact balloc _ _
  have RT := Lib.hid (show wa.ownsRow (w2.heap.size + 1) 35 8 (.slice (some ⟨w3.heap.size + 1, 0, none⟩) 0 0) ([] : List Tm).length (tmV []) by rw [← hX]; exact owns_at w4 (w2.heap.size + 1) 35 8 (w3.heap.size + 1) z4 (by omega))
  clear hX
  have hg3 : gg < w2.heap.size := by have := HGG.out; omega
  have hs5 := hba.size
  have RO5 := Lib.hid (own_o6 (own_o6 RO3.out (only_bel (g := gg) hb4) (by omega)) (only_bel (g := gg) hba) (by omega))
  have RC5 := Lib.hid (own_o6 (own_o6 RC3.out (only_bel (g := gg) hb4) (by omega)) (only_bel (g := gg) hba) (by omega))
  have KR5 := Lib.hid (has_call (has_call KR3.out hb4) hba)
  have KW5 := Lib.hid (has_call kw hba)
  have C5 := Lib.hid ((C3.out.bel hb4).bel hba)
  have O5 := Lib.hid (only_trans (only_trans O3.out (only_bel (g := gg) hb4)) (only_bel (g := gg) hba))
  clear RO3 RC3 KR3 kw C3 O3 hb4 hba
  refine (below_any wa w.heap.size gg 4 (by omega) (by omega) C5.out).mono ?_
  rintro e w6 ⟨x, hx0, hx1, rfl, hC6, hO6⟩
  have hs6 := hO6.size
  have RT6 := Lib.hid (own_o6 RT.out hO6 (by omega)); have RO6 := Lib.hid (own_o6 RO5.out hO6 (by omega)); have RC6 := Lib.hid (own_o6 RC5.out hO6 (by omega))
  have KR6 := Lib.hid (hoo6 KR5.out hO6 (by have := HGG.out; omega)); have KW6 := Lib.hid (hoo6 KW5.out hO6 (by omega))
  have C6 := Lib.hid hC6; have O6 := Lib.hid (only_trans O5.out hO6)
  clear RT RO5 RC5 KR5 KW5 C5 O5 hC6 hO6
  obtain ⟨n9, rfl⟩ := Int.eq_ofNat_of_zero_le hx0
  go_wp2_with fail
  go_loopw [7, 8] (fun v nv wr => ∃ (k : Nat) (l : List Tm), nv = .int .i64 k ∧ l.length + k ≤ 3 ∧ wr.ownsRow (w2.heap.size + 1) 35 8 v l.length (tmV l) ∧ wr.ownsRow b1 57 2 (.slice A1 o.length m) o.length (cellsL o) ∧ wr.ownsRow b2 57 2 (.slice A2 c.length m') c.length (cellsL c) ∧ Has wr w.heap.size 26 #[.slice none 0 0, .slice none 0 0] ∧ Has wr w3.heap.size 26 #[.slice A1 o.length m, .slice A2 c.length m'] ∧ Cur wr w.heap.size gg ∧ Only w2 gg wr) (fun _ nv _ => (intOf nv).toNat)
  case atStart => exact ⟨n9, [], rfl, by simp; omega, RT6.out, RO6.out, RC6.out, KR6.out, KW6.out, C6.out, O6.out⟩
  case round =>
    clear RT6 RO6 RC6 KR6 KW6 C6 O6 hx0 hx1 hs6 hs5
    obtain ⟨k, l, rfl, hl, hrt, hro, hrc, hkr, hkw, hC, hO⟩ := hrel
    have hsr := hO.size
    have zlt := has_lt hkw
    have RT := Lib.hid hrt; have RO := Lib.hid hro; have RC := Lib.hid hrc; have KR := Lib.hid hkr; have KW := Lib.hid hkw; have HC := Lib.hid hC; have HO := Lib.hid hO
    clear hrt hro hrc hkr hkw hC hO
    obtain ⟨A9, c9, rfl, _⟩ := or_own RT.out
    rcases k with _ | k
    · have zw0 := has_cell KW.out 0 rfl; have zw1 := has_cell KW.out 1 rfl
      go_wp2_with fail
      refine wp_region_held_drew (S := (fun _ : World => True)) (by kernel_rfl) trivial (fun _ => ?_)
      clear zw0 zw1
      refine any_take (i := 1) (some 28) (.slice A9 l.length c9) rfl rfl (by kernel_rfl) (by kernel_rfl) (by kernel_rfl) (fun _ _ _ h => h) rfl (fun W hSw => ?_) (trivial) ?_
      · (try dsimp only at hSw); go_simp <;> with_reducible rfl
      try simp only [Act.put, List.setIfInBounds_toArray, List.set_cons_zero, List.set_cons_succ]
      refine any_take (i := 2) (some 29) (.pointer (some ⟨gg, 0, none⟩)) rfl rfl (by kernel_rfl) (by kernel_rfl) (by kernel_rfl) (fun _ _ _ h => h) rfl (fun W hSw => ?_) (trivial) ?_
      · (try dsimp only at hSw); go_simp <;> with_reducible rfl
      try simp only [Act.put, List.setIfInBounds_toArray, List.set_cons_zero, List.set_cons_succ]
      refine wpAnyH_ready (rs := [0, 3]) (by kernel_rfl) (by simp) ?_
      refine AllReadyH.cons rfl (fun K hK => ?_) (AllReadyH.cons rfl (fun K hK => ?_) AllReadyH.nil)
      · skip
        have zw0 := has_cell (show Has wr.drew _ _ _ from KW.out) 0 rfl; have zw1 := has_cell (show Has wr.drew _ _ _ from KW.out) 1 rfl
        go_simp
        clear zw0 zw1
        refine hK.out _ _ trivial (fun _ => ?_)
        clear hK K
        try simp only [Act.put, List.setIfInBounds_toArray, List.set_cons_zero, List.set_cons_succ]
        refine wpAnyH_ready (rs := [3]) (by kernel_rfl) (by simp) ?_
        refine AllReadyH.cons rfl (fun K hK => ?_) AllReadyH.nil
        go_simp
        go_at_call 15
        refine (staysD_any wr.drew w.heap.size gg HC.out).mono ?_
        rintro e w8 ⟨vS, L, rfl, hL, hown, hC8, hO8⟩
        obtain ⟨AF, cF, rfl, _⟩ := or_own hown
        go_wp2_with fail
        refine hK.out _ _ trivial (fun _ => ?_)
        clear hK K
        try simp only [Act.put, List.setIfInBounds_toArray, List.set_cons_zero, List.set_cons_succ]
        replace hO8 : Only wr gg w8 := only_trans (only_bel (g := gg) ((Below.refl wr.heap.size wr).drew)) hO8
        have kr8 := hoo6 KR.out hO8 (by have := HGG.out; omega)
        have kw8 := hoo6 KW.out hO8 (by omega)
        have rt8 := own_o6 RT.out hO8 (by omega); have ro8 := own_o6 RO.out hO8 (by omega); have rc8 := own_o6 RC.out hO8 (by omega)
        have o8 := only_trans HO.out hO8
        have hs8 := o8.size
        have zr0 := has_cell kr8 0 rfl; have zr1 := has_cell kr8 1 rfl; have zf0 := has_free kr8 0; have zf1 := has_free kr8 1
        refine wpAnyH_ready (rs := [4]) (by kernel_rfl) (by simp) ?_
        refine AllReadyH.cons rfl (fun K hK => ?_) AllReadyH.nil
        go_simp
        clear zr0 zr1 zf0 zf1
        refine hK.out _ _ trivial (fun _ => ?_)
        clear hK K
        try simp only [Act.put, List.setIfInBounds_toArray, List.set_cons_zero, List.set_cons_succ]
        refine any_take (i := 5) (some 3) (.slice A9 l.length c9) rfl rfl (by kernel_rfl) (by kernel_rfl) (by kernel_rfl) (fun _ _ _ h => h) rfl (fun W hSw => ?_) (trivial) ?_
        · (try dsimp only at hSw); go_simp <;> with_reducible rfl
        try simp only [Act.put, List.setIfInBounds_toArray, List.set_cons_zero, List.set_cons_succ]
        refine any_take (i := 6) (some 4) (.slice AF L.length cF) rfl rfl (by kernel_rfl) (by kernel_rfl) (by kernel_rfl) (fun _ _ _ h => h) rfl (fun W hSw => ?_) (trivial) ?_
        · (try dsimp only at hSw); go_simp <;> with_reducible rfl
        try simp only [Act.put, List.setIfInBounds_toArray, List.set_cons_zero, List.set_cons_succ]
        refine wpAnyH_done (by kernel_rfl) ?_ _
        go_wp2_with fail
        obtain ⟨g0, g1⟩ := res_cells kr8 (.slice A1 o.length m) (.slice A2 c.length m')
        have own2 : ∀ {base : Nat} {e : TypeId} {size n : Nat} {v : Value} {xs : List Value}, w8.ownsRow base e size v n xs → w.heap.size < base → ((w8.setCell ⟨w.heap.size, 0, none⟩ (.slice A1 o.length m)).setCell ⟨w.heap.size, 1, none⟩ (.slice A2 c.length m')).ownsRow base e size v n xs := fun h hb => own_other (own_other h (fun e => by have := (h.lt _ e).1; omega) 0 _) (fun e => by have := (h.lt _ e).1; omega) 1 _
        have hbel : Below w.heap.size w w8 := B2.out.trans (only_below o8 (by omega) (by have := HGG.out; omega))
        refine bodyPost_ret (v := .tuple #[.agg #[.slice A1 o.length m, .slice A2 c.length m'], .slice A9 l.length c9, .slice AF L.length cF]) (by simp [results, Try.results5, go_sem, g0, g1]) rfl ?_
        exact ⟨A1, A2, m, m', o, c, A9, c9, l, AF, cF, L, rfl, hlo, hlc, by omega, hL, sl_own6 (own2 ro8 (by omega)), sl_own6 (own2 rc8 (by omega)), (own_or6 (own2 rt8 (by omega))).tm, (own_or6 (own2 hown (by show w.heap.size < wr.heap.size; omega))).st, (hbel.setCell (Nat.le_refl _) _).setCell (Nat.le_refl _) _⟩
      · skip
        go_simp
        go_at_call 15
        refine (staysD_any wr.drew w.heap.size gg HC.out).mono ?_
        rintro e w8 ⟨vS, L, rfl, hL, hown, hC8, hO8⟩
        obtain ⟨AF, cF, rfl, _⟩ := or_own hown
        go_wp2_with fail
        refine hK.out _ _ trivial (fun _ => ?_)
        clear hK K
        try simp only [Act.put, List.setIfInBounds_toArray, List.set_cons_zero, List.set_cons_succ]
        replace hO8 : Only wr gg w8 := only_trans (only_bel (g := gg) ((Below.refl wr.heap.size wr).drew)) hO8
        have kr8 := hoo6 KR.out hO8 (by have := HGG.out; omega)
        have kw8 := hoo6 KW.out hO8 (by omega)
        have rt8 := own_o6 RT.out hO8 (by omega); have ro8 := own_o6 RO.out hO8 (by omega); have rc8 := own_o6 RC.out hO8 (by omega)
        have o8 := only_trans HO.out hO8
        have hs8 := o8.size
        refine wpAnyH_ready (rs := [0]) (by kernel_rfl) (by simp) ?_
        refine AllReadyH.cons rfl (fun K hK => ?_) AllReadyH.nil
        have zw0 := has_cell kw8 0 rfl; have zw1 := has_cell kw8 1 rfl
        go_simp
        clear zw0 zw1
        refine hK.out _ _ trivial (fun _ => ?_)
        clear hK K
        try simp only [Act.put, List.setIfInBounds_toArray, List.set_cons_zero, List.set_cons_succ]
        have zr0 := has_cell kr8 0 rfl; have zr1 := has_cell kr8 1 rfl; have zf0 := has_free kr8 0; have zf1 := has_free kr8 1
        refine wpAnyH_ready (rs := [4]) (by kernel_rfl) (by simp) ?_
        refine AllReadyH.cons rfl (fun K hK => ?_) AllReadyH.nil
        go_simp
        clear zr0 zr1 zf0 zf1
        refine hK.out _ _ trivial (fun _ => ?_)
        clear hK K
        try simp only [Act.put, List.setIfInBounds_toArray, List.set_cons_zero, List.set_cons_succ]
        refine any_take (i := 5) (some 3) (.slice A9 l.length c9) rfl rfl (by kernel_rfl) (by kernel_rfl) (by kernel_rfl) (fun _ _ _ h => h) rfl (fun W hSw => ?_) (trivial) ?_
        · (try dsimp only at hSw); go_simp <;> with_reducible rfl
        try simp only [Act.put, List.setIfInBounds_toArray, List.set_cons_zero, List.set_cons_succ]
        refine any_take (i := 6) (some 4) (.slice AF L.length cF) rfl rfl (by kernel_rfl) (by kernel_rfl) (by kernel_rfl) (fun _ _ _ h => h) rfl (fun W hSw => ?_) (trivial) ?_
        · (try dsimp only at hSw); go_simp <;> with_reducible rfl
        try simp only [Act.put, List.setIfInBounds_toArray, List.set_cons_zero, List.set_cons_succ]
        refine wpAnyH_done (by kernel_rfl) ?_ _
        go_wp2_with fail
        obtain ⟨g0, g1⟩ := res_cells kr8 (.slice A1 o.length m) (.slice A2 c.length m')
        have own2 : ∀ {base : Nat} {e : TypeId} {size n : Nat} {v : Value} {xs : List Value}, w8.ownsRow base e size v n xs → w.heap.size < base → ((w8.setCell ⟨w.heap.size, 0, none⟩ (.slice A1 o.length m)).setCell ⟨w.heap.size, 1, none⟩ (.slice A2 c.length m')).ownsRow base e size v n xs := fun h hb => own_other (own_other h (fun e => by have := (h.lt _ e).1; omega) 0 _) (fun e => by have := (h.lt _ e).1; omega) 1 _
        have hbel : Below w.heap.size w w8 := B2.out.trans (only_below o8 (by omega) (by have := HGG.out; omega))
        refine bodyPost_ret (v := .tuple #[.agg #[.slice A1 o.length m, .slice A2 c.length m'], .slice A9 l.length c9, .slice AF L.length cF]) (by simp [results, Try.results5, go_sem, g0, g1]) rfl ?_
        exact ⟨A1, A2, m, m', o, c, A9, c9, l, AF, cF, L, rfl, hlo, hlc, by omega, hL, sl_own6 (own2 ro8 (by omega)), sl_own6 (own2 rc8 (by omega)), (own_or6 (own2 rt8 (by omega))).tm, (own_or6 (own2 hown (by show w.heap.size < wr.heap.size; omega))).st, (hbel.setCell (Nat.le_refl _) _).setCell (Nat.le_refl _) _⟩
    · have hlt : (0 : Int) < ((k + 1 : Nat) : Int) := by omega
      go_wp2_with fail
      refine (anyTD_any wr w.heap.size gg HC.out).mono ?_
      rintro e w5 ⟨t, rfl, hC5, ho5⟩
      have hs5 := ho5.size
      have OW5 := Lib.hid (own_o6 RT.out ho5 (by omega)); have RO5 := Lib.hid (own_o6 RO.out ho5 (by omega)); have RC5 := Lib.hid (own_o6 RC.out ho5 (by omega))
      have KR5 := Lib.hid (hoo6 KR.out ho5 (by have := HGG.out; omega)); have KW5 := Lib.hid (hoo6 KW.out ho5 (by omega))
      have C5 := Lib.hid hC5; have O5 := Lib.hid (only_trans HO.out ho5)
      clear hC5 ho5 RT RO RC KR KW HC HO
      go_wp2_with (at_builtin; go_must (refine list_app rfl _ _ 27 rfl (w2.heap.size + 1) 35 i0 (.agg #[.int .i64 0, .int .i64 0, .int .i64 0, .int .i64 0, .int .i64 0, .int .i64 0, .int .i64 0, .int .i64 0]) 8 64 Try.underlying27 I0.out Z0.out Z1.out Z2.out rfl (by decide) _ _ _ rfl ((OW5.out.alloc _).alloc _) _ 1 1 (#[.int .i64 t.keep, .int .i64 t.free, .int .i64 t.step, .int .i64 t.rate, .int .i64 t.cap, .int .i64 t.longer, .int .i64 t.price, .int .i64 t.most] : Array Value).toList rfl (src6 _ _ (w5.heap.size + 1) (by first | rfl | simp) #[.int .i64 t.keep, .int .i64 t.free, .int .i64 t.step, .int .i64 t.rate, .int .i64 t.cap, .int .i64 t.longer, .int .i64 t.price, .int .i64 t.most] 8 rfl (by simp [Value.oneCell'])) (by unfold maxLen; omega) (by omega) (by simp; omega) ?_))
      intro A3 c3 w9 hown1 hgrow _
      have hbA : Below w5.heap.size w5 ((w5.alloc (.cells #[.int .i64 t.keep, .int .i64 t.free, .int .i64 t.step, .int .i64 t.rate, .int .i64 t.cap, .int .i64 t.longer, .int .i64 t.price, .int .i64 t.most] 35)).alloc (.cells #[.int .i64 t.keep, .int .i64 t.free, .int .i64 t.step, .int .i64 t.rate, .int .i64 t.cap, .int .i64 t.longer, .int .i64 t.price, .int .i64 t.most] 35)) := bthen (balloc _ _) (balloc _ _)
      have hne1 : ∀ q, (Value.slice A9 l.length c9).ownBlock = some q → w2.heap.size + 1 ≤ q := fun q e => (OW5.out.lt _ e).1
      have hneW : (Value.slice A9 l.length c9).ownBlock ≠ some w3.heap.size := tm_not OW5.out KW5.out
      have hneO := tm_own OW5.out RO5.out
      have hneC := tm_own OW5.out RC5.out
      have kr9 := (hgrow.block w.heap.size (has_lt (has_call KR5.out hbA)) (fun e => by have := hne1 _ e.symm; omega)).trans (has_call KR5.out hbA)
      have kw9 := (hgrow.block w3.heap.size (has_lt (has_call KW5.out hbA)) (fun e => hneW e.symm)).trans (has_call KW5.out hbA)
      have ro9 := (own_o6 RO5.out (only_bel (g := gg) hbA) (by omega)).kept hgrow hneO
      have rc9 := (own_o6 RC5.out (only_bel (g := gg) hbA) (by omega)).kept hgrow hneC
      have HA := Lib.hid (only_trans O5.out (only_bel (g := gg) hbA))
      have CA := Lib.hid (C5.out.bel hbA)
      have c9' : Cur w9 w.heap.size gg := CA.out.only fun q hq hq2 => hgrow.block q hq (fun e => by have := hne1 q e.symm; omega)
      have o9' : Only w2 gg w9 := ⟨hgrow.os.trans HA.out.os, hgrow.tape.trans HA.out.tape, hgrow.output.trans HA.out.output, Nat.le_trans HA.out.size hgrow.size, fun j hj hne => (hgrow.block j (Nat.lt_of_lt_of_le hj HA.out.size) (fun e => by have := hne1 j e.symm; omega)).trans (HA.out.block j hj hne)⟩
      have rt9 := tm_more (x := t) hown1
      have RT9 := Lib.hid rt9; have RO9 := Lib.hid ro9; have RC9 := Lib.hid rc9; have KR9 := Lib.hid kr9; have KW9 := Lib.hid kw9; have C9 := Lib.hid c9'; have O9 := Lib.hid o9'
      clear rt9 ro9 rc9 kr9 kw9 c9' o9' hown1 hgrow hne1 hneW hneO hneC hbA HA CA
      go_wp2_with fail
      go_roundw
      case rel => exact ⟨k, l ++ [t], by go_num, by simp; omega, RT9.out, RO9.out, RC9.out, KR9.out, KW9.out, C9.out, O9.out⟩
      case measure => simp [intOf]
end Go.Proofs.Ytfkhhefphbhppaa
