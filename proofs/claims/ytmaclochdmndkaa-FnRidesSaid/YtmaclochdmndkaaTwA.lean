/- Chapter 7: the drawing of a ride (gen_twa.py). -/
import Derived.Test.YtmaclochdmndkaaTvC
import Derived.Deep.RegionHeld3
import Derived.Deep.DeepMust
import Derived.WalkLawsBesides
import Derived.Deep.DeepCutAuto
import Derived.RegionTactic
import Derived.Deep.RegionWith
namespace Go.Proofs.Ytmaclochdmndkaa
open Go.RowKit
set_option linter.unusedVariables false

theorem AnyF.bel {W W' : World} {lo : Nat} {AL AS : Option Addr} {R : List Rw} {S : List Sp} (h : AnyF W lo AL R AS S) (hb : Below W.heap.size W W') : AnyF W' lo AL R AS S := by
  refine ⟨?_, fun x hx => oi_wider ((h.vals x hx).call hb) (Nat.le_refl _) hb.size, h.stops.below hb, h.lr, h.ls, h.lx⟩
  rcases h.rows with h1 | ⟨g, off, cs, h1, h2, h3, h4⟩
  · exact .inl h1
  · exact .inr ⟨g, off, cs, h1, h2, has_call h3 hb, h4⟩
theorem AnyF.draw {W W' : World} {lo z : Nat} {AL AS : Option Addr} {R : List Rw} {S : List Sp} (h : AnyF W lo AL R AS S) (ho : Only W z W') (hz : z < lo) : AnyF W' lo AL R AS S := by
  refine ⟨?_, fun x hx => oi_wider (oi_draw (h.vals x hx) ho hz) (Nat.le_refl _) ho.size, ?_, h.lr, h.ls, h.lx⟩
  · rcases h.rows with h1 | ⟨g, off, cs, h1, h2, h3, h4⟩
    · exact .inl h1
    · exact .inr ⟨g, off, cs, h1, h2, has_onl h3 ho (by omega), h4⟩
  · rcases h.stops with h1 | ⟨g, cur, h1, h2, h3, h4⟩
    · exact .inl h1
    · exact .inr ⟨g, cur, h1, h2, has_onl h3 ho (by omega), h4⟩
theorem or_far {w w' : World} {base g : Nat} {e T : TypeId} {A : Option Addr} {xs : List Value} {cs : Array Value} (h : OR w base e A xs) (hz : Has w g T cs) (hne : e ≠ T) (ho : Only w g w') : OR w' base e A xs := by
  rcases h with h | ⟨b, cur, rfl, hb, hh, hc⟩
  · exact .inl h
  · exact .inr ⟨b, cur, rfl, hb, has_onl hh ho (has_ne hh hz hne), hc⟩
theorem or_less {w : World} {base lo : Nat} {e : TypeId} {A : Option Addr} {xs : List Value} (h : OR w base e A xs) (hl : lo ≤ base) : OR w lo e A xs := by
  rcases h with h | ⟨b, cur, rfl, hb, hh, hc⟩
  · exact .inl h
  · exact .inr ⟨b, cur, rfl, by omega, hh, hc⟩
/-- a round and an order that are drawn for a law -/
def TwoD (w : World) (e : Ending) (w' : World) : Prop := ∃ (b r : Int) (AL AS AO : Option Addr) (cL cS cO lo : Nat) (R : List Rw) (S : List Sp) (O : List Int), e = .returned (.tuple #[.agg #[.int .i64 b, .int .i64 r, .slice AL R.length cL, .slice AS S.length cS], .slice AO O.length cO]) ∧
  AnyF w' lo AL R AS S ∧ OR w' lo 3 AO (intV O) ∧ O.length ≤ 6 ∧ O.length ≤ cO ∧ cO ≤ maxLen ∧ (Lit.int .i64 b).wf = true ∧ w.heap.size < lo ∧ Below w.heap.size w w'
set_option maxRecDepth 100000 in
set_option maxHeartbeats 4000000 in
theorem two_any (w : World) (A : Option Addr) (n c : Nat) (hn : n ≤ maxLen) (hS : BS w w.heap.size A n) : Calls Try.prog 15 #[.slice A n c] w (TwoD w) := by
  have HS := Lib.hid hS; clear hS
  go_enter Try.func15, Try.ntmps15
  go_wp2_with fail
  generalize hX : (w.alloc (.cells #[.int .i64 0, .int .i64 0, .slice none 0 0, .slice none 0 0] 27)) = w1
  have z1 : w1.heap.size = w.heap.size + 1 := by rw [← hX]; simp
  have k1 : Has w1 w.heap.size 27 #[.int .i64 0, .int .i64 0, .slice none 0 0, .slice none 0 0] := by rw [← hX]; exact has_new _ _ _
  have b1 : Below w.heap.size w w1 := by rw [← hX]; exact balloc _ _
  clear hX
  refine (new_any w1 w.heap.size A n c hn b1.size (HS.out.below b1)).mono ?_
  rintro e w2 ⟨rfl, c2, b2⟩
  have k2 := has_call k1 b2; have bb := bthen b1 b2
  have hlt := c2.lt; obtain ⟨hB, hg⟩ := hlt
  obtain ⟨g, hge⟩ : ∃ g, w1.heap.size = g := ⟨_, rfl⟩
  rw [hge] at c2 hg ⊢
  have hgw : w.heap.size < g := by omega
  have HC := Lib.hid c2; have HK := Lib.hid k2; have HB := Lib.hid bb; clear c2 k2 k1 bb b1 b2 hge hn z1
  go_wp2_with fail
  refine (anyD_any w2 w.heap.size g HC.out).mono ?_
  rintro e w3 ⟨b, r, AL, AS, cL, cS, R, S, rfl, hAF, hwf, c3, o3⟩
  have k3 := has_onl HK.out o3 (by omega)
  have bb := HB.out.trans (only_below o3 (by omega) (by omega))
  have hz3 := o3.size
  have hls := hAF.ls
  clear HC HK HB; have HC := Lib.hid c3; have HK := Lib.hid k3; have HB := Lib.hid bb; have HA := Lib.hid hAF; have HWF := Lib.hid hwf; clear c3 k3 bb hAF hwf o3
  go_wp2_with fail
  generalize hX : (w3.alloc (.cells #[.int .i64 b, .int .i64 r, .slice AL R.length cL, .slice AS S.length cS] 27)) = w4
  have b4 : Below w3.heap.size w3 w4 := by rw [← hX]; exact balloc _ _
  have k4 : Has w4 w3.heap.size 27 #[.int .i64 b, .int .i64 r, .slice AL R.length cL, .slice AS S.length cS] := by rw [← hX]; exact has_new _ _ _
  clear hX
  obtain ⟨Z, hZe⟩ : ∃ Z, w3.heap.size = Z := ⟨_, rfl⟩
  have hZg : g < Z := by omega
  have hZ : w.heap.size < Z := by omega
  have hZ2 : Z < w4.heap.size := by have := has_lt k4; omega
  have c4 := cur_bel HC.out b4; have k5 := has_call HK.out b4; have bb := bthen HB.out b4; have a4 := AnyF.bel HA.out b4
  have hz4 := b4.size
  have hZ3 : w2.heap.size < w4.heap.size := by have := has_lt k4; omega
  rw [hZe] at k4
  rw [hZe]
  clear HC HK HB HA b4; have HC := Lib.hid c4; have HK := Lib.hid k5; have HZ := Lib.hid k4; have HB := Lib.hid bb; have HA := Lib.hid a4; clear c4 k5 k4 bb a4 hZe
  have S0 : (fun W : World => W.cell? ⟨Z, 0, none⟩ = some (.int .i64 b) ∧ W.cell? ⟨Z, 1, none⟩ = some (.int .i64 r) ∧ W.cell? ⟨Z, 2, none⟩ = some (.slice AL R.length cL) ∧ W.cell? ⟨Z, 3, none⟩ = some (.slice AS S.length cS)) w4.drew := ⟨has_cell HZ.out 0 rfl, has_cell HZ.out 1 rfl, has_cell HZ.out 2 rfl, has_cell HZ.out 3 rfl⟩
  try go_wp2_with fail
  refine wp_region_held_drew (S := (fun W : World => W.cell? ⟨Z, 0, none⟩ = some (.int .i64 b) ∧ W.cell? ⟨Z, 1, none⟩ = some (.int .i64 r) ∧ W.cell? ⟨Z, 2, none⟩ = some (.slice AL R.length cL) ∧ W.cell? ⟨Z, 3, none⟩ = some (.slice AS S.length cS))) (by kernel_rfl) S0 (fun _ => ?_)
  obtain ⟨w5, hdw⟩ : ∃ q, q = w4.drew := ⟨_, rfl⟩
  rw [← hdw] at S0 ⊢
  have b5 : Below w4.heap.size w4 w5 := by rw [hdw]; exact (Below.refl _ _).drew
  clear hdw
  have c5 := cur_bel HC.out b5; have k5 := has_call HK.out b5; have k6 := has_call HZ.out b5; have bb := bthen HB.out b5; have a5 := AnyF.bel HA.out b5
  have hz5 := b5.size
  clear HC HK HB HA HZ b5; have HC := Lib.hid c5; have HK := Lib.hid k5; have HZ := Lib.hid k6; have HB := Lib.hid bb; have HA := Lib.hid a5; clear c5 k5 k6 bb a5
  refine any_take (i := 0) (some 10) (.agg #[.int .i64 b, .int .i64 r, .slice AL R.length cL, .slice AS S.length cS]) rfl rfl (by kernel_rfl) (by kernel_rfl) (by kernel_rfl) (fun _ _ _ h => h) rfl (fun W hSw => ?_) (S0) ?_
  · (try dsimp only at hSw); go_simp <;> with_reducible rfl
  try simp only [Act.put, List.setIfInBounds_toArray, List.set_cons_zero, List.set_cons_succ]
  refine any_take (i := 1) (some 11) (.pointer (some ⟨g, 0, none⟩)) rfl rfl (by kernel_rfl) (by kernel_rfl) (by kernel_rfl) (fun _ _ _ h => h) rfl (fun W hSw => ?_) (S0) ?_
  · (try dsimp only at hSw); go_simp <;> with_reducible rfl
  try simp only [Act.put, List.setIfInBounds_toArray, List.set_cons_zero, List.set_cons_succ]
  refine any_take (i := 2) (some 12) (.pointer (some ⟨Z, 3, none⟩)) rfl rfl (by kernel_rfl) (by kernel_rfl) (by kernel_rfl) (fun _ _ _ h => h) rfl (fun W hSw => ?_) (S0) ?_
  · (try dsimp only at hSw); go_simp <;> with_reducible rfl
  try simp only [Act.put, List.setIfInBounds_toArray, List.set_cons_zero, List.set_cons_succ]
  refine any_take (i := 3) (some 13) (.slice AS S.length cS) rfl rfl (by kernel_rfl) (by kernel_rfl) (by kernel_rfl) (fun _ _ _ h => h) rfl (fun W hSw => ?_) (S0) ?_
  · (try dsimp only at hSw); go_simp <;> with_reducible rfl
  try simp only [Act.put, List.setIfInBounds_toArray, List.set_cons_zero, List.set_cons_succ]
  refine any_take (i := 4) (some 14) (.int .i64 (S.length : Int)) rfl rfl (by kernel_rfl) (by kernel_rfl) (by kernel_rfl) (fun _ _ _ h => h) rfl (fun W hSw => ?_) (S0) ?_
  · (try dsimp only at hSw); go_simp <;> with_reducible rfl
  try simp only [Act.put, List.setIfInBounds_toArray, List.set_cons_zero, List.set_cons_succ]
  have zf0 := has_free HK.out 0; have zf1 := has_free HK.out 1; have zf2 := has_free HK.out 2; have zf3 := has_free HK.out 3; have zq0 := has_cell HK.out 0 rfl; have zq1 := has_cell HK.out 1 rfl; have zq2 := has_cell HK.out 2 rfl; have zq3 := has_cell HK.out 3 rfl
  have hzl := has_lt HK.out
  refine wpAnyH_ready (rs := [5]) (by kernel_rfl) (by simp) ?_
  refine AllReadyH.cons rfl (fun K hK => ?_) AllReadyH.nil
  go_simp
  go_at_call 27
  refine (orderD_any w5 w.heap.size g S.length (by omega) HC.out).mono ?_
  rintro e w7 ⟨AO, cO, O, rfl, hO6, hOc, hcO, hown, c7, o7⟩
  have k7 := has_onl HK.out o7 (by omega); have k8 := has_onl HZ.out o7 (by omega); have bb := HB.out.trans (only_below o7 (by omega) (by omega)); have a7 := AnyF.draw HA.out o7 (by omega)
  have hz7 := o7.size
  have hor := or_own' hown
  clear HC HK HB HA HZ o7 zf0 zf1 zf2 zf3 zq0 zq1 zq2 zq3 hzl hown; have HC := Lib.hid c7; have HK := Lib.hid k7; have HZ := Lib.hid k8; have HB := Lib.hid bb; have HA := Lib.hid a7; have HOR := Lib.hid hor; clear c7 k7 k8 bb a7 hor
  have zf0 := has_free HK.out 0; have zf1 := has_free HK.out 1; have zf2 := has_free HK.out 2; have zf3 := has_free HK.out 3; have zq0 := has_cell HK.out 0 rfl; have zq1 := has_cell HK.out 1 rfl; have zq2 := has_cell HK.out 2 rfl; have zq3 := has_cell HK.out 3 rfl
  have hzl := has_lt HK.out
  go_wp2_with fail
  refine hK.out _ _ (show (fun W : World => W.cell? ⟨Z, 0, none⟩ = some (.int .i64 b) ∧ W.cell? ⟨Z, 1, none⟩ = some (.int .i64 r) ∧ W.cell? ⟨Z, 2, none⟩ = some (.slice AL R.length cL) ∧ W.cell? ⟨Z, 3, none⟩ = some (.slice AS S.length cS)) _ from ⟨has_cell HZ.out 0 rfl, has_cell HZ.out 1 rfl, has_cell HZ.out 2 rfl, has_cell HZ.out 3 rfl⟩) (fun _ => ?_)
  clear hK K
  try simp only [Act.put, List.setIfInBounds_toArray, List.set_cons_zero, List.set_cons_succ]
  refine wpAnyH_ready (rs := [6]) (by kernel_rfl) (by simp) ?_
  refine AllReadyH.cons rfl (fun K hK => ?_) AllReadyH.nil
  go_wp2_with fail
  generalize hX : World.setCell _ _ _ = w8
  have ho : Only w7 w.heap.size w8 := by rw [← hX]; with_reducible exact only_set4 _ _ _ _ _ _
  have knew : Has w8 w.heap.size 27 #[.int .i64 b, .int .i64 r, .slice AL R.length cL, .slice AS S.length cS] := by rw [← hX]; simpa using has_set (has_set (has_set (has_set HK.out 0 (.int .i64 b)) 1 (.int .i64 r)) 2 (.slice AL R.length cL)) 3 (.slice AS S.length cS)
  clear hX
  have c8 := cur_set HC.out ho (by omega) (by omega); have k8 := has_onl HZ.out ho (by omega); have bb := HB.out.trans (only_below ho (by omega) (by omega)); have a8 := AnyF.set HA.out HK.out ho
  have o8 := or_far HOR.out HK.out (by decide) ho
  have hz8 := ho.size
  clear HC HK HB HA HZ ho zf0 zf1 zf2 zf3 zq0 zq1 zq2 zq3 hzl HOR; have HC := Lib.hid c8; have HK := Lib.hid knew; have HZ := Lib.hid k8; have HB := Lib.hid bb; have HA := Lib.hid a8; clear c8 knew k8 bb a8
  have HOR := Lib.hid o8; clear o8
  have zf0 := has_free HK.out 0; have zf1 := has_free HK.out 1; have zf2 := has_free HK.out 2; have zf3 := has_free HK.out 3; have zq0 := has_cell HK.out 0 rfl; have zq1 := has_cell HK.out 1 rfl; have zq2 := has_cell HK.out 2 rfl; have zq3 := has_cell HK.out 3 rfl
  have hzl := has_lt HK.out
  refine hK.out _ _ (show (fun W : World => W.cell? ⟨Z, 0, none⟩ = some (.int .i64 b) ∧ W.cell? ⟨Z, 1, none⟩ = some (.int .i64 r) ∧ W.cell? ⟨Z, 2, none⟩ = some (.slice AL R.length cL) ∧ W.cell? ⟨Z, 3, none⟩ = some (.slice AS S.length cS)) _ from ⟨has_cell HZ.out 0 rfl, has_cell HZ.out 1 rfl, has_cell HZ.out 2 rfl, has_cell HZ.out 3 rfl⟩) (fun _ => ?_)
  clear hK K
  try simp only [Act.put, List.setIfInBounds_toArray, List.set_cons_zero, List.set_cons_succ]
  have S7 : (fun W : World => W.cell? ⟨Z, 0, none⟩ = some (.int .i64 b) ∧ W.cell? ⟨Z, 1, none⟩ = some (.int .i64 r) ∧ W.cell? ⟨Z, 2, none⟩ = some (.slice AL R.length cL) ∧ W.cell? ⟨Z, 3, none⟩ = some (.slice AS S.length cS)) w8 := ⟨has_cell HZ.out 0 rfl, has_cell HZ.out 1 rfl, has_cell HZ.out 2 rfl, has_cell HZ.out 3 rfl⟩
  refine any_take (i := 7) (some 3) (.slice AO O.length cO) rfl rfl (by kernel_rfl) (by kernel_rfl) (by kernel_rfl) (fun _ _ _ h => h) rfl (fun W hSw => ?_) (S7) ?_
  · (try dsimp only at hSw); go_simp <;> with_reducible rfl
  try simp only [Act.put, List.setIfInBounds_toArray, List.set_cons_zero, List.set_cons_succ]
  refine wpAnyH_done (by kernel_rfl) ?_ _
  go_wp2_with fail
  refine bodyPost_ret (v := .tuple #[.agg #[.int .i64 b, .int .i64 r, .slice AL R.length cL, .slice AS S.length cS], .slice AO O.length cO]) (by simp [results, Try.results15, go_sem, zq0, zq1, zq2, zq3]) rfl ?_
  exact ⟨b, r, AL, AS, AO, cL, cS, cO, w2.heap.size + 1, R, S, O, rfl, HA.out, or_less HOR.out (by omega), hO6, hOc, hcO, HWF.out, by omega, HB.out⟩
set_option maxRecDepth 100000 in
set_option maxHeartbeats 4000000 in
theorem drawRide_any (w : World) (A : Option Addr) (n c : Nat) (hn : n ≤ maxLen) (hS : BS w w.heap.size A n) : Calls Try.prog 5 #[.slice A n c] w (TwoD w) := by
  have HS := Lib.hid hS; clear hS
  go_enter Try.func5, Try.ntmps5
  go_wp2_with fail
  generalize hX : (w.alloc (.cells #[.int .i64 0, .int .i64 0, .slice none 0 0, .slice none 0 0] 27)) = w1
  have z1 : w1.heap.size = w.heap.size + 1 := by rw [← hX]; simp
  have k1 : Has w1 w.heap.size 27 #[.int .i64 0, .int .i64 0, .slice none 0 0, .slice none 0 0] := by rw [← hX]; exact has_new _ _ _
  have b1 : Below w.heap.size w w1 := by rw [← hX]; exact balloc _ _
  clear hX
  refine (two_any w1 A n c hn ((HS.out.below b1).below' b1.size)).mono ?_
  rintro e w2 ⟨b, r, AL, AS, AO, cL, cS, cO, lo, R, S, O, rfl, hA, hO, hO6, hOc, hcO, hwf, hlo, b2⟩
  have k2 := has_call k1 b2; have bb := bthen b1 b2
  have hz2 := b2.size
  have HK := Lib.hid k2; have HA := Lib.hid hA; have HO := Lib.hid hO; have HWF := Lib.hid hwf; clear k1 k2 b1 b2 hA hO hwf
  go_upto_region 2 with fail
  generalize hX : (w2.alloc (.cells #[.int .i64 b, .int .i64 r, .slice AL R.length cL, .slice AS S.length cS] 27)) = w3
  have b3 : Below w2.heap.size w2 w3 := by rw [← hX]; exact balloc _ _
  have k3 : Has w3 w2.heap.size 27 #[.int .i64 b, .int .i64 r, .slice AL R.length cL, .slice AS S.length cS] := by rw [← hX]; exact has_new _ _ _
  clear hX
  have k4 := has_call HK.out b3
  have a3 := AnyF.bel HA.out b3; have o3 := HO.out.below b3; have bb3 := bthen bb b3
  have hz3 := b3.size
  have zt0 := has_cell k3 0 rfl; have zt1 := has_cell k3 1 rfl; have zt2 := has_cell k3 2 rfl; have zt3 := has_cell k3 3 rfl
  have zf0 := has_free k4 0; have zf1 := has_free k4 1; have zf2 := has_free k4 2; have zf3 := has_free k4 3; have zq0 := has_cell k4 0 rfl; have zq1 := has_cell k4 1 rfl; have zq2 := has_cell k4 2 rfl; have zq3 := has_cell k4 3 rfl
  have hzl := has_lt k4
  clear HK HA HO; have HK := Lib.hid k4; have HA := Lib.hid a3; have HO := Lib.hid o3; have HB := Lib.hid bb3; clear k3 k4 a3 o3 bb bb3 b3
  go_wp2_with fail
  refine bodyPost_ret (v := .tuple #[.agg #[.int .i64 b, .int .i64 r, .slice AL R.length cL, .slice AS S.length cS], .slice AO O.length cO]) (by simp [results, Try.results5, go_sem, zq0, zq1, zq2, zq3, zf0, zf1, zf2, zf3, hzl]) rfl ?_
  generalize hX : World.setCell _ _ _ = w8
  have ho : Only w3 w.heap.size w8 := by rw [← hX]; with_reducible exact only_set4 _ _ _ _ _ _
  clear hX
  exact ⟨b, r, AL, AS, AO, cL, cS, cO, lo, R, S, O, rfl, AnyF.set HA.out HK.out ho, or_far HO.out HK.out (by decide) ho, hO6, hOc, hcO, HWF.out, by omega, HB.out.trans (only_below ho (by omega) (by omega))⟩
end Go.Proofs.Ytmaclochdmndkaa
