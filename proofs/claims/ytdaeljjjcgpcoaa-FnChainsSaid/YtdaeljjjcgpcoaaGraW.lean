/- Chapter 5: the walk of the model's ChainOf (gen_grw.py). -/
import Derived.Test.YtdaeljjjcgpcoaaGraV
namespace Go.Proofs.Ytdaeljjjcgpcoaa
open Go.RowKit
set_option linter.unusedVariables false
def ChainAns (R : Option (List Int)) (w : World) (e : Ending) (w' : World) : Prop := ∃ A' c', e = .returned (.tuple #[.slice A' (R.getD []).length c', .bool R.isSome]) ∧ OR w' w.heap.size 3 A' (intV (R.getD [])) ∧ Below w.heap.size w w'
theorem chain_no {R : Option (List Int)} (h : R = none) {w w' : World} (hb : Below w.heap.size w w') : ChainAns R w (.returned (.tuple #[.slice none 0 0, .bool false])) w' := by
  subst h; exact ⟨none, 0, rfl, .inl rfl, hb⟩
theorem chain_bad {l : List Gr} {owner who p t : Int} (h : goodB l owner who p t = false) : chainA l owner who p t = none := by unfold chainA; rw [h]; rfl
theorem perB_iff {x : Int} : perB x = true ↔ 1 ≤ x ∧ x ≤ 40 := inR_iff
theorem ch_hit {l : List Gr} {p t who x : Int} {h k : Nat} {g : Gr} (hg : l[k]? = some g) (hc : chP l p t who h x g = true) (hno : ∀ j y, j < k → l[j]? = some y → chP l p t who h x y = false) : chainL l p t who (h + 1) x = (k : Int) :: chainL l p t who h g.to := by
  obtain ⟨hk, rfl⟩ := List.getElem?_eq_some_iff.1 hg
  have : l.findIdx? (chP l p t who h x) = some k := by
    rw [List.findIdx?_eq_some_iff_getElem]
    exact ⟨hk, hc, fun j hj => by have := hno j _ hj (List.getElem?_eq_getElem (by omega)); simp [this]⟩
  simp only [chainL, this, hg, Option.getD_some]
theorem ch_miss {l : List Gr} {p t who x : Int} {h : Nat} (hno : ∀ j y, j < l.length → l[j]? = some y → chP l p t who h x y = false) : chainL l p t who (h + 1) x = chainL l p t who h x := by
  have : l.findIdx? (chP l p t who h x) = none := by
    rw [List.findIdx?_eq_none_iff]
    intro y hy
    obtain ⟨j, hj, rfl⟩ := List.getElem_of_mem hy
    exact hno j _ hj (List.getElem?_eq_getElem hj)
  simp only [chainL, this]
theorem own_ne {w : World} {base : Nat} {e t : TypeId} {size n b : Nat} {v : Value} {xs : List Value} {cs : Array Value} (h : w.ownsRow base e size v n xs) (hb : v.ownBlock = some b) (hk : Has w b t cs) (hne : e ≠ t) : False := by
  obtain ⟨_, cur, hc⟩ := own_has h b hb
  have := hc.symm.trans hk
  injection this with this; injection this with _ this _
  exact hne this
theorem no_next {P : Gr → Bool} {l : List Gr} {k : Nat} {g : Gr} (hg : l[k]? = some g) (h : ∀ j y, j < k → l[j]? = some y → P y = false) (hq : P g = false) : ∀ j y, j < k + 1 → l[j]? = some y → P y = false := fun j y hj hy => by
  by_cases e : j = k
  · subst e; rw [hg] at hy; injection hy with hy; subst hy; exact hq
  · exact h j y (by omega) hy

set_option maxRecDepth 100000 in
set_option maxHeartbeats 2000000 in
theorem chainS_no (w : World) (B : Nat) (A : Option Addr) (c : Nat) (l : List Gr) (owner who p t : Int) (hl : l.length ≤ 1048576) (hB : B ≤ w.heap.size) (hS : grL w B A l) (hg : goodB l owner who p t = false) : Calls Try.prog 7 #[.slice A l.length c, .int .i64 owner, .int .i64 who, .int .i64 p, .int .i64 t] w (ChainAns (chainA l owner who p t) w) := by
  have HG := Lib.hid hg; clear hg
  go_enter Try.func7, Try.ntmps7
  go_wp2_with (go_at_call 22; refine (goodS_any w B A c l owner who p t hl hB hS).mono ?_; rintro e w1 ⟨rfl, hb1⟩; rw [HG.out])
  go_ret2
  exact chain_no (chain_bad HG.out) hb1

set_option maxRecDepth 100000 in
set_option maxHeartbeats 16000000 in
theorem chainS_yes (w : World) (B : Nat) (A : Option Addr) (c : Nat) (l : List Gr) (owner who p t : Int) (hl : l.length ≤ 1048576) (hB : B ≤ w.heap.size) (hS : grL w B A l) (hgood : goodB l owner who p t = true) : Calls Try.prog 7 #[.slice A l.length c, .int .i64 owner, .int .i64 who, .int .i64 p, .int .i64 t] w (ChainAns (chainA l owner who p t) w) := by
  have hg2 := hgood
  simp only [goodB, Bool.and_eq_true] at hg2
  obtain ⟨⟨⟨⟨hq, ho⟩, hh⟩, hp⟩, ht⟩ := hg2
  have hl30 := grantsB_len hq
  have hop := perB_iff.1 ho
  have hhp := perB_iff.1 hh
  clear hq ho hh hp ht
  obtain ⟨i0, hi0, hz0, hz1, hz2⟩ := info_parts intInfo
  have I0 := Lib.hid hi0; have Z0 := Lib.hid hz0; have Z1 := Lib.hid hz1; have Z2 := Lib.hid hz2; clear hi0 hz0 hz1 hz2
  have HS := Lib.hid hS; have HG := Lib.hid hgood; clear hS hgood
  go_enter Try.func7, Try.ntmps7
  go_wp2_with (first | (go_at_call 22; refine (goodS_any w B A c l owner who p t hl hB HS.out).mono ?_; rintro e w1 ⟨rfl, hb1⟩; rw [HG.out]) | (go_at_call 23; refine (reach_any w1 B A c l p t 0 who hl hhp (by omega) (by have := hb1.size; omega) (HS.out.later hB hb1)).mono ?_))
  rintro e w2 ⟨b, cap, gs, rfl, hgl, hown, hlev, hb2⟩
  have HRD := Lib.hid (reads_of (w' := w2) hgl hown hlev)
  have HB2 := Lib.hid (bthen hb1 hb2); have hs2 := HB2.out.size
  clear hgl hown hlev hb2 hb1
  cases hsb : shortB l p t 0 who owner with
  | none =>
    have HSB := Lib.hid (show shortI (shortB l p t 0 who owner) = -1 by rw [hsb]; rfl)
    have HR := Lib.hid (show chainA l owner who p t = none by unfold chainA; rw [HG.out, if_pos rfl, hsb]; rfl)
    clear hsb
    go_wp2_with (go_at_call 24; refine (short_any w2 b cap gs l p t 0 who owner HRD.out hop).mono ?_; rintro e w3 ⟨rfl, hw⟩; rw [hw, HSB.out]; clear hw)
    go_ret2
    exact chain_no HR.out HB2.out
  | some n =>
    have HSB := Lib.hid (show shortI (shortB l p t 0 who owner) = (n : Int) by rw [hsb]; rfl)
    have HR := Lib.hid (show chainA l owner who p t = some (chainL l p t who n owner) by unfold chainA; rw [HG.out, if_pos rfl, hsb]; rfl)
    have hn7 := ((find_range _ 7 n).1 hsb).1
    have hn0 : ¬ ((n : Int) < 0) := by omega
    clear hsb
    go_wp2_with (go_at_call 24; refine (short_any w2 b cap gs l p t 0 who owner HRD.out hop).mono ?_; rintro e w3 ⟨rfl, hw⟩; rw [hw, HSB.out]; clear hw)
    go_loopg [14, 15, 16] n (fun g v x5 i wr => ∃ (x : Int) (don : List Int), x5 = .int .i64 x ∧ i = .int .i64 (g : Int) ∧ chainL l p t who n owner = don ++ chainL l p t who g x ∧ don.length + g ≤ 6 ∧ wr.ownsRow w2.heap.size 3 1 v don.length (intV don) ∧ Below w2.heap.size w2 wr)
    case atStart => exact ⟨owner, [], rfl, rfl, rfl, by simp; omega, owns_new w2 _ _ _ (Nat.le_refl _), balloc _ _⟩
    case round =>
      obtain ⟨wo, rfl⟩ : ∃ wo : World, wo = wr := ⟨_, rfl⟩
      obtain ⟨x, don, rfl, rfl, hch, hdl, hown, hb⟩ := hrel
      have hso := hb.size
      have HCH := Lib.hid hch; have HOWN0 := Lib.hid hown; have HBO := Lib.hid hb; clear hch hown hb
      obtain ⟨A1, c1, rfl, hor⟩ := or_own HOWN0.out
      have HOR := Lib.hid hor; clear hor
      rcases gk with _ | hh
      · have hz : ¬ ((0 : Int) < ((0 : Nat) : Int)) := by simp
        go_wp2
        go_ret2
        have hc := HCH.out
        simp only [chainL, List.append_nil] at hc
        rw [HR.out, hc]
        exact ⟨A1, c1, rfl, HOR.out.more hs2, HB2.out.trans (HBO.out.mono hs2)⟩
      · have hz : (0 : Int) < ((hh + 1 : Nat) : Int) := by omega
        have ez : ((hh + 1 : Nat) : Int) = (hh : Int) + 1 := by simp
        rw [ez] at hz ⊢
        clear ez HOR
        go_wp2_with fail
        go_loopw [14, 15, 17] (fun v y i wr => ∃ k : Nat, k ≤ l.length ∧ v = .slice A1 don.length c1 ∧ y = .int .i64 x ∧ i = .int .i64 k ∧ (∀ j y, j < k → l[j]? = some y → chP l p t who hh x y = false) ∧ wr.ownsRow w2.heap.size 3 1 (.slice A1 don.length c1) don.length (intV don) ∧ Below w2.heap.size w2 wr) (fun _ _ i _ => l.length - (intOf i).toNat)
        case atStart => exact ⟨0, Nat.zero_le _, rfl, rfl, rfl, (fun j y hj => absurd hj (by omega)), HOWN0.out, HBO.out⟩
        case round =>
          clear HOWN0 HBO
          obtain ⟨k, hk, rfl, rfl, rfl, hno, hown, hbw⟩ := hrel
          have hsr := hbw.size
          have HNO := Lib.hid hno; have HOWN := Lib.hid hown; have HBW := Lib.hid hbw; clear hno hown hbw
          by_cases hlt : k < l.length
          · obtain ⟨bg, off, ⟨x0, x1, x2, x3, x4, x5, x6⟩, rfl, hbB, hx, hc0, hc1, hc2, hc3, hc4, hc5, hc6⟩ := (HS.out.below ((HB2.out.trans (HBW.out.mono hs2)).mono hB)).at_ hlt
            have HX := Lib.hid hx; clear hx
            dsimp only at hc0 hc1 hc2 hc3 hc4 hc5 hc6
            by_cases hf : x0 = x
            · have e0 : (x0 == x) = true := by simp [hf]
              have HF := Lib.hid hf
              cases ha : appB p t ⟨x0, x1, x2, x3, x4, x5, x6⟩
              · have HA := Lib.hid ha
                have HSK := Lib.hid (show chP l p t who hh x ⟨x0, x1, x2, x3, x4, x5, x6⟩ = false by simp [chP, ha]); clear ha hf
                go_wp2_with fail
                generalize hW : (wr.alloc (.cells #[.int .i64 x0, .int .i64 x1, .int .i64 x2, .int .i64 x3, .int .i64 x4, .int .i64 x5, .bool x6] 35)) = wq
                have hbq : Below wr.heap.size wr wq := by rw [← hW]; exact balloc _ _
                have kb : Has wq wr.heap.size 35 #[.int .i64 x0, .int .i64 x1, .int .i64 x2, .int .i64 x3, .int .i64 x4, .int .i64 x5, .bool x6] := by rw [← hW]; exact has_new _ _ _
                clear hW
                have hszq := hbq.size; have hltb := has_lt kb
                have HBQ := Lib.hid (HBW.out.trans (hbq.mono hsr)); have KB := Lib.hid kb; have HOQ := Lib.hid (own_kept HOWN.out hbq); have HRQ := HRD.out.call HBQ.out
                have s0 := has_cell kb 0 rfl; have s1 := has_cell kb 1 rfl; have s2 := has_cell kb 2 rfl; have s3 := has_cell kb 3 rfl; have s4 := has_cell kb 4 rfl; have s5 := has_cell kb 5 rfl; have s6 := has_cell kb 6 rfl
                clear kb hbq HRQ
                have S0 : (fun W : World => (W.cell? ⟨wr.heap.size, 0, none⟩ = some (.int .i64 x0) ∧ W.cell? ⟨wr.heap.size, 1, none⟩ = some (.int .i64 x1) ∧ W.cell? ⟨wr.heap.size, 2, none⟩ = some (.int .i64 x2) ∧ W.cell? ⟨wr.heap.size, 3, none⟩ = some (.int .i64 x3) ∧ W.cell? ⟨wr.heap.size, 4, none⟩ = some (.int .i64 x4) ∧ W.cell? ⟨wr.heap.size, 5, none⟩ = some (.int .i64 x5) ∧ W.cell? ⟨wr.heap.size, 6, none⟩ = some (.bool x6)) ∧ Below wq.heap.size wq W) wq.drew := ⟨⟨s0, s1, s2, s3, s4, s5, s6⟩, (Below.refl _ _).drew⟩
                clear s0 s1 s2 s3 s4 s5 s6
                refine wp_region_held_drew (S := (fun W : World => (W.cell? ⟨wr.heap.size, 0, none⟩ = some (.int .i64 x0) ∧ W.cell? ⟨wr.heap.size, 1, none⟩ = some (.int .i64 x1) ∧ W.cell? ⟨wr.heap.size, 2, none⟩ = some (.int .i64 x2) ∧ W.cell? ⟨wr.heap.size, 3, none⟩ = some (.int .i64 x3) ∧ W.cell? ⟨wr.heap.size, 4, none⟩ = some (.int .i64 x4) ∧ W.cell? ⟨wr.heap.size, 5, none⟩ = some (.int .i64 x5) ∧ W.cell? ⟨wr.heap.size, 6, none⟩ = some (.bool x6)) ∧ Below wq.heap.size wq W)) (by kernel_rfl) S0 (fun _ => ?_)
                refine any_take (i := 0) (some 53) (.pointer (some ⟨wr.heap.size, 0, none⟩)) rfl rfl (by kernel_rfl) (by kernel_rfl) (by kernel_rfl) (fun _ _ _ h => h) rfl (fun W hSw => ?_) (S0) ?_
                · (try dsimp only at hSw); go_simp <;> with_reducible rfl
                try simp only [Act.put, List.setIfInBounds_toArray, List.set_cons_zero, List.set_cons_succ]
                refine any_take (i := 1) (some 54) (.int .i64 x0) rfl rfl (by kernel_rfl) (by kernel_rfl) (by kernel_rfl) (fun _ _ _ h => h) rfl (fun W hSw => ?_) (S0) ?_
                · (try dsimp only at hSw); go_simp <;> with_reducible rfl
                try simp only [Act.put, List.setIfInBounds_toArray, List.set_cons_zero, List.set_cons_succ]
                refine any_take (i := 2) (some 55) (.int .i64 x) rfl rfl (by kernel_rfl) (by kernel_rfl) (by kernel_rfl) (fun _ _ _ h => h) rfl (fun W hSw => ?_) (S0) ?_
                · (try dsimp only at hSw); go_simp <;> with_reducible rfl
                try simp only [Act.put, List.setIfInBounds_toArray, List.set_cons_zero, List.set_cons_succ]
                refine any_take (i := 3) (some 56) (.bool true) rfl rfl (by kernel_rfl) (by kernel_rfl) (by kernel_rfl) (fun _ _ _ h => h) rfl (fun W hSw => ?_) (S0) ?_
                · (try dsimp only at hSw); go_simp <;> with_reducible rfl
                try simp only [Act.put, List.setIfInBounds_toArray, List.set_cons_zero, List.set_cons_succ]
                refine any_take (i := 4) (some 57) (.bool true) rfl rfl (by kernel_rfl) (by kernel_rfl) (by kernel_rfl) (fun _ _ _ h => h) rfl (fun W hSw => ?_) (S0) ?_
                · (try dsimp only at hSw); go_simp <;> with_reducible rfl
                try simp only [Act.put, List.setIfInBounds_toArray, List.set_cons_zero, List.set_cons_succ]
                refine any_take (i := 5) (some 58) (.agg #[.int .i64 x0, .int .i64 x1, .int .i64 x2, .int .i64 x3, .int .i64 x4, .int .i64 x5, .bool x6]) rfl rfl (by kernel_rfl) (by kernel_rfl) (by kernel_rfl) (fun _ _ _ h => h) rfl (fun W hSw => ?_) (S0) ?_
                · (try dsimp only at hSw); go_simp <;> with_reducible rfl
                try simp only [Act.put, List.setIfInBounds_toArray, List.set_cons_zero, List.set_cons_succ]
                refine any_take (i := 6) (some 59) (.int .i64 p) rfl rfl (by kernel_rfl) (by kernel_rfl) (by kernel_rfl) (fun _ _ _ h => h) rfl (fun W hSw => ?_) (S0) ?_
                · (try dsimp only at hSw); go_simp <;> with_reducible rfl
                try simp only [Act.put, List.setIfInBounds_toArray, List.set_cons_zero, List.set_cons_succ]
                refine any_take (i := 7) (some 60) (.int .i64 t) rfl rfl (by kernel_rfl) (by kernel_rfl) (by kernel_rfl) (fun _ _ _ h => h) rfl (fun W hSw => ?_) (S0) ?_
                · (try dsimp only at hSw); go_simp <;> with_reducible rfl
                try simp only [Act.put, List.setIfInBounds_toArray, List.set_cons_zero, List.set_cons_succ]
                refine wpAnyH_ready (rs := [8]) (by kernel_rfl) (by simp) ?_
                refine AllReadyH.cons rfl (fun K hK => ?_) AllReadyH.nil
                go_simp
                go_at_call 25
                refine (appS_any _ x0 x1 x2 x3 x4 x5 x6 p t).mono ?_
                rintro e w9 ⟨rfl, hb8⟩
                rw [HA.out]
                have hb9 : Below wq.heap.size wq w9 := ((Below.refl wq.heap.size wq).drew).trans hb8
                clear hb8
                have S9 : (fun W : World => (W.cell? ⟨wr.heap.size, 0, none⟩ = some (.int .i64 x0) ∧ W.cell? ⟨wr.heap.size, 1, none⟩ = some (.int .i64 x1) ∧ W.cell? ⟨wr.heap.size, 2, none⟩ = some (.int .i64 x2) ∧ W.cell? ⟨wr.heap.size, 3, none⟩ = some (.int .i64 x3) ∧ W.cell? ⟨wr.heap.size, 4, none⟩ = some (.int .i64 x4) ∧ W.cell? ⟨wr.heap.size, 5, none⟩ = some (.int .i64 x5) ∧ W.cell? ⟨wr.heap.size, 6, none⟩ = some (.bool x6)) ∧ Below wq.heap.size wq W) w9 := ⟨⟨(bold hb9 _ _ hltb).trans S0.1.1, (bold hb9 _ _ hltb).trans S0.1.2.1, (bold hb9 _ _ hltb).trans S0.1.2.2.1, (bold hb9 _ _ hltb).trans S0.1.2.2.2.1, (bold hb9 _ _ hltb).trans S0.1.2.2.2.2.1, (bold hb9 _ _ hltb).trans S0.1.2.2.2.2.2.1, (bold hb9 _ _ hltb).trans S0.1.2.2.2.2.2.2⟩, hb9⟩
                go_wp2_with fail
                refine hK.out _ _ S9 (fun _ => ?_)
                clear hK K
                try simp only [Act.put, List.setIfInBounds_toArray, List.set_cons_zero, List.set_cons_succ]
                refine any_take (i := 9) (some 62) (.bool false) rfl rfl (by kernel_rfl) (by kernel_rfl) (by kernel_rfl) (fun _ _ _ h => h) rfl (fun W hSw => ?_) (S9) ?_
                · (try dsimp only at hSw); go_simp <;> with_reducible rfl
                try simp only [Act.put, List.setIfInBounds_toArray, List.set_cons_zero, List.set_cons_succ]
                refine any_take (i := 10) (some 63) (.bool false) rfl rfl (by kernel_rfl) (by kernel_rfl) (by kernel_rfl) (fun _ _ _ h => h) rfl (fun W hSw => ?_) (S9) ?_
                · (try dsimp only at hSw); go_simp <;> with_reducible rfl
                try simp only [Act.put, List.setIfInBounds_toArray, List.set_cons_zero, List.set_cons_succ]
                refine any_skip (i := 11) (some 64) rfl rfl (by kernel_rfl) (by kernel_rfl) (by kernel_rfl) (fun _ _ _ h => h) rfl (S9) ?_
                try simp only [Act.put, List.setIfInBounds_toArray, List.set_cons_zero, List.set_cons_succ]
                refine any_skip (i := 12) (some 65) rfl rfl (by kernel_rfl) (by kernel_rfl) (by kernel_rfl) (fun _ _ _ h => h) rfl (S9) ?_
                try simp only [Act.put, List.setIfInBounds_toArray, List.set_cons_zero, List.set_cons_succ]
                refine any_skip (i := 13) (some 66) rfl rfl (by kernel_rfl) (by kernel_rfl) (by kernel_rfl) (fun _ _ _ h => h) rfl (S9) ?_
                try simp only [Act.put, List.setIfInBounds_toArray, List.set_cons_zero, List.set_cons_succ]
                refine any_skip (i := 14) (some 67) rfl rfl (by kernel_rfl) (by kernel_rfl) (by kernel_rfl) (fun _ _ _ h => h) rfl (S9) ?_
                try simp only [Act.put, List.setIfInBounds_toArray, List.set_cons_zero, List.set_cons_succ]
                refine any_skip (i := 15) (some 68) rfl rfl (by kernel_rfl) (by kernel_rfl) (by kernel_rfl) (fun _ _ _ h => h) rfl (S9) ?_
                try simp only [Act.put, List.setIfInBounds_toArray, List.set_cons_zero, List.set_cons_succ]
                refine any_take (i := 16) (some 69) (.bool false) rfl rfl (by kernel_rfl) (by kernel_rfl) (by kernel_rfl) (fun _ _ _ h => h) rfl (fun W hSw => ?_) (S9) ?_
                · (try dsimp only at hSw); go_simp <;> with_reducible rfl
                try simp only [Act.put, List.setIfInBounds_toArray, List.set_cons_zero, List.set_cons_succ]
                refine any_take (i := 17) (some 70) (.bool false) rfl rfl (by kernel_rfl) (by kernel_rfl) (by kernel_rfl) (fun _ _ _ h => h) rfl (fun W hSw => ?_) (S9) ?_
                · (try dsimp only at hSw); go_simp <;> with_reducible rfl
                try simp only [Act.put, List.setIfInBounds_toArray, List.set_cons_zero, List.set_cons_succ]
                refine any_skip (i := 18) (some 71) rfl rfl (by kernel_rfl) (by kernel_rfl) (by kernel_rfl) (fun _ _ _ h => h) rfl (S9) ?_
                try simp only [Act.put, List.setIfInBounds_toArray, List.set_cons_zero, List.set_cons_succ]
                refine any_skip (i := 19) (some 72) rfl rfl (by kernel_rfl) (by kernel_rfl) (by kernel_rfl) (fun _ _ _ h => h) rfl (S9) ?_
                try simp only [Act.put, List.setIfInBounds_toArray, List.set_cons_zero, List.set_cons_succ]
                refine any_skip (i := 20) (some 73) rfl rfl (by kernel_rfl) (by kernel_rfl) (by kernel_rfl) (fun _ _ _ h => h) rfl (S9) ?_
                try simp only [Act.put, List.setIfInBounds_toArray, List.set_cons_zero, List.set_cons_succ]
                refine any_skip (i := 21) (some 74) rfl rfl (by kernel_rfl) (by kernel_rfl) (by kernel_rfl) (fun _ _ _ h => h) rfl (S9) ?_
                try simp only [Act.put, List.setIfInBounds_toArray, List.set_cons_zero, List.set_cons_succ]
                refine any_skip (i := 22) (some 75) rfl rfl (by kernel_rfl) (by kernel_rfl) (by kernel_rfl) (fun _ _ _ h => h) rfl (S9) ?_
                try simp only [Act.put, List.setIfInBounds_toArray, List.set_cons_zero, List.set_cons_succ]
                refine any_skip (i := 23) (some 76) rfl rfl (by kernel_rfl) (by kernel_rfl) (by kernel_rfl) (fun _ _ _ h => h) rfl (S9) ?_
                try simp only [Act.put, List.setIfInBounds_toArray, List.set_cons_zero, List.set_cons_succ]
                refine any_skip (i := 24) (some 77) rfl rfl (by kernel_rfl) (by kernel_rfl) (by kernel_rfl) (fun _ _ _ h => h) rfl (S9) ?_
                try simp only [Act.put, List.setIfInBounds_toArray, List.set_cons_zero, List.set_cons_succ]
                refine any_skip (i := 25) (some 78) rfl rfl (by kernel_rfl) (by kernel_rfl) (by kernel_rfl) (fun _ _ _ h => h) rfl (S9) ?_
                try simp only [Act.put, List.setIfInBounds_toArray, List.set_cons_zero, List.set_cons_succ]
                refine any_skip (i := 26) (some 79) rfl rfl (by kernel_rfl) (by kernel_rfl) (by kernel_rfl) (fun _ _ _ h => h) rfl (S9) ?_
                try simp only [Act.put, List.setIfInBounds_toArray, List.set_cons_zero, List.set_cons_succ]
                refine any_take (i := 27) (some 80) (.bool false) rfl rfl (by kernel_rfl) (by kernel_rfl) (by kernel_rfl) (fun _ _ _ h => h) rfl (fun W hSw => ?_) (S9) ?_
                · (try dsimp only at hSw); go_simp <;> with_reducible rfl
                try simp only [Act.put, List.setIfInBounds_toArray, List.set_cons_zero, List.set_cons_succ]
                refine wpAnyH_done (by kernel_rfl) ?_ _
                clear S0 S9
                have HB9 := Lib.hid (HBQ.out.trans (hb9.mono (by omega))); have HO9 := Lib.hid (own_kept HOQ.out hb9); have hs9 := HB9.out.size
                clear hb9 HBQ KB HOQ HOWN HBW
                go_wp2
                go_roundw
                case rel => exact ⟨k + 1, by omega, rfl, rfl, by go_num, no_next HX.out HNO.out HSK.out, HO9.out, HB9.out⟩
                case measure => simp [intOf]; omega
              · have hgr := grantB_facts (appB_ok ha)
                dsimp only at hgr
                obtain ⟨k0, rfl⟩ := Int.eq_ofNat_of_zero_le (show 0 ≤ x0 by omega)
                obtain ⟨k1, rfl⟩ := Int.eq_ofNat_of_zero_le (show 0 ≤ x1 by omega)
                have hk1 : k1 < 41 := by omega
                clear hgr
                have HA := Lib.hid ha; clear ha
                by_cases hd : (hh : Int) ≤ x3
                · cases hr : rhB l p t 0 who hh (k1 : Int)
                  · have HR := Lib.hid hr
                    have HSK := Lib.hid (show chP l p t who hh x ⟨(k0 : Int), (k1 : Int), x2, x3, x4, x5, x6⟩ = false by simp [chP, hr]); clear hr hf
                    go_wp2_with fail
                    generalize hW : (wr.alloc (.cells #[.int .i64 (k0 : Int), .int .i64 (k1 : Int), .int .i64 x2, .int .i64 x3, .int .i64 x4, .int .i64 x5, .bool x6] 35)) = wq
                    have hbq : Below wr.heap.size wr wq := by rw [← hW]; exact balloc _ _
                    have kb : Has wq wr.heap.size 35 #[.int .i64 (k0 : Int), .int .i64 (k1 : Int), .int .i64 x2, .int .i64 x3, .int .i64 x4, .int .i64 x5, .bool x6] := by rw [← hW]; exact has_new _ _ _
                    clear hW
                    have hszq := hbq.size; have hltb := has_lt kb
                    have HBQ := Lib.hid (HBW.out.trans (hbq.mono hsr)); have KB := Lib.hid kb; have HOQ := Lib.hid (own_kept HOWN.out hbq); have HRQ := HRD.out.call HBQ.out
                    have s0 := has_cell kb 0 rfl; have s1 := has_cell kb 1 rfl; have s2 := has_cell kb 2 rfl; have s3 := has_cell kb 3 rfl; have s4 := has_cell kb 4 rfl; have s5 := has_cell kb 5 rfl; have s6 := has_cell kb 6 rfl
                    obtain ⟨gj, _, s7, hltv, hltj, h8⟩ := HRQ.out hh (by omega)
                    have s8 := h8 k1 hk1
                    rw [HR.out] at s8
                    have hdd : decide ((hh : Int) ≤ x3) = true := decide_eq_true hd
                    clear h8
                    clear kb hbq HRQ
                    have S0 : (fun W : World => (W.cell? ⟨wr.heap.size, 0, none⟩ = some (.int .i64 (k0 : Int)) ∧ W.cell? ⟨wr.heap.size, 1, none⟩ = some (.int .i64 (k1 : Int)) ∧ W.cell? ⟨wr.heap.size, 2, none⟩ = some (.int .i64 x2) ∧ W.cell? ⟨wr.heap.size, 3, none⟩ = some (.int .i64 x3) ∧ W.cell? ⟨wr.heap.size, 4, none⟩ = some (.int .i64 x4) ∧ W.cell? ⟨wr.heap.size, 5, none⟩ = some (.int .i64 x5) ∧ W.cell? ⟨wr.heap.size, 6, none⟩ = some (.bool x6) ∧ W.cell? ⟨b, hh, none⟩ = some (.slice (some ⟨gj, 0, none⟩) 41 41) ∧ W.cell? ⟨gj, k1, none⟩ = some (.bool false)) ∧ Below wq.heap.size wq W) wq.drew := ⟨⟨s0, s1, s2, s3, s4, s5, s6, s7, s8⟩, (Below.refl _ _).drew⟩
                    clear s0 s1 s2 s3 s4 s5 s6 s7 s8
                    have sA : IntKind.i64.wrap ((hh : Int) + 1 - 1) = (hh : Int) := by rw [IntWalk.i64_in _ (by omega)]; omega
                    have sB : IntKind.i64.wrap (hh : Int) = (hh : Int) := IntWalk.i64_in _ (by omega)
                    have sD : (0 : Int) ≤ (hh : Int) := (by omega); have sE : hh < 7 := (by omega); have sF : (hh : Int) < 7 := (by omega); have sG : (k1 : Int) < 41 := (by omega); have sH : (0 : Int) ≤ (k1 : Int) := (by omega)
                    go_region_held3 (fun W : World => (W.cell? ⟨wr.heap.size, 0, none⟩ = some (.int .i64 (k0 : Int)) ∧ W.cell? ⟨wr.heap.size, 1, none⟩ = some (.int .i64 (k1 : Int)) ∧ W.cell? ⟨wr.heap.size, 2, none⟩ = some (.int .i64 x2) ∧ W.cell? ⟨wr.heap.size, 3, none⟩ = some (.int .i64 x3) ∧ W.cell? ⟨wr.heap.size, 4, none⟩ = some (.int .i64 x4) ∧ W.cell? ⟨wr.heap.size, 5, none⟩ = some (.int .i64 x5) ∧ W.cell? ⟨wr.heap.size, 6, none⟩ = some (.bool x6) ∧ W.cell? ⟨b, hh, none⟩ = some (.slice (some ⟨gj, 0, none⟩) 41 41) ∧ W.cell? ⟨gj, k1, none⟩ = some (.bool false)) ∧ Below wq.heap.size wq W) (first | assumption) (first | (go_at_call 25; go_must (refine (appS_any _ (k0 : Int) (k1 : Int) x2 x3 x4 x5 x6 p t).mono ?_); rintro e w9 ⟨rfl, hb8⟩; rw [HA.out]; have hb9 : Below wq.heap.size wq w9 := ((Below.refl wq.heap.size wq).drew).trans hb8; clear hb8; have S9 : (fun W : World => (W.cell? ⟨wr.heap.size, 0, none⟩ = some (.int .i64 (k0 : Int)) ∧ W.cell? ⟨wr.heap.size, 1, none⟩ = some (.int .i64 (k1 : Int)) ∧ W.cell? ⟨wr.heap.size, 2, none⟩ = some (.int .i64 x2) ∧ W.cell? ⟨wr.heap.size, 3, none⟩ = some (.int .i64 x3) ∧ W.cell? ⟨wr.heap.size, 4, none⟩ = some (.int .i64 x4) ∧ W.cell? ⟨wr.heap.size, 5, none⟩ = some (.int .i64 x5) ∧ W.cell? ⟨wr.heap.size, 6, none⟩ = some (.bool x6) ∧ W.cell? ⟨b, hh, none⟩ = some (.slice (some ⟨gj, 0, none⟩) 41 41) ∧ W.cell? ⟨gj, k1, none⟩ = some (.bool false)) ∧ Below wq.heap.size wq W) w9 := ⟨⟨(bold hb9 _ _ hltb).trans S0.1.1, (bold hb9 _ _ hltb).trans S0.1.2.1, (bold hb9 _ _ hltb).trans S0.1.2.2.1, (bold hb9 _ _ hltb).trans S0.1.2.2.2.1, (bold hb9 _ _ hltb).trans S0.1.2.2.2.2.1, (bold hb9 _ _ hltb).trans S0.1.2.2.2.2.2.1, (bold hb9 _ _ hltb).trans S0.1.2.2.2.2.2.2.1, (bold hb9 _ _ hltv).trans S0.1.2.2.2.2.2.2.2.1, (bold hb9 _ _ hltj).trans S0.1.2.2.2.2.2.2.2.2⟩, hb9⟩))
                    clear S0 S9 sA sB sD sE sF sG sH hdd
                    have HB9 := Lib.hid (HBQ.out.trans (hb9.mono (by omega))); have HO9 := Lib.hid (own_kept HOQ.out hb9); have hs9 := HB9.out.size
                    clear hb9 HBQ KB HOQ HOWN HBW
                    go_wp2
                    go_roundw
                    case rel => exact ⟨k + 1, by omega, rfl, rfl, by go_num, no_next HX.out HNO.out HSK.out, HO9.out, HB9.out⟩
                    case measure => simp [intOf]; omega
                  · have HR := Lib.hid hr
                    have HCP := Lib.hid (show chP l p t who hh x ⟨(k0 : Int), (k1 : Int), x2, x3, x4, x5, x6⟩ = true by unfold chP; rw [HA.out, hr]; simp [hf, hd]); clear hr hf
                    go_wp2_with fail
                    generalize hW : (wr.alloc (.cells #[.int .i64 (k0 : Int), .int .i64 (k1 : Int), .int .i64 x2, .int .i64 x3, .int .i64 x4, .int .i64 x5, .bool x6] 35)) = wq
                    have hbq : Below wr.heap.size wr wq := by rw [← hW]; exact balloc _ _
                    have kb : Has wq wr.heap.size 35 #[.int .i64 (k0 : Int), .int .i64 (k1 : Int), .int .i64 x2, .int .i64 x3, .int .i64 x4, .int .i64 x5, .bool x6] := by rw [← hW]; exact has_new _ _ _
                    clear hW
                    have hszq := hbq.size; have hltb := has_lt kb
                    have HBQ := Lib.hid (HBW.out.trans (hbq.mono hsr)); have KB := Lib.hid kb; have HOQ := Lib.hid (own_kept HOWN.out hbq); have HRQ := HRD.out.call HBQ.out
                    have s0 := has_cell kb 0 rfl; have s1 := has_cell kb 1 rfl; have s2 := has_cell kb 2 rfl; have s3 := has_cell kb 3 rfl; have s4 := has_cell kb 4 rfl; have s5 := has_cell kb 5 rfl; have s6 := has_cell kb 6 rfl
                    obtain ⟨gj, _, s7, hltv, hltj, h8⟩ := HRQ.out hh (by omega)
                    have s8 := h8 k1 hk1
                    rw [HR.out] at s8
                    have hdd : decide ((hh : Int) ≤ x3) = true := decide_eq_true hd
                    clear h8
                    clear kb hbq HRQ
                    have S0 : (fun W : World => (W.cell? ⟨wr.heap.size, 0, none⟩ = some (.int .i64 (k0 : Int)) ∧ W.cell? ⟨wr.heap.size, 1, none⟩ = some (.int .i64 (k1 : Int)) ∧ W.cell? ⟨wr.heap.size, 2, none⟩ = some (.int .i64 x2) ∧ W.cell? ⟨wr.heap.size, 3, none⟩ = some (.int .i64 x3) ∧ W.cell? ⟨wr.heap.size, 4, none⟩ = some (.int .i64 x4) ∧ W.cell? ⟨wr.heap.size, 5, none⟩ = some (.int .i64 x5) ∧ W.cell? ⟨wr.heap.size, 6, none⟩ = some (.bool x6) ∧ W.cell? ⟨b, hh, none⟩ = some (.slice (some ⟨gj, 0, none⟩) 41 41) ∧ W.cell? ⟨gj, k1, none⟩ = some (.bool true)) ∧ Below wq.heap.size wq W) wq.drew := ⟨⟨s0, s1, s2, s3, s4, s5, s6, s7, s8⟩, (Below.refl _ _).drew⟩
                    clear s0 s1 s2 s3 s4 s5 s6 s7 s8
                    have sA : IntKind.i64.wrap ((hh : Int) + 1 - 1) = (hh : Int) := by rw [IntWalk.i64_in _ (by omega)]; omega
                    have sB : IntKind.i64.wrap (hh : Int) = (hh : Int) := IntWalk.i64_in _ (by omega)
                    have sD : (0 : Int) ≤ (hh : Int) := (by omega); have sE : hh < 7 := (by omega); have sF : (hh : Int) < 7 := (by omega); have sG : (k1 : Int) < 41 := (by omega); have sH : (0 : Int) ≤ (k1 : Int) := (by omega)
                    go_region_held3 (fun W : World => (W.cell? ⟨wr.heap.size, 0, none⟩ = some (.int .i64 (k0 : Int)) ∧ W.cell? ⟨wr.heap.size, 1, none⟩ = some (.int .i64 (k1 : Int)) ∧ W.cell? ⟨wr.heap.size, 2, none⟩ = some (.int .i64 x2) ∧ W.cell? ⟨wr.heap.size, 3, none⟩ = some (.int .i64 x3) ∧ W.cell? ⟨wr.heap.size, 4, none⟩ = some (.int .i64 x4) ∧ W.cell? ⟨wr.heap.size, 5, none⟩ = some (.int .i64 x5) ∧ W.cell? ⟨wr.heap.size, 6, none⟩ = some (.bool x6) ∧ W.cell? ⟨b, hh, none⟩ = some (.slice (some ⟨gj, 0, none⟩) 41 41) ∧ W.cell? ⟨gj, k1, none⟩ = some (.bool true)) ∧ Below wq.heap.size wq W) (first | assumption) (first | (go_at_call 25; go_must (refine (appS_any _ (k0 : Int) (k1 : Int) x2 x3 x4 x5 x6 p t).mono ?_); rintro e w9 ⟨rfl, hb8⟩; rw [HA.out]; have hb9 : Below wq.heap.size wq w9 := ((Below.refl wq.heap.size wq).drew).trans hb8; clear hb8; have S9 : (fun W : World => (W.cell? ⟨wr.heap.size, 0, none⟩ = some (.int .i64 (k0 : Int)) ∧ W.cell? ⟨wr.heap.size, 1, none⟩ = some (.int .i64 (k1 : Int)) ∧ W.cell? ⟨wr.heap.size, 2, none⟩ = some (.int .i64 x2) ∧ W.cell? ⟨wr.heap.size, 3, none⟩ = some (.int .i64 x3) ∧ W.cell? ⟨wr.heap.size, 4, none⟩ = some (.int .i64 x4) ∧ W.cell? ⟨wr.heap.size, 5, none⟩ = some (.int .i64 x5) ∧ W.cell? ⟨wr.heap.size, 6, none⟩ = some (.bool x6) ∧ W.cell? ⟨b, hh, none⟩ = some (.slice (some ⟨gj, 0, none⟩) 41 41) ∧ W.cell? ⟨gj, k1, none⟩ = some (.bool true)) ∧ Below wq.heap.size wq W) w9 := ⟨⟨(bold hb9 _ _ hltb).trans S0.1.1, (bold hb9 _ _ hltb).trans S0.1.2.1, (bold hb9 _ _ hltb).trans S0.1.2.2.1, (bold hb9 _ _ hltb).trans S0.1.2.2.2.1, (bold hb9 _ _ hltb).trans S0.1.2.2.2.2.1, (bold hb9 _ _ hltb).trans S0.1.2.2.2.2.2.1, (bold hb9 _ _ hltb).trans S0.1.2.2.2.2.2.2.1, (bold hb9 _ _ hltv).trans S0.1.2.2.2.2.2.2.2.1, (bold hb9 _ _ hltj).trans S0.1.2.2.2.2.2.2.2.2⟩, hb9⟩))
                    clear S0 S9 sA sB sD sE sF sG sH hdd
                    have HB9 := Lib.hid (HBQ.out.trans (hb9.mono (by omega))); have HO9 := Lib.hid (own_kept HOQ.out hb9); have hs9 := HB9.out.size
                    have kb9 := has_call KB.out hb9; have u1 := has_cell kb9 1 rfl; have hu9 := has_lt kb9
                    clear hb9 HBQ KB HOQ HOWN HBW
                    have KB9 := Lib.hid kb9; clear kb9
                    go_wp2_with (at_builtin; go_must (refine list_app rfl _ _ 27 rfl w2.heap.size 3 i0 (.int .i64 0) 1 8 Try.underlying27 I0.out Z0.out Z1.out Z2.out rfl (by decide) _ _ _ rfl (HO9.out.alloc _) _ 1 1 (#[.int .i64 (k : Int)] : Array Value).toList rfl (src_box _ _ #[.int .i64 (k : Int)] 1 rfl (by simp [Value.oneCell'])) (by unfold maxLen; omega) (by omega) (by simp; omega) ?_); intro A8 c8 w8 hown8 hgrow8 _; have hb8 : Below w2.heap.size w2 w8 := (HB9.out.alloc hs9 _).grown hgrow8 (by simp; omega) (fun k hk => ((HO9.out.lt k hk).1)); have HOWN8 := Lib.hid hown8; have u1' := (has_cell (has_grown (has_alloc KB9.out _) hgrow8 (fun e => own_ne HO9.out e.symm KB9.out (by decide))) 1 rfl); have HB8 := Lib.hid hb8; clear hown8 hgrow8 hb8 u1)
                    go_roundg hh
                    case measure => omega
                    case rel => exact ⟨_, don ++ [(k : Int)], rfl, rfl, by rw [HCH.out, ch_hit HX.out HCP.out HNO.out]; simp, by simp; omega, by simpa [intV] using HOWN8.out, HB8.out⟩
                · have HSK := Lib.hid (show chP l p t who hh x ⟨(k0 : Int), (k1 : Int), x2, x3, x4, x5, x6⟩ = false by simp [chP]; intros; omega); clear hf
                  go_wp2_with fail
                  generalize hW : (wr.alloc (.cells #[.int .i64 (k0 : Int), .int .i64 (k1 : Int), .int .i64 x2, .int .i64 x3, .int .i64 x4, .int .i64 x5, .bool x6] 35)) = wq
                  have hbq : Below wr.heap.size wr wq := by rw [← hW]; exact balloc _ _
                  have kb : Has wq wr.heap.size 35 #[.int .i64 (k0 : Int), .int .i64 (k1 : Int), .int .i64 x2, .int .i64 x3, .int .i64 x4, .int .i64 x5, .bool x6] := by rw [← hW]; exact has_new _ _ _
                  clear hW
                  have hszq := hbq.size; have hltb := has_lt kb
                  have HBQ := Lib.hid (HBW.out.trans (hbq.mono hsr)); have KB := Lib.hid kb; have HOQ := Lib.hid (own_kept HOWN.out hbq); have HRQ := HRD.out.call HBQ.out
                  have s0 := has_cell kb 0 rfl; have s1 := has_cell kb 1 rfl; have s2 := has_cell kb 2 rfl; have s3 := has_cell kb 3 rfl; have s4 := has_cell kb 4 rfl; have s5 := has_cell kb 5 rfl; have s6 := has_cell kb 6 rfl
                  clear kb hbq HRQ
                  have S0 : (fun W : World => (W.cell? ⟨wr.heap.size, 0, none⟩ = some (.int .i64 (k0 : Int)) ∧ W.cell? ⟨wr.heap.size, 1, none⟩ = some (.int .i64 (k1 : Int)) ∧ W.cell? ⟨wr.heap.size, 2, none⟩ = some (.int .i64 x2) ∧ W.cell? ⟨wr.heap.size, 3, none⟩ = some (.int .i64 x3) ∧ W.cell? ⟨wr.heap.size, 4, none⟩ = some (.int .i64 x4) ∧ W.cell? ⟨wr.heap.size, 5, none⟩ = some (.int .i64 x5) ∧ W.cell? ⟨wr.heap.size, 6, none⟩ = some (.bool x6)) ∧ Below wq.heap.size wq W) wq.drew := ⟨⟨s0, s1, s2, s3, s4, s5, s6⟩, (Below.refl _ _).drew⟩
                  clear s0 s1 s2 s3 s4 s5 s6
                  refine wp_region_held_drew (S := (fun W : World => (W.cell? ⟨wr.heap.size, 0, none⟩ = some (.int .i64 (k0 : Int)) ∧ W.cell? ⟨wr.heap.size, 1, none⟩ = some (.int .i64 (k1 : Int)) ∧ W.cell? ⟨wr.heap.size, 2, none⟩ = some (.int .i64 x2) ∧ W.cell? ⟨wr.heap.size, 3, none⟩ = some (.int .i64 x3) ∧ W.cell? ⟨wr.heap.size, 4, none⟩ = some (.int .i64 x4) ∧ W.cell? ⟨wr.heap.size, 5, none⟩ = some (.int .i64 x5) ∧ W.cell? ⟨wr.heap.size, 6, none⟩ = some (.bool x6)) ∧ Below wq.heap.size wq W)) (by kernel_rfl) S0 (fun _ => ?_)
                  refine any_take (i := 0) (some 53) (.pointer (some ⟨wr.heap.size, 0, none⟩)) rfl rfl (by kernel_rfl) (by kernel_rfl) (by kernel_rfl) (fun _ _ _ h => h) rfl (fun W hSw => ?_) (S0) ?_
                  · (try dsimp only at hSw); go_simp <;> with_reducible rfl
                  try simp only [Act.put, List.setIfInBounds_toArray, List.set_cons_zero, List.set_cons_succ]
                  refine any_take (i := 1) (some 54) (.int .i64 (k0 : Int)) rfl rfl (by kernel_rfl) (by kernel_rfl) (by kernel_rfl) (fun _ _ _ h => h) rfl (fun W hSw => ?_) (S0) ?_
                  · (try dsimp only at hSw); go_simp <;> with_reducible rfl
                  try simp only [Act.put, List.setIfInBounds_toArray, List.set_cons_zero, List.set_cons_succ]
                  refine any_take (i := 2) (some 55) (.int .i64 x) rfl rfl (by kernel_rfl) (by kernel_rfl) (by kernel_rfl) (fun _ _ _ h => h) rfl (fun W hSw => ?_) (S0) ?_
                  · (try dsimp only at hSw); go_simp <;> with_reducible rfl
                  try simp only [Act.put, List.setIfInBounds_toArray, List.set_cons_zero, List.set_cons_succ]
                  refine any_take (i := 3) (some 56) (.bool true) rfl rfl (by kernel_rfl) (by kernel_rfl) (by kernel_rfl) (fun _ _ _ h => h) rfl (fun W hSw => ?_) (S0) ?_
                  · (try dsimp only at hSw); go_simp <;> with_reducible rfl
                  try simp only [Act.put, List.setIfInBounds_toArray, List.set_cons_zero, List.set_cons_succ]
                  refine any_take (i := 4) (some 57) (.bool true) rfl rfl (by kernel_rfl) (by kernel_rfl) (by kernel_rfl) (fun _ _ _ h => h) rfl (fun W hSw => ?_) (S0) ?_
                  · (try dsimp only at hSw); go_simp <;> with_reducible rfl
                  try simp only [Act.put, List.setIfInBounds_toArray, List.set_cons_zero, List.set_cons_succ]
                  refine any_take (i := 5) (some 58) (.agg #[.int .i64 (k0 : Int), .int .i64 (k1 : Int), .int .i64 x2, .int .i64 x3, .int .i64 x4, .int .i64 x5, .bool x6]) rfl rfl (by kernel_rfl) (by kernel_rfl) (by kernel_rfl) (fun _ _ _ h => h) rfl (fun W hSw => ?_) (S0) ?_
                  · (try dsimp only at hSw); go_simp <;> with_reducible rfl
                  try simp only [Act.put, List.setIfInBounds_toArray, List.set_cons_zero, List.set_cons_succ]
                  refine any_take (i := 6) (some 59) (.int .i64 p) rfl rfl (by kernel_rfl) (by kernel_rfl) (by kernel_rfl) (fun _ _ _ h => h) rfl (fun W hSw => ?_) (S0) ?_
                  · (try dsimp only at hSw); go_simp <;> with_reducible rfl
                  try simp only [Act.put, List.setIfInBounds_toArray, List.set_cons_zero, List.set_cons_succ]
                  refine any_take (i := 7) (some 60) (.int .i64 t) rfl rfl (by kernel_rfl) (by kernel_rfl) (by kernel_rfl) (fun _ _ _ h => h) rfl (fun W hSw => ?_) (S0) ?_
                  · (try dsimp only at hSw); go_simp <;> with_reducible rfl
                  try simp only [Act.put, List.setIfInBounds_toArray, List.set_cons_zero, List.set_cons_succ]
                  refine wpAnyH_ready (rs := [8]) (by kernel_rfl) (by simp) ?_
                  refine AllReadyH.cons rfl (fun K hK => ?_) AllReadyH.nil
                  go_simp
                  go_at_call 25
                  refine (appS_any _ (k0 : Int) (k1 : Int) x2 x3 x4 x5 x6 p t).mono ?_
                  rintro e w9 ⟨rfl, hb8⟩
                  rw [HA.out]
                  have hb9 : Below wq.heap.size wq w9 := ((Below.refl wq.heap.size wq).drew).trans hb8
                  clear hb8
                  have S9 : (fun W : World => (W.cell? ⟨wr.heap.size, 0, none⟩ = some (.int .i64 (k0 : Int)) ∧ W.cell? ⟨wr.heap.size, 1, none⟩ = some (.int .i64 (k1 : Int)) ∧ W.cell? ⟨wr.heap.size, 2, none⟩ = some (.int .i64 x2) ∧ W.cell? ⟨wr.heap.size, 3, none⟩ = some (.int .i64 x3) ∧ W.cell? ⟨wr.heap.size, 4, none⟩ = some (.int .i64 x4) ∧ W.cell? ⟨wr.heap.size, 5, none⟩ = some (.int .i64 x5) ∧ W.cell? ⟨wr.heap.size, 6, none⟩ = some (.bool x6)) ∧ Below wq.heap.size wq W) w9 := ⟨⟨(bold hb9 _ _ hltb).trans S0.1.1, (bold hb9 _ _ hltb).trans S0.1.2.1, (bold hb9 _ _ hltb).trans S0.1.2.2.1, (bold hb9 _ _ hltb).trans S0.1.2.2.2.1, (bold hb9 _ _ hltb).trans S0.1.2.2.2.2.1, (bold hb9 _ _ hltb).trans S0.1.2.2.2.2.2.1, (bold hb9 _ _ hltb).trans S0.1.2.2.2.2.2.2⟩, hb9⟩
                  go_wp2_with fail
                  refine hK.out _ _ S9 (fun _ => ?_)
                  clear hK K
                  try simp only [Act.put, List.setIfInBounds_toArray, List.set_cons_zero, List.set_cons_succ]
                  have sA : IntKind.i64.wrap ((hh : Int) + 1 - 1) = (hh : Int) := by rw [IntWalk.i64_in _ (by omega)]; omega
                  have sB : IntKind.i64.wrap (hh : Int) = (hh : Int) := IntWalk.i64_in _ (by omega)
                  have sD : decide ((hh : Int) ≤ x3) = false := decide_eq_false (by omega)
                  refine any_take (i := 9) (some 62) (.bool true) rfl rfl (by kernel_rfl) (by kernel_rfl) (by kernel_rfl) (fun _ _ _ h => h) rfl (fun W hSw => ?_) (S9) ?_
                  · (try dsimp only at hSw); go_simp <;> with_reducible rfl
                  try simp only [Act.put, List.setIfInBounds_toArray, List.set_cons_zero, List.set_cons_succ]
                  refine any_take (i := 10) (some 63) (.bool true) rfl rfl (by kernel_rfl) (by kernel_rfl) (by kernel_rfl) (fun _ _ _ h => h) rfl (fun W hSw => ?_) (S9) ?_
                  · (try dsimp only at hSw); go_simp <;> with_reducible rfl
                  try simp only [Act.put, List.setIfInBounds_toArray, List.set_cons_zero, List.set_cons_succ]
                  refine any_take (i := 11) (some 64) (.pointer (some ⟨wr.heap.size, 3, none⟩)) rfl rfl (by kernel_rfl) (by kernel_rfl) (by kernel_rfl) (fun _ _ _ h => h) rfl (fun W hSw => ?_) (S9) ?_
                  · (try dsimp only at hSw); go_simp <;> with_reducible rfl
                  try simp only [Act.put, List.setIfInBounds_toArray, List.set_cons_zero, List.set_cons_succ]
                  refine any_take (i := 12) (some 65) (.int .i64 x3) rfl rfl (by kernel_rfl) (by kernel_rfl) (by kernel_rfl) (fun _ _ _ h => h) rfl (fun W hSw => ?_) (S9) ?_
                  · (try dsimp only at hSw); go_simp <;> with_reducible rfl
                  try simp only [Act.put, List.setIfInBounds_toArray, List.set_cons_zero, List.set_cons_succ]
                  refine any_take (i := 13) (some 66) (.int .i64 ((hh : Int) + 1)) rfl rfl (by kernel_rfl) (by kernel_rfl) (by kernel_rfl) (fun _ _ _ h => h) rfl (fun W hSw => ?_) (S9) ?_
                  · (try dsimp only at hSw); go_simp <;> with_reducible rfl
                  try simp only [Act.put, List.setIfInBounds_toArray, List.set_cons_zero, List.set_cons_succ]
                  refine any_take (i := 14) (some 67) (.int .i64 (hh : Int)) rfl rfl (by kernel_rfl) (by kernel_rfl) (by kernel_rfl) (fun _ _ _ h => h) rfl (fun W hSw => ?_) (S9) ?_
                  · (try dsimp only at hSw); go_simp <;> with_reducible rfl
                  try simp only [Act.put, List.setIfInBounds_toArray, List.set_cons_zero, List.set_cons_succ]
                  refine any_take (i := 15) (some 68) (.bool false) rfl rfl (by kernel_rfl) (by kernel_rfl) (by kernel_rfl) (fun _ _ _ h => h) rfl (fun W hSw => ?_) (S9) ?_
                  · (try dsimp only at hSw); go_simp <;> with_reducible rfl
                  try simp only [Act.put, List.setIfInBounds_toArray, List.set_cons_zero, List.set_cons_succ]
                  refine any_take (i := 16) (some 69) (.bool false) rfl rfl (by kernel_rfl) (by kernel_rfl) (by kernel_rfl) (fun _ _ _ h => h) rfl (fun W hSw => ?_) (S9) ?_
                  · (try dsimp only at hSw); go_simp <;> with_reducible rfl
                  try simp only [Act.put, List.setIfInBounds_toArray, List.set_cons_zero, List.set_cons_succ]
                  refine any_take (i := 17) (some 70) (.bool false) rfl rfl (by kernel_rfl) (by kernel_rfl) (by kernel_rfl) (fun _ _ _ h => h) rfl (fun W hSw => ?_) (S9) ?_
                  · (try dsimp only at hSw); go_simp <;> with_reducible rfl
                  try simp only [Act.put, List.setIfInBounds_toArray, List.set_cons_zero, List.set_cons_succ]
                  refine any_skip (i := 18) (some 71) rfl rfl (by kernel_rfl) (by kernel_rfl) (by kernel_rfl) (fun _ _ _ h => h) rfl (S9) ?_
                  try simp only [Act.put, List.setIfInBounds_toArray, List.set_cons_zero, List.set_cons_succ]
                  refine any_skip (i := 19) (some 72) rfl rfl (by kernel_rfl) (by kernel_rfl) (by kernel_rfl) (fun _ _ _ h => h) rfl (S9) ?_
                  try simp only [Act.put, List.setIfInBounds_toArray, List.set_cons_zero, List.set_cons_succ]
                  refine any_skip (i := 20) (some 73) rfl rfl (by kernel_rfl) (by kernel_rfl) (by kernel_rfl) (fun _ _ _ h => h) rfl (S9) ?_
                  try simp only [Act.put, List.setIfInBounds_toArray, List.set_cons_zero, List.set_cons_succ]
                  refine any_skip (i := 21) (some 74) rfl rfl (by kernel_rfl) (by kernel_rfl) (by kernel_rfl) (fun _ _ _ h => h) rfl (S9) ?_
                  try simp only [Act.put, List.setIfInBounds_toArray, List.set_cons_zero, List.set_cons_succ]
                  refine any_skip (i := 22) (some 75) rfl rfl (by kernel_rfl) (by kernel_rfl) (by kernel_rfl) (fun _ _ _ h => h) rfl (S9) ?_
                  try simp only [Act.put, List.setIfInBounds_toArray, List.set_cons_zero, List.set_cons_succ]
                  refine any_skip (i := 23) (some 76) rfl rfl (by kernel_rfl) (by kernel_rfl) (by kernel_rfl) (fun _ _ _ h => h) rfl (S9) ?_
                  try simp only [Act.put, List.setIfInBounds_toArray, List.set_cons_zero, List.set_cons_succ]
                  refine any_skip (i := 24) (some 77) rfl rfl (by kernel_rfl) (by kernel_rfl) (by kernel_rfl) (fun _ _ _ h => h) rfl (S9) ?_
                  try simp only [Act.put, List.setIfInBounds_toArray, List.set_cons_zero, List.set_cons_succ]
                  refine any_skip (i := 25) (some 78) rfl rfl (by kernel_rfl) (by kernel_rfl) (by kernel_rfl) (fun _ _ _ h => h) rfl (S9) ?_
                  try simp only [Act.put, List.setIfInBounds_toArray, List.set_cons_zero, List.set_cons_succ]
                  refine any_skip (i := 26) (some 79) rfl rfl (by kernel_rfl) (by kernel_rfl) (by kernel_rfl) (fun _ _ _ h => h) rfl (S9) ?_
                  try simp only [Act.put, List.setIfInBounds_toArray, List.set_cons_zero, List.set_cons_succ]
                  refine any_take (i := 27) (some 80) (.bool false) rfl rfl (by kernel_rfl) (by kernel_rfl) (by kernel_rfl) (fun _ _ _ h => h) rfl (fun W hSw => ?_) (S9) ?_
                  · (try dsimp only at hSw); go_simp <;> with_reducible rfl
                  try simp only [Act.put, List.setIfInBounds_toArray, List.set_cons_zero, List.set_cons_succ]
                  refine wpAnyH_done (by kernel_rfl) ?_ _
                  clear S0 S9 sA sB sD
                  have HB9 := Lib.hid (HBQ.out.trans (hb9.mono (by omega))); have HO9 := Lib.hid (own_kept HOQ.out hb9); have hs9 := HB9.out.size
                  clear hb9 HBQ KB HOQ HOWN HBW
                  go_wp2
                  go_roundw
                  case rel => exact ⟨k + 1, by omega, rfl, rfl, by go_num, no_next HX.out HNO.out HSK.out, HO9.out, HB9.out⟩
                  case measure => simp [intOf]; omega
            · have e0 : (x0 == x) = false := by simp [hf]
              have HSK := Lib.hid (show chP l p t who hh x ⟨x0, x1, x2, x3, x4, x5, x6⟩ = false by simp [chP, hf]); clear hf
              go_wp2_with fail
              generalize hW : (wr.alloc (.cells #[.int .i64 x0, .int .i64 x1, .int .i64 x2, .int .i64 x3, .int .i64 x4, .int .i64 x5, .bool x6] 35)) = wq
              have hbq : Below wr.heap.size wr wq := by rw [← hW]; exact balloc _ _
              have kb : Has wq wr.heap.size 35 #[.int .i64 x0, .int .i64 x1, .int .i64 x2, .int .i64 x3, .int .i64 x4, .int .i64 x5, .bool x6] := by rw [← hW]; exact has_new _ _ _
              clear hW
              have hszq := hbq.size; have hltb := has_lt kb
              have HBQ := Lib.hid (HBW.out.trans (hbq.mono hsr)); have KB := Lib.hid kb; have HOQ := Lib.hid (own_kept HOWN.out hbq); have HRQ := HRD.out.call HBQ.out
              have s0 := has_cell kb 0 rfl; have s1 := has_cell kb 1 rfl; have s2 := has_cell kb 2 rfl; have s3 := has_cell kb 3 rfl; have s4 := has_cell kb 4 rfl; have s5 := has_cell kb 5 rfl; have s6 := has_cell kb 6 rfl
              clear kb hbq HRQ
              have S0 : (fun W : World => (W.cell? ⟨wr.heap.size, 0, none⟩ = some (.int .i64 x0) ∧ W.cell? ⟨wr.heap.size, 1, none⟩ = some (.int .i64 x1) ∧ W.cell? ⟨wr.heap.size, 2, none⟩ = some (.int .i64 x2) ∧ W.cell? ⟨wr.heap.size, 3, none⟩ = some (.int .i64 x3) ∧ W.cell? ⟨wr.heap.size, 4, none⟩ = some (.int .i64 x4) ∧ W.cell? ⟨wr.heap.size, 5, none⟩ = some (.int .i64 x5) ∧ W.cell? ⟨wr.heap.size, 6, none⟩ = some (.bool x6)) ∧ Below wq.heap.size wq W) wq.drew := ⟨⟨s0, s1, s2, s3, s4, s5, s6⟩, (Below.refl _ _).drew⟩
              clear s0 s1 s2 s3 s4 s5 s6
              refine wp_region_held_drew (S := (fun W : World => (W.cell? ⟨wr.heap.size, 0, none⟩ = some (.int .i64 x0) ∧ W.cell? ⟨wr.heap.size, 1, none⟩ = some (.int .i64 x1) ∧ W.cell? ⟨wr.heap.size, 2, none⟩ = some (.int .i64 x2) ∧ W.cell? ⟨wr.heap.size, 3, none⟩ = some (.int .i64 x3) ∧ W.cell? ⟨wr.heap.size, 4, none⟩ = some (.int .i64 x4) ∧ W.cell? ⟨wr.heap.size, 5, none⟩ = some (.int .i64 x5) ∧ W.cell? ⟨wr.heap.size, 6, none⟩ = some (.bool x6)) ∧ Below wq.heap.size wq W)) (by kernel_rfl) S0 (fun _ => ?_)
              have hb9 : Below wq.heap.size wq wq.drew := (Below.refl wq.heap.size wq).drew
              refine any_take (i := 0) (some 53) (.pointer (some ⟨wr.heap.size, 0, none⟩)) rfl rfl (by kernel_rfl) (by kernel_rfl) (by kernel_rfl) (fun _ _ _ h => h) rfl (fun W hSw => ?_) (S0) ?_
              · (try dsimp only at hSw); go_simp <;> with_reducible rfl
              try simp only [Act.put, List.setIfInBounds_toArray, List.set_cons_zero, List.set_cons_succ]
              refine any_take (i := 1) (some 54) (.int .i64 x0) rfl rfl (by kernel_rfl) (by kernel_rfl) (by kernel_rfl) (fun _ _ _ h => h) rfl (fun W hSw => ?_) (S0) ?_
              · (try dsimp only at hSw); go_simp <;> with_reducible rfl
              try simp only [Act.put, List.setIfInBounds_toArray, List.set_cons_zero, List.set_cons_succ]
              refine any_take (i := 2) (some 55) (.int .i64 x) rfl rfl (by kernel_rfl) (by kernel_rfl) (by kernel_rfl) (fun _ _ _ h => h) rfl (fun W hSw => ?_) (S0) ?_
              · (try dsimp only at hSw); go_simp <;> with_reducible rfl
              try simp only [Act.put, List.setIfInBounds_toArray, List.set_cons_zero, List.set_cons_succ]
              refine any_take (i := 3) (some 56) (.bool false) rfl rfl (by kernel_rfl) (by kernel_rfl) (by kernel_rfl) (fun _ _ _ h => h) rfl (fun W hSw => ?_) (S0) ?_
              · (try dsimp only at hSw); go_simp <;> with_reducible rfl
              try simp only [Act.put, List.setIfInBounds_toArray, List.set_cons_zero, List.set_cons_succ]
              refine any_take (i := 4) (some 57) (.bool false) rfl rfl (by kernel_rfl) (by kernel_rfl) (by kernel_rfl) (fun _ _ _ h => h) rfl (fun W hSw => ?_) (S0) ?_
              · (try dsimp only at hSw); go_simp <;> with_reducible rfl
              try simp only [Act.put, List.setIfInBounds_toArray, List.set_cons_zero, List.set_cons_succ]
              refine any_skip (i := 5) (some 58) rfl rfl (by kernel_rfl) (by kernel_rfl) (by kernel_rfl) (fun _ _ _ h => h) rfl (S0) ?_
              try simp only [Act.put, List.setIfInBounds_toArray, List.set_cons_zero, List.set_cons_succ]
              refine any_skip (i := 6) (some 59) rfl rfl (by kernel_rfl) (by kernel_rfl) (by kernel_rfl) (fun _ _ _ h => h) rfl (S0) ?_
              try simp only [Act.put, List.setIfInBounds_toArray, List.set_cons_zero, List.set_cons_succ]
              refine any_skip (i := 7) (some 60) rfl rfl (by kernel_rfl) (by kernel_rfl) (by kernel_rfl) (fun _ _ _ h => h) rfl (S0) ?_
              try simp only [Act.put, List.setIfInBounds_toArray, List.set_cons_zero, List.set_cons_succ]
              refine any_skip (i := 8) (some 61) rfl rfl (by kernel_rfl) (by kernel_rfl) (by kernel_rfl) (fun _ _ _ h => h) rfl (S0) ?_
              try simp only [Act.put, List.setIfInBounds_toArray, List.set_cons_zero, List.set_cons_succ]
              refine any_take (i := 9) (some 62) (.bool false) rfl rfl (by kernel_rfl) (by kernel_rfl) (by kernel_rfl) (fun _ _ _ h => h) rfl (fun W hSw => ?_) (S0) ?_
              · (try dsimp only at hSw); go_simp <;> with_reducible rfl
              try simp only [Act.put, List.setIfInBounds_toArray, List.set_cons_zero, List.set_cons_succ]
              refine any_take (i := 10) (some 63) (.bool false) rfl rfl (by kernel_rfl) (by kernel_rfl) (by kernel_rfl) (fun _ _ _ h => h) rfl (fun W hSw => ?_) (S0) ?_
              · (try dsimp only at hSw); go_simp <;> with_reducible rfl
              try simp only [Act.put, List.setIfInBounds_toArray, List.set_cons_zero, List.set_cons_succ]
              refine any_skip (i := 11) (some 64) rfl rfl (by kernel_rfl) (by kernel_rfl) (by kernel_rfl) (fun _ _ _ h => h) rfl (S0) ?_
              try simp only [Act.put, List.setIfInBounds_toArray, List.set_cons_zero, List.set_cons_succ]
              refine any_skip (i := 12) (some 65) rfl rfl (by kernel_rfl) (by kernel_rfl) (by kernel_rfl) (fun _ _ _ h => h) rfl (S0) ?_
              try simp only [Act.put, List.setIfInBounds_toArray, List.set_cons_zero, List.set_cons_succ]
              refine any_skip (i := 13) (some 66) rfl rfl (by kernel_rfl) (by kernel_rfl) (by kernel_rfl) (fun _ _ _ h => h) rfl (S0) ?_
              try simp only [Act.put, List.setIfInBounds_toArray, List.set_cons_zero, List.set_cons_succ]
              refine any_skip (i := 14) (some 67) rfl rfl (by kernel_rfl) (by kernel_rfl) (by kernel_rfl) (fun _ _ _ h => h) rfl (S0) ?_
              try simp only [Act.put, List.setIfInBounds_toArray, List.set_cons_zero, List.set_cons_succ]
              refine any_skip (i := 15) (some 68) rfl rfl (by kernel_rfl) (by kernel_rfl) (by kernel_rfl) (fun _ _ _ h => h) rfl (S0) ?_
              try simp only [Act.put, List.setIfInBounds_toArray, List.set_cons_zero, List.set_cons_succ]
              refine any_take (i := 16) (some 69) (.bool false) rfl rfl (by kernel_rfl) (by kernel_rfl) (by kernel_rfl) (fun _ _ _ h => h) rfl (fun W hSw => ?_) (S0) ?_
              · (try dsimp only at hSw); go_simp <;> with_reducible rfl
              try simp only [Act.put, List.setIfInBounds_toArray, List.set_cons_zero, List.set_cons_succ]
              refine any_take (i := 17) (some 70) (.bool false) rfl rfl (by kernel_rfl) (by kernel_rfl) (by kernel_rfl) (fun _ _ _ h => h) rfl (fun W hSw => ?_) (S0) ?_
              · (try dsimp only at hSw); go_simp <;> with_reducible rfl
              try simp only [Act.put, List.setIfInBounds_toArray, List.set_cons_zero, List.set_cons_succ]
              refine any_skip (i := 18) (some 71) rfl rfl (by kernel_rfl) (by kernel_rfl) (by kernel_rfl) (fun _ _ _ h => h) rfl (S0) ?_
              try simp only [Act.put, List.setIfInBounds_toArray, List.set_cons_zero, List.set_cons_succ]
              refine any_skip (i := 19) (some 72) rfl rfl (by kernel_rfl) (by kernel_rfl) (by kernel_rfl) (fun _ _ _ h => h) rfl (S0) ?_
              try simp only [Act.put, List.setIfInBounds_toArray, List.set_cons_zero, List.set_cons_succ]
              refine any_skip (i := 20) (some 73) rfl rfl (by kernel_rfl) (by kernel_rfl) (by kernel_rfl) (fun _ _ _ h => h) rfl (S0) ?_
              try simp only [Act.put, List.setIfInBounds_toArray, List.set_cons_zero, List.set_cons_succ]
              refine any_skip (i := 21) (some 74) rfl rfl (by kernel_rfl) (by kernel_rfl) (by kernel_rfl) (fun _ _ _ h => h) rfl (S0) ?_
              try simp only [Act.put, List.setIfInBounds_toArray, List.set_cons_zero, List.set_cons_succ]
              refine any_skip (i := 22) (some 75) rfl rfl (by kernel_rfl) (by kernel_rfl) (by kernel_rfl) (fun _ _ _ h => h) rfl (S0) ?_
              try simp only [Act.put, List.setIfInBounds_toArray, List.set_cons_zero, List.set_cons_succ]
              refine any_skip (i := 23) (some 76) rfl rfl (by kernel_rfl) (by kernel_rfl) (by kernel_rfl) (fun _ _ _ h => h) rfl (S0) ?_
              try simp only [Act.put, List.setIfInBounds_toArray, List.set_cons_zero, List.set_cons_succ]
              refine any_skip (i := 24) (some 77) rfl rfl (by kernel_rfl) (by kernel_rfl) (by kernel_rfl) (fun _ _ _ h => h) rfl (S0) ?_
              try simp only [Act.put, List.setIfInBounds_toArray, List.set_cons_zero, List.set_cons_succ]
              refine any_skip (i := 25) (some 78) rfl rfl (by kernel_rfl) (by kernel_rfl) (by kernel_rfl) (fun _ _ _ h => h) rfl (S0) ?_
              try simp only [Act.put, List.setIfInBounds_toArray, List.set_cons_zero, List.set_cons_succ]
              refine any_skip (i := 26) (some 79) rfl rfl (by kernel_rfl) (by kernel_rfl) (by kernel_rfl) (fun _ _ _ h => h) rfl (S0) ?_
              try simp only [Act.put, List.setIfInBounds_toArray, List.set_cons_zero, List.set_cons_succ]
              refine any_take (i := 27) (some 80) (.bool false) rfl rfl (by kernel_rfl) (by kernel_rfl) (by kernel_rfl) (fun _ _ _ h => h) rfl (fun W hSw => ?_) (S0) ?_
              · (try dsimp only at hSw); go_simp <;> with_reducible rfl
              try simp only [Act.put, List.setIfInBounds_toArray, List.set_cons_zero, List.set_cons_succ]
              refine wpAnyH_done (by kernel_rfl) ?_ _
              clear S0
              have HB9 := Lib.hid (HBQ.out.trans (hb9.mono (by omega))); have HO9 := Lib.hid (own_kept HOQ.out hb9); have hs9 := HB9.out.size
              clear hb9 HBQ KB HOQ HOWN HBW
              go_wp2
              go_roundw
              case rel => exact ⟨k + 1, by omega, rfl, rfl, by go_num, no_next HX.out HNO.out HSK.out, HO9.out, HB9.out⟩
              case measure => simp [intOf]; omega
          · have hkl : k = l.length := by omega
            subst hkl
            have HMISS := Lib.hid (ch_miss HNO.out)
            go_wp2
            go_roundg hh
            case measure => omega
            case rel => exact ⟨x, don, rfl, by go_num, by rw [HCH.out, HMISS.out], by omega, HOWN.out, HBW.out⟩
theorem chainS_any (w : World) (B : Nat) (A : Option Addr) (c : Nat) (l : List Gr) (owner who p t : Int) (hl : l.length ≤ 1048576) (hB : B ≤ w.heap.size) (hS : grL w B A l) : Calls Try.prog 7 #[.slice A l.length c, .int .i64 owner, .int .i64 who, .int .i64 p, .int .i64 t] w (ChainAns (chainA l owner who p t) w) := by
  cases hg : goodB l owner who p t
  · exact chainS_no w B A c l owner who p t hl hB hS hg
  · exact chainS_yes w B A c l owner who p t hl hB hS hg
end Go.Proofs.Ytdaeljjjcgpcoaa
