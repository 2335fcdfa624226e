/- Chapter 2: the model's BankGaps, BankFit, MostOf. -/
import Derived.Test.YthfpjfekemelaaaQ25
import Derived.Test.YthfpjfekemelaaaQ10
namespace Go.Proofs.Ythfpjfekemelaaa
open Go.RowKit
set_option linter.unusedVariables false

theorem gpL.grow {w w' : World} {B : Nat} {A : Option Addr} {l : List Gp} {row : Option Nat} (h : gpL w B A l) (hB : B ≤ w.heap.size) (hg : w.grownBy w' row) (hne : l = [] ∨ ∀ a, A = some a → row ≠ some a.block) : gpL w' B A l := by
  rcases h with h | ⟨b, off, rfl, hlt, hc⟩
  · exact .inl h
  · rcases hne with hne | hne
    · exact .inl hne
    · have hk : ∀ o, w'.cell? ⟨b, o, none⟩ = w.cell? ⟨b, o, none⟩ := fun o => World.cell?_of_block (hg.block b (by omega) (fun e => hne _ rfl e.symm))
      exact .inr ⟨b, off, rfl, hlt, fun k x hx => by have := hc k x hx; exact ⟨(hk _).trans this.1, (hk _).trans this.2.1, (hk _).trans this.2.2⟩⟩
def numG (i : Int) (G : List Gp) : List Gp := G.map fun g => ⟨i, g.low, g.size⟩
theorem numG_succ {i : Int} {G : List Gp} {k : Nat} {g : Gp} (h : G[k]? = some g) : numG i (G.take (k + 1)) = numG i (G.take k) ++ [⟨i, g.low, g.size⟩] := by
  unfold numG; rw [List.take_add_one, h]; simp

set_option maxRecDepth 100000 in
set_option maxHeartbeats 4000000 in
theorem bgS_any (w : World) (B : Nat) (A : Option Addr) (n c : Nat) (l : List Cl) (hn : n = l.length) (hl : l.length ≤ maxLen) (hB : B ≤ w.heap.size) (hS : KL w B A l) (hV : ∀ x ∈ l, CV w B x) :
    Calls Try.prog 17 #[.slice A n c] w (GapAns (bgO l) w) := by
  subst hn
  obtain ⟨j0, hj0, hy0, hy1, hy2⟩ := info_parts gpInfo
  have hl' := hl
  unfold maxLen at hl
  have HS := Lib.hid hS; have HV := Lib.hid hV; clear hS hV
  go_enter Try.func17, Try.ntmps17
  go_wp2_with fail
  generalize hW1 : w.alloc (.cells #[] 28) = w1
  have b1 : Below w.heap.size w w1 := by rw [← hW1]; exact balloc _ _
  have own1 : w1.ownsRow w.heap.size 28 3 (.slice (some ⟨w.heap.size, 0, none⟩) 0 0) 0 [] := by rw [← hW1]; exact owns_new _ _ _ _ (Nat.le_refl _)
  clear hW1
  have OW1 := Lib.hid own1; clear own1
  have hz1 := b1.size
  refine (bankS_any w1 B A l.length c l rfl hl' (by omega) (HS.out.later hB b1) (fun x hx => (HV.out x hx).later hB b1)).mono ?_
  rintro e w2 ⟨q, rfl, hq, hb2⟩
  have hz2 := hb2.size
  have OW2 := Lib.hid (own_callG OW1.out hb2); have C2 := Lib.hid (bthen b1 hb2); have HQ := Lib.hid hq; clear hq hb2 b1
  cases q
  · have hne : ¬ BankP l := fun g => by have := HQ.out.2 g; simp at this
    have HNE := Lib.hid hne; clear hne
    go_wp2_with fail
    go_ret
    rw [bgO_no HNE.out]
    exact ⟨_, _, rfl, .inl rfl, C2.out⟩
  · have hok := HQ.out.1 rfl
    have HOK := Lib.hid hok; clear hok HQ
    have hgo := bgO_ok HOK.out
    have HGO := Lib.hid hgo; clear hgo
    go_wp2_with fail
    go_loopw [3, 4] (fun gv i wr => ∃ (k : Nat) (A' : Option Addr) (c' : Nat) (D : List Gp), k ≤ l.length ∧ i = .int .i64 k ∧ D = bgL (l.take k) 0 ∧ gv = .slice A' D.length c' ∧ wr.ownsRow w.heap.size 28 3 (.slice A' D.length c') D.length (gpV D) ∧ Below w.heap.size w wr) (fun _ i _ => l.length - (intOf i).toNat)
    case atStart => exact ⟨0, _, _, [], Nat.zero_le _, rfl, rfl, rfl, OW2.out, C2.out⟩
    case round =>
      obtain ⟨k, A', c', D, hk, rfl, hD, rfl, how, hb⟩ := hrel
      have hDl : D.length ≤ 144 := by rw [hD]; exact bg_take HOK.out k
      have hsz := hb.size
      have HD := Lib.hid hD; have HOW := Lib.hid how; have HBB := Lib.hid hb; clear hD how
      by_cases hlt : k < l.length
      · obtain ⟨b, off, x, rfl, hbB, hx, hc0, hc1, hc2⟩ := (HS.out.later hB hb).at_ hlt
        have hv := (HV.out x (List.mem_of_getElem? hx)).later hB hb
        have hcok := HOK.out.2.1 x (List.mem_of_getElem? hx)
        have hsu := bgL_succ hx
        have hgl := gapsO_len x.z x.F x.L
        have hnum : gapsL x.F k x.L = numG k (gapsO x.z x.F x.L) := by rw [gapsO_ok hcok]; exact gapsL_num _ _ _ _
        have HVX := Lib.hid hv; have HSU := Lib.hid hsu; have HNU := Lib.hid hnum; clear hx hv hcok hsu hb hnum
        have hbw : b < wr.heap.size := by omega
        obtain ⟨G, hG⟩ : ∃ G, gapsO x.z x.F x.L = G := ⟨_, rfl⟩
        rw [hG] at hgl
        have HG := Lib.hid hG; clear hG
        go_wp2_with fail
        refine (gapsS_any wr B x (by omega) HVX.out).mono ?_
        rintro e w4 hans
        rw [HG.out] at hans
        obtain ⟨A4, c4, rfl, hor, hb4⟩ := hans
        clear hc0 hc1 hc2
        have hz4 := hb4.size
        have OW4 := Lib.hid (own_callG HOW.out hb4); have HB4 := Lib.hid (HBB.out.trans (hb4.mono hsz)); have HG4 := Lib.hid hor.gp
        have hra : G = [] ∨ ∃ g, A4 = some ⟨g, 0, none⟩ ∧ wr.heap.size ≤ g ∧ g < w4.heap.size := by
          rcases hor with h | ⟨g, cur, e1, h1, hh, _⟩
          · exact .inl (gpV_nil h)
          · exact .inr ⟨g, e1, h1, has_lt hh⟩
        have hob0 : ∀ q, (Value.slice A' D.length c').ownBlock = some q → q < wr.heap.size ∨ w4.heap.size ≤ q := fun q e => .inl (HOW.out.lt q e).2
        have HRA := Lib.hid hra; have HOB0 := Lib.hid hob0; clear hor hb4 hra hob0
        go_wp2_with fail
        go_loopw [3, 6] (fun gv i wz => ∃ (m : Nat) (A6 : Option Addr) (c6 : Nat) (E : List Gp), m ≤ G.length ∧ i = .int .i64 m ∧ E = D ++ numG k (G.take m) ∧ gv = .slice A6 E.length c6 ∧ wz.ownsRow w.heap.size 28 3 (.slice A6 E.length c6) E.length (gpV E) ∧ Below w.heap.size w wz ∧ gpL wz w4.heap.size A4 G ∧ w4.heap.size ≤ wz.heap.size ∧ (∀ q, (Value.slice A6 E.length c6).ownBlock = some q → q < wr.heap.size ∨ w4.heap.size ≤ q)) (fun _ i _ => G.length - (intOf i).toNat)
        case atStart => exact ⟨0, A', c', D, Nat.zero_le _, rfl, by simp [numG], rfl, OW4.out, HB4.out, HG4.out, Nat.le_refl _, HOB0.out⟩
        case round =>
          rename World => wz
          obtain ⟨m, A6, c6, E, hm, rfl, hE, rfl, how6, hb6, hg6, hz46, hob6⟩ := hrel
          have HOB6 := Lib.hid hob6; clear hob6
          have hEl : E.length ≤ 168 := by rw [hE]; simp [numG]; omega
          have hsz6 := hb6.size
          have HE := Lib.hid hE; have HOW6 := Lib.hid how6; have HB6 := Lib.hid hb6; have HG6 := Lib.hid hg6; clear hE how6 hb6
          by_cases hlt2 : m < G.length
          · obtain ⟨b2, off2, ⟨g0, g1, g2⟩, rfl, hbB2, hx2, hd0, hd1, hd2⟩ := hg6.at_ hlt2
            dsimp only at hd0 hd1 hd2
            have hsu2 := numG_succ (i := (k : Int)) hx2
            dsimp only at hsu2
            have HSU2 := Lib.hid hsu2; clear hsu2 hx2 hg6
            have hm0 : (0 : Int) ≤ (m : Int) := by omega
            have hm1 : (m : Int) < (G.length : Int) := by omega
            have hbw2 : b2 < wz.heap.size := by omega
            have hbr : wr.heap.size ≤ b2 ∧ b2 < w4.heap.size := by rcases HRA.out with h | ⟨g, e1, h1, h2⟩; (rw [h] at hlt2; simp at hlt2); (injection e1 with e1; injection e1 with e1; subst e1; exact ⟨h1, h2⟩)
            obtain ⟨hbr1, hbr2⟩ := hbr
            go_upto_region 11 with (fail)
            have S0 : (fun W : World => W.cell? ⟨b2, off2 + m * 3 + 1, none⟩ = some (.int .i64 g1) ∧ W.cell? ⟨b2, off2 + m * 3 + 2, none⟩ = some (.int .i64 g2)) wz.drew := ⟨hd1, hd2⟩
            clear hd0 hd1 hd2
            refine wp_region_held_drew (S := (fun W : World => W.cell? ⟨b2, off2 + m * 3 + 1, none⟩ = some (.int .i64 g1) ∧ W.cell? ⟨b2, off2 + m * 3 + 2, none⟩ = some (.int .i64 g2))) (by kernel_rfl) S0 (fun _ => ?_)
            refine any_take (i := 0) (some 29) (.slice A6 E.length c6) rfl rfl (by kernel_rfl) (by kernel_rfl) (by kernel_rfl) (fun _ _ _ h => h) rfl (fun W hSw => ?_) (S0) ?_
            · (try dsimp only at hSw); go_simp <;> with_reducible rfl
            try simp only [Act.put, List.setIfInBounds_toArray, List.set_cons_zero, List.set_cons_succ]
            refine any_take (i := 1) (some 30) (.int .i64 (k : Int)) rfl rfl (by kernel_rfl) (by kernel_rfl) (by kernel_rfl) (fun _ _ _ h => h) rfl (fun W hSw => ?_) (S0) ?_
            · (try dsimp only at hSw); go_simp <;> with_reducible rfl
            try simp only [Act.put, List.setIfInBounds_toArray, List.set_cons_zero, List.set_cons_succ]
            refine any_take (i := 2) (some 31) (.slice (some ⟨b2, off2, none⟩) G.length c4) rfl rfl (by kernel_rfl) (by kernel_rfl) (by kernel_rfl) (fun _ _ _ h => h) rfl (fun W hSw => ?_) (S0) ?_
            · (try dsimp only at hSw); go_simp <;> with_reducible rfl
            try simp only [Act.put, List.setIfInBounds_toArray, List.set_cons_zero, List.set_cons_succ]
            refine any_take (i := 3) (some 32) (.int .i64 (m : Int)) rfl rfl (by kernel_rfl) (by kernel_rfl) (by kernel_rfl) (fun _ _ _ h => h) rfl (fun W hSw => ?_) (S0) ?_
            · (try dsimp only at hSw); go_simp <;> with_reducible rfl
            try simp only [Act.put, List.setIfInBounds_toArray, List.set_cons_zero, List.set_cons_succ]
            refine any_take (i := 4) (some 33) (.pointer (some ⟨b2, off2 + m * 3, none⟩)) rfl rfl (by kernel_rfl) (by kernel_rfl) (by kernel_rfl) (fun _ _ _ h => h) rfl (fun W hSw => ?_) (S0) ?_
            · (try dsimp only at hSw); go_simp <;> with_reducible rfl
            try simp only [Act.put, List.setIfInBounds_toArray, List.set_cons_zero, List.set_cons_succ]
            refine any_take (i := 5) (some 34) (.pointer (some ⟨b2, off2 + m * 3 + 1, none⟩)) rfl rfl (by kernel_rfl) (by kernel_rfl) (by kernel_rfl) (fun _ _ _ h => h) rfl (fun W hSw => ?_) (S0) ?_
            · (try dsimp only at hSw); go_simp <;> with_reducible rfl
            try simp only [Act.put, List.setIfInBounds_toArray, List.set_cons_zero, List.set_cons_succ]
            refine any_take (i := 6) (some 35) (.int .i64 g1) rfl rfl (by kernel_rfl) (by kernel_rfl) (by kernel_rfl) (fun _ _ _ h => h) rfl (fun W hSw => ?_) (S0) ?_
            · (try dsimp only at hSw); go_simp <;> with_reducible rfl
            try simp only [Act.put, List.setIfInBounds_toArray, List.set_cons_zero, List.set_cons_succ]
            refine any_take (i := 7) (some 36) (.slice (some ⟨b2, off2, none⟩) G.length c4) rfl rfl (by kernel_rfl) (by kernel_rfl) (by kernel_rfl) (fun _ _ _ h => h) rfl (fun W hSw => ?_) (S0) ?_
            · (try dsimp only at hSw); go_simp <;> with_reducible rfl
            try simp only [Act.put, List.setIfInBounds_toArray, List.set_cons_zero, List.set_cons_succ]
            refine any_take (i := 8) (some 37) (.int .i64 (m : Int)) rfl rfl (by kernel_rfl) (by kernel_rfl) (by kernel_rfl) (fun _ _ _ h => h) rfl (fun W hSw => ?_) (S0) ?_
            · (try dsimp only at hSw); go_simp <;> with_reducible rfl
            try simp only [Act.put, List.setIfInBounds_toArray, List.set_cons_zero, List.set_cons_succ]
            refine any_take (i := 9) (some 38) (.pointer (some ⟨b2, off2 + m * 3, none⟩)) rfl rfl (by kernel_rfl) (by kernel_rfl) (by kernel_rfl) (fun _ _ _ h => h) rfl (fun W hSw => ?_) (S0) ?_
            · (try dsimp only at hSw); go_simp <;> with_reducible rfl
            try simp only [Act.put, List.setIfInBounds_toArray, List.set_cons_zero, List.set_cons_succ]
            refine any_take (i := 10) (some 39) (.pointer (some ⟨b2, off2 + m * 3 + 2, none⟩)) rfl rfl (by kernel_rfl) (by kernel_rfl) (by kernel_rfl) (fun _ _ _ h => h) rfl (fun W hSw => ?_) (S0) ?_
            · (try dsimp only at hSw); go_simp <;> with_reducible rfl
            try simp only [Act.put, List.setIfInBounds_toArray, List.set_cons_zero, List.set_cons_succ]
            refine any_take (i := 11) (some 40) (.int .i64 g2) rfl rfl (by kernel_rfl) (by kernel_rfl) (by kernel_rfl) (fun _ _ _ h => h) rfl (fun W hSw => ?_) (S0) ?_
            · (try dsimp only at hSw); go_simp <;> with_reducible rfl
            try simp only [Act.put, List.setIfInBounds_toArray, List.set_cons_zero, List.set_cons_succ]
            refine any_take (i := 12) (some 41) (.agg #[.int .i64 (k : Int), .int .i64 g1, .int .i64 g2]) rfl rfl (by kernel_rfl) (by kernel_rfl) (by kernel_rfl) (fun _ _ _ h => h) rfl (fun W hSw => ?_) (S0) ?_
            · (try dsimp only at hSw); go_simp <;> with_reducible rfl
            try simp only [Act.put, List.setIfInBounds_toArray, List.set_cons_zero, List.set_cons_succ]
            refine wpAnyH_ready (rs := [13]) (by kernel_rfl) (by simp) ?_
            refine AllReadyH.cons rfl (fun K hK => ?_) AllReadyH.nil
            go_simp
            try go_wp2_with fail
            generalize hX9 : (wz.alloc (.cells #[.int .i64 (k : Int), .int .i64 g1, .int .i64 g2] 28)).drew = v1
            have hb8 : Below wz.heap.size wz v1 := by rw [← hX9]; exact (balloc _ _).drew
            have kn : Has v1 wz.heap.size 28 #[.int .i64 (k : Int), .int .i64 g1, .int .i64 g2] := by rw [← hX9]; exact has_new _ _ _
            clear hX9
            have S1 : (fun W : World => W.cell? ⟨b2, off2 + m * 3 + 1, none⟩ = some (.int .i64 g1) ∧ W.cell? ⟨b2, off2 + m * 3 + 2, none⟩ = some (.int .i64 g2)) v1 := ⟨(bold hb8 _ _ hbw2).trans S0.1, (bold hb8 _ _ hbw2).trans S0.2⟩
            have hzv := hb8.size
            have OWv := own_callG HOW6.out hb8
            have HGv := HG6.out.below (hb8.mono hz46)
            refine hK.out _ _ S1 (fun _ => ?_)
            clear hK K
            try simp only [Act.put, List.setIfInBounds_toArray, List.set_cons_zero, List.set_cons_succ]
            refine wpAnyH_ready (rs := [14]) (by kernel_rfl) (by simp) ?_
            refine AllReadyH.cons rfl (fun K hK => ?_) AllReadyH.nil
            refine step_appB rfl _ _ 35 rfl w.heap.size 28 j0 (.agg #[.int .i64 0, .int .i64 0, .int .i64 0]) 3 24 Try.underlying35 hj0 hy0 hy1 hy2 rfl (by decide) _ E.length _ rfl OWv (some ⟨wz.heap.size, 0, none⟩) 1 1 (gpC ⟨(k : Int), g1, g2⟩) rfl (src_gp (x := ⟨(k : Int), g1, g2⟩) kn) (by unfold maxLen; omega) (by omega) (by omega) ?_
            intro A9 c9 v2 hown hgrow hrow hob
            have hne9 : ∀ q, (Value.slice A6 E.length c6).ownBlock = some q → q ≠ b2 := fun q e => by have := HOB6.out q e; omega
            have S2 : (fun W : World => W.cell? ⟨b2, off2 + m * 3 + 1, none⟩ = some (.int .i64 g1) ∧ W.cell? ⟨b2, off2 + m * 3 + 2, none⟩ = some (.int .i64 g2)) v2 := by
              have hk : ∀ o, v2.cell? ⟨b2, o, none⟩ = v1.cell? ⟨b2, o, none⟩ := fun o => World.cell?_of_block (hgrow.block b2 (by omega) (fun e => hne9 _ e.symm rfl))
              exact ⟨(hk _).trans S1.1, (hk _).trans S1.2⟩
            have hb9 : Below w.heap.size w v2 := (HB6.out.trans (hb8.mono hsz6)).grown hgrow (by omega) (fun b hb => (hrow b hb).1)
            have hg9 : gpL v2 w4.heap.size (some ⟨b2, off2, none⟩) G := HGv.grow (by omega) hgrow (.inr fun a e => by injection e with e; subst e; intro e2; exact hne9 _ e2 rfl)
            have hzz : w4.heap.size ≤ v2.heap.size := by have := hgrow.size; omega
            rw [← gpV_snoc] at hown
            obtain ⟨E9, hE9⟩ : ∃ E9, E ++ [⟨(k : Int), g1, g2⟩] = E9 := ⟨_, rfl⟩
            have hl9 : E.length + 1 = E9.length := by rw [← hE9]; simp
            rw [hE9] at hown
            rw [hl9] at hown hob ⊢
            have hob9 : ∀ q, (Value.slice A9 E9.length c9).ownBlock = some q → q < wr.heap.size ∨ w4.heap.size ≤ q := fun q e => by
              rcases hob with h | h
              · rw [h] at e; exact HOB6.out q e
              · rw [h] at e; injection e with e; right; omega
            have HE9 := Lib.hid hE9; have OW9 := Lib.hid hown; have HB9 := Lib.hid hb9; have HG9 := Lib.hid hg9; have HOB9 := Lib.hid hob9; clear hE9 hl9 hown hgrow hrow hb9 hob hg9 hob9 hne9 kn OWv HGv hb8
            refine hK.out _ _ S2 (fun _ => ?_)
            clear hK K
            try simp only [Act.put, List.setIfInBounds_toArray, List.set_cons_zero, List.set_cons_succ]
            refine any_take (i := 15) (some 3) (.slice A9 E9.length c9) rfl rfl (by kernel_rfl) (by kernel_rfl) (by kernel_rfl) (fun _ _ _ h => h) rfl (fun W hSw => ?_) (S2) ?_
            · (try dsimp only at hSw); go_simp <;> with_reducible rfl
            try simp only [Act.put, List.setIfInBounds_toArray, List.set_cons_zero, List.set_cons_succ]
            refine wpAnyH_done (by kernel_rfl) ?_ _
            go_wp2
            go_roundw
            case rel => exact ⟨m + 1, A9, c9, E9, by omega, by go_num, by rw [← HE9.out, HE.out, HSU2.out, List.append_assoc], rfl, OW9.out, HB9.out, HG9.out, hzz, HOB9.out⟩
            case measure => simp [intOf]; omega
          · clear hg6
            go_wp2
            go_roundw
            case rel => exact ⟨k + 1, A6, c6, E, by omega, by go_num, by rw [HSU.out, HE.out, HNU.out, HG.out, ← HD.out, List.take_of_length_le (by omega)], rfl, HOW6.out, HB6.out⟩
            case measure => simp [intOf]; omega
      · go_wp2
        go_ret
        have hkl : k = l.length := by omega
        have he : bgO l = D := by rw [HGO.out, HD.out, hkl, List.take_length]
        rw [he]
        exact ⟨A', c', rfl, or_of HOW.out, HBB.out⟩
end Go.Proofs.Ythfpjfekemelaaa
namespace Go.Proofs.Ythfpjfekemelaaa
open Go.RowKit
set_option linter.unusedVariables false

set_option maxRecDepth 100000 in
set_option maxHeartbeats 1000000 in
theorem bfitS_any (w : World) (B : Nat) (A : Option Addr) (n c : Nat) (size : Int) (l : List Cl) (hn : n = l.length) (hl : l.length ≤ maxLen) (hB : B ≤ w.heap.size) (hS : KL w B A l) (hV : ∀ x ∈ l, CV w B x) :
    Calls Try.prog 32 #[.slice A n c, .int .i64 size] w (FitAns (fitV (bgO l) size) w) := by
  subst hn
  have HS := Lib.hid hS; have HV := Lib.hid hV; clear hS hV
  obtain ⟨G, hG⟩ : ∃ G, bgO l = G := ⟨_, rfl⟩
  have hgl := bgO_len l
  rw [hG] at hgl ⊢
  have HG := Lib.hid hG; clear hG
  go_enter Try.func32, Try.ntmps32
  go_wp2_with fail
  generalize hW0 : w.alloc (.cells #[.int .i64 0, .int .i64 0, .int .i64 0] 28) = w0
  have b0 : Below w.heap.size w w0 := by rw [← hW0]; exact balloc _ _
  have k0 : Has w0 (w.heap.size) 28 #[.int .i64 0, .int .i64 0, .int .i64 0] := by
    rw [← hW0]; exact has_new _ _ _
  clear hW0
  have K0 := Lib.hid k0; clear k0
  have hz0 := b0.size
  refine (bgS_any w0 B A l.length c l rfl hl (by omega) (HS.out.later hB b0) (fun x hx => (HV.out x hx).later hB b0)).mono ?_
  rintro e w1 hans
  rw [HG.out] at hans
  obtain ⟨A', c', rfl, hor, hb1⟩ := hans
  have c1 := bthen b0 hb1
  have hz1 := hb1.size
  have HOR := Lib.hid hor.gp; clear hor
  have k1 := has_call K0.out hb1
  have K1 := Lib.hid k1; clear k1
  go_wp2_with fail
  refine (leastS_any w1 A' _ c' w1.heap.size G size rfl (by unfold maxLen; omega) (Nat.le_refl _) HOR.out).mono ?_
  rintro e w2 ⟨rfl, hb2⟩
  have c2 := bthen c1 hb2
  have k2 := has_call K1.out hb2
  have HOR2 := Lib.hid (HOR.out.later (Nat.le_refl _) hb2)
  have y0 := has_cell k2 0 rfl
  have y1 := has_cell k2 1 rfl
  have y2 := has_cell k2 2 rfl
  have f0 := has_free k2 0
  have f1 := has_free k2 1
  have f2 := has_free k2 2
  have hz2 := c2.size
  have hz12 := hb2.size
  have hk2 := has_lt k2
  have HK2 := Lib.hid k2; have C2 := Lib.hid c2; clear k2 c2 hb2 c1 hb1
  by_cases hs : 1 ≤ size
  · by_cases hneg : leastI size G < 0
    · have hv := fitV_no (l := G) (size := size) (by unfold leastP; rw [if_pos hs]; exact hneg)
      have HFV := Lib.hid hv; clear hv
      have X1 := Lib.hid (set3 (u := .int .i64 0) (v := .int .i64 0) (x := .int .i64 0) HK2.out)
      have FIN := Lib.hid (show Below w.heap.size w (((w2.setCell ⟨w.heap.size, 0, none⟩ (.int .i64 0)).setCell ⟨w.heap.size, 1, none⟩ (.int .i64 0)).setCell ⟨w.heap.size, 2, none⟩ (.int .i64 0)) from ((C2.out.setCell (Nat.le_refl _) _).setCell (Nat.le_refl _) _).setCell (Nat.le_refl _) _)
      generalize leastI size G = lp at *
      go_wp2_with fail
      have g0 := has_cell X1.out 0 rfl
      have g1 := has_cell X1.out 1 rfl
      have g2 := has_cell X1.out 2 rfl
      exact bodyPost_ret (v := .tuple #[.agg #[.int .i64 0, .int .i64 0, .int .i64 0], .bool false]) (by simp [results, Try.results32, go_sem, g0, g1, g2]) rfl ⟨by rw [HFV.out], FIN.out⟩
    · obtain ⟨k, ⟨x0, x1, x2⟩, hkq, hx, hv⟩ := fitV_yes (l := G) (size := size) (by unfold leastP; rw [if_pos hs]; exact hneg)
      unfold leastP at hkq
      rw [if_pos hs] at hkq
      have HFV := Lib.hid hv; clear hv
      have hkl : k < G.length := (List.getElem?_eq_some_iff.1 hx).1
      obtain ⟨b, off, g', rfl, hbB, hx', hc0, hc1, hc2⟩ := HOR2.out.at_ hkl
      obtain rfl : g' = ⟨x0, x1, x2⟩ := by rw [hx] at hx'; injection hx' with hx'; exact hx'.symm
      dsimp only at hc0 hc1 hc2
      clear hx hx'
      have hbw : b < w2.heap.size := by omega
      have X1 := Lib.hid (set3 (u := .int .i64 x0) (v := .int .i64 x1) (x := .int .i64 x2) HK2.out)
      have FIN := Lib.hid (show Below w.heap.size w (((w2.setCell ⟨w.heap.size, 0, none⟩ (.int .i64 x0)).setCell ⟨w.heap.size, 1, none⟩ (.int .i64 x1)).setCell ⟨w.heap.size, 2, none⟩ (.int .i64 x2)) from ((C2.out.setCell (Nat.le_refl _) _).setCell (Nat.le_refl _) _).setCell (Nat.le_refl _) _)
      rw [hkq]
      clear hkq hneg
      go_wp2_with fail
      have g0 := has_cell X1.out 0 rfl
      have g1 := has_cell X1.out 1 rfl
      have g2 := has_cell X1.out 2 rfl
      exact bodyPost_ret (v := .tuple #[.agg #[.int .i64 x0, .int .i64 x1, .int .i64 x2], .bool true]) (by simp [results, Try.results32, go_sem, g0, g1, g2]) rfl ⟨by rw [HFV.out], FIN.out⟩
  · have hv := fitV_no (l := G) (size := size) (by unfold leastP; rw [if_neg hs]; omega)
    have HFV := Lib.hid hv; clear hv
    have X1 := Lib.hid (set3 (u := .int .i64 0) (v := .int .i64 0) (x := .int .i64 0) HK2.out)
    have FIN := Lib.hid (show Below w.heap.size w (((w2.setCell ⟨w.heap.size, 0, none⟩ (.int .i64 0)).setCell ⟨w.heap.size, 1, none⟩ (.int .i64 0)).setCell ⟨w.heap.size, 2, none⟩ (.int .i64 0)) from ((C2.out.setCell (Nat.le_refl _) _).setCell (Nat.le_refl _) _).setCell (Nat.le_refl _) _)
    generalize leastI size G = lp at *
    go_wp2_with fail
    have g0 := has_cell X1.out 0 rfl
    have g1 := has_cell X1.out 1 rfl
    have g2 := has_cell X1.out 2 rfl
    exact bodyPost_ret (v := .tuple #[.agg #[.int .i64 0, .int .i64 0, .int .i64 0], .bool false]) (by simp [results, Try.results32, go_sem, g0, g1, g2]) rfl ⟨by rw [HFV.out], FIN.out⟩

end Go.Proofs.Ythfpjfekemelaaa
