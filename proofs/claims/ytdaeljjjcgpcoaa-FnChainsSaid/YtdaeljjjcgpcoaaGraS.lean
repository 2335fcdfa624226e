/- Chapter 5: the walk of stepsTo: the search from the person back, over two maps. -/
import Derived.Test.YtdaeljjjcgpcoaaGraN
import Derived.Deep.LoopGhost
import Derived.Outline
namespace Go.Proofs.Ytdaeljjjcgpcoaa
open Go.RowKit Go.Maps
set_option linter.unusedVariables false

/-- how many persons are not in the map -/
def unS (S : PM) : Nat := (List.range 41).countP fun i : Nat => (S (i : Int)).isNone
theorem countP_strike {l : List Nat} (p q : Nat → Bool) (x : Nat) (hn : l.Nodup) (hx : x ∈ l) (hp : p x = true) (hq : q x = false) (ho : ∀ i, i ≠ x → q i = p i) : l.countP q + 1 = l.countP p := by
  induction l with
  | nil => cases hx
  | cons a r ih =>
    have hn' := List.nodup_cons.1 hn
    by_cases e : a = x
    · subst e
      have : r.countP q = r.countP p := List.countP_congr fun i hi => by rw [ho i (fun e => hn'.1 (e ▸ hi))]
      rw [List.countP_cons_of_neg (by simp [hq]), List.countP_cons_of_pos (by simp [hp]), this]
    · have hx' : x ∈ r := by rcases List.mem_cons.1 hx with h | h; exact absurd h.symm e; exact h
      have := ih hn'.2 hx'
      cases hpa : p a
      · rw [List.countP_cons_of_neg (by simp [ho a e, hpa]), List.countP_cons_of_neg (by simp [hpa])]; exact this
      · rw [List.countP_cons_of_pos (by simp [ho a e, hpa]), List.countP_cons_of_pos (by simp [hpa])]; omega
theorem unS_take {S : PM} {x v : Int} (hx : 0 ≤ x ∧ x ≤ 40) (hS : S x = none) : unS (pset S x v) + 1 = unS S := by
  obtain ⟨k, rfl⟩ := Int.eq_ofNat_of_zero_le hx.1
  refine countP_strike _ _ k List.nodup_range (by simp; omega) (by simp [hS]) (by simp [pset_same]) (fun i hi => ?_)
  rw [pset_other]; omega
theorem unS_le (S : PM) : unS S ≤ 41 := by have := List.countP_le_length (p := fun i : Nat => (S (i : Int)).isNone) (l := List.range 41); simpa [unS] using this
/-- the search between two rounds -/
def BO (l : List Gr) (p t sp who : Int) (S Q : PM) : Prop := ∃ m y G, Bfs l p t sp who S Q m y G ∧ ∀ z v, S z = some v → z = y → ∀ g ∈ l, appB p t g = true → g.to = z → v + sp ≤ g.dep → ∃ u, (S g.frm = some u ∨ Q g.frm = some u) ∧ u ≤ v + 1
section
variable {l : List Gr} {p t sp who : Int} {S Q : PM}
theorem bo_start (l : List Gr) (p t sp who : Int) : BO l p t sp who (fun _ => none) (pset (fun _ => none) who 0) := ⟨0, 0, [], bfs_start l p t sp who, (fun z v h => by cases h)⟩
theorem BO.pq (h : BO l p t sp who S Q) (hw : 1 ≤ who ∧ who ≤ 40) (h0 : 0 ≤ sp) : PQ Q := fun x c hx => by
  obtain ⟨m, y, G, hb, _⟩ := h
  exact ⟨hb.person hw (.inr hx), hb.val h0 (.inr hx)⟩
theorem BO.ps (h : BO l p t sp who S Q) (hw : 1 ≤ who ∧ who ≤ 40) {x v : Int} (hx : S x = some v) : 1 ≤ x ∧ x ≤ 40 := by
  obtain ⟨m, y, G, hb, _⟩ := h
  exact hb.person hw (.inl hx)
theorem BO.take (h : BO l p t sp who S Q) {x b : Int} (hx : Q x = some b) (hmin : ∀ z v, Q z = some v → b ≤ v) : Bfs l p t sp who (pset S x b) (pdel Q x) b x [] := by
  obtain ⟨m, y, G, hb, hy⟩ := h
  exact hb.take hy hx hmin
theorem BO.not_in (h : BO l p t sp who S Q) {x b : Int} (hx : Q x = some b) : S x = none := by
  obtain ⟨m, y, G, hb, _⟩ := h
  rcases hb.dis x with h1 | h1
  · exact h1
  · rw [hx] at h1; cases h1
theorem BO.done (h : BO l p t sp who S Q) (hQ : ∀ x, Q x = none) : Steps l p t sp who S := by
  obtain ⟨m, y, G, hb, hy⟩ := h
  exact hb.done hy hQ
theorem bo_of {m y : Int} (hy : S y = some m) (h1 : 1 ≤ y) (hb : Bfs l p t sp who S Q m y (giversL (forceL p t l) y (m + sp))) : BO l p t sp who S Q :=
  ⟨m, y, _, hb, hb.closed hy fun g hg ha ht hd => (mem_givers h1).2 ⟨g, hg, ha, ht, hd, rfl⟩⟩
end
theorem mi_made2 (w : World) : MI ((w.alloc (.map #[] 0)).alloc (.map #[] 0)) (w.heap.size + 1) 0 (fun _ => none) := by
  have := MI_made (w.alloc (.map #[] 0)); simpa using this
def StepsAns (l : List Gr) (p t sp who : Int) (w : World) (e : Ending) (w' : World) : Prop := ∃ b n S, e = .returned (.map (some b)) ∧ MI w' b n S ∧ Steps l p t sp who S ∧ w.heap.size ≤ b ∧ Below w.heap.size w w'
/-- what holds at the head of the search's loop -/
def HeadS (l : List Gr) (p t sp who : Int) (w : World) (g : Nat) (wr : World) : Prop := ∃ S Q n1 n2, MI wr w.heap.size n1 S ∧ MI wr (w.heap.size + 1) n2 Q ∧ BO l p t sp who S Q ∧ unS S ≤ g ∧ n1 + g ≤ 41 ∧ n2 + 31 * g ≤ 1 + 31 * 41 ∧ Below w.heap.size w wr
/-- what holds at the head of the loop over the givers -/
def InS (l : List Gr) (p t sp who : Int) (w : World) (S : PM) (m y : Int) (G : List Int) (A : Option Addr) (n1 n2 j : Nat) (wr : World) : Prop :=
  ∃ Q k2, MI wr w.heap.size n1 S ∧ MI wr (w.heap.size + 1) k2 Q ∧ k2 ≤ n2 + j ∧ Bfs l p t sp who S Q m y (G.take j) ∧ OR wr (w.heap.size + 2) 3 A (intV G) ∧ Below w.heap.size w wr
theorem take_snoc' {G : List Int} {j : Nat} {y : Int} (h : G[j]? = some y) : G.take (j + 1) = G.take j ++ [y] := by rw [List.take_add_one, h]; rfl
theorem or_map {w w' : World} {base M : Nat} {e : TypeId} {A : Option Addr} {xs : List Value} (h : OR w base e A xs) (hg : w.grownBy w' (some M)) (hM : M < base) : OR w' base e A xs :=
  h.kept fun g hg1 hg2 => hg.block g hg2 (fun e => by injection e; omega)
set_option maxRecDepth 100000 in
set_option maxHeartbeats 8000000 in
theorem steps_any (w : World) (B : Nat) (A : Option Addr) (c : Nat) (l F : List Gr) (p t sp who : Int) (hF : F = forceL p t l) (hl : F.length ≤ 30) (hw : 1 ≤ who ∧ who ≤ 40) (hsp : 0 ≤ sp ∧ sp ≤ 5) (hB : B ≤ w.heap.size) (hS : grL w B A F) :
    Calls Try.prog 19 #[.slice A F.length c, .int .i64 who, .int .i64 sp] w (StepsAns l p t sp who w) := by
  have HS := Lib.hid hS; have HF := Lib.hid hF; clear hS hF
  have hmm := @run_makeMap Try.prog
  go_enter Try.func19, Try.ntmps19
  go_wp2_with ((with_reducible refine mi_insert _ rfl _ _ _ rfl (w.heap.size + 1) 0 (fun _ => none) (by unfold maxLen; omega) rfl (mi_made2 w) who 0 rfl rfl (by omega) (by omega) ?_); intro w1 hM2 hg1)
  have hb1 : Below w.heap.size w w1 := ((balloc w (.map #[] 0)).alloc (by simp) (.map #[] 0)).grown hg1 (by simp; omega) (fun k hk => by injection hk with hk; omega)
  have hM1 : MI w1 w.heap.size 0 (fun _ => none) := ((MI_made w).alloc (.map #[] 0)).kept hg1 (by simp)
  have H0 := Lib.hid (show HeadS l p t sp who w 41 w1 from ⟨_, _, 0, 1, hM1, hM2, bo_start l p t sp who, unS_le _, by omega, by omega, hb1⟩)
  clear hM1 hM2 hg1 hb1
  go_loopg [9] 41 (fun g _ wr => HeadS l p t sp who w g wr)
  case atStart => exact H0.out
  case round =>
    clear H0
    obtain ⟨wo, rfl⟩ : ∃ wo : World, wo = wr := ⟨_, rfl⟩
    obtain ⟨S, Q, n1, n2, hM1, hM2, hbo, hun, hn1, hn2, hb⟩ := hrel
    have HBO := Lib.hid hbo; clear hbo
    have hsz := hb.size
    have hM2lt : w.heap.size + 1 < wo.heap.size := hM2.lt
    have HB0 := Lib.hid hb; clear hb
    go_wp2_with (at_len; refine mi_len _ rfl _ rfl (w.heap.size + 1) n2 Q rfl hM2 ?_)
    intro k hkn hk0 hkp
    rcases Nat.eq_zero_or_pos k with hk | hk
    · subst hk
      have HQ := Lib.hid (hk0 rfl); clear hk0 hkp
      go_wp2
      go_ret
      exact ⟨_, n1, S, rfl, hM1, HBO.out.done HQ.out, Nat.le_refl _, HB0.out⟩
    · obtain ⟨x0, c0, hx0⟩ := hkp hk
      have HNE := Lib.hid (show ∃ x c, Q x = some c from ⟨x0, c0, hx0⟩); clear hkp hk0 hx0
      have hkk : ¬ ((k : Int) ≤ 0) := by omega
      go_wp2_with (first | (go_at_call 32; refine (near_any wo (w.heap.size + 1) n2 Q hM2 HNE.out (HBO.out.pq hw hsp.1)).mono ?_; rintro e w1 ⟨x, b, rfl, hx, hmin, hb1⟩; have HX := Lib.hid hx; have HMIN := Lib.hid hmin; clear hx hmin; have hpx := HBO.out.pq hw hsp.1 x b HX.out; have hM1' := hM1.call hb1; have hM2' := hM2.call hb1; have HB1 := Lib.hid (HB0.out.trans (hb1.mono hsz)); clear hM1 hM2 HB0 hb1; have HGD := Lib.hid (show (Q x).getD 0 = b by rw [HX.out]; rfl); have hnotin := HBO.out.not_in HX.out; have hun2 := unS_take (v := b) (by omega : 0 ≤ x ∧ x ≤ 40) hnotin; have HTK := Lib.hid (HBO.out.take HX.out HMIN.out); clear HBO HX HMIN hnotin) | (at_lookup; refine mi_lookup _ rfl _ _ rfl (w.heap.size + 1) n2 Q rfl hM2' x rfl (by omega) ?_; rw [HGD.out]) | (at_delete; refine mi_delete _ rfl _ _ rfl (w.heap.size + 1) n2 Q rfl hM2' x rfl (by omega) ?_; intro w2 hD2 hg2; have hD1 := hM1'.kept hg2 (by simp); have HB2 := Lib.hid (HB1.out.grown hg2 (by have := HB1.out.size; omega) (fun k hk => by injection hk with hk; omega)); clear HB1 hM1' hM2' hg2) | (at_mapUpdate; refine mi_update _ rfl _ _ _ rfl w.heap.size n1 S (by unfold maxLen; omega) rfl hD1 x b rfl rfl (by omega) (by omega) ?_; intro w3 hU1 hg3; have hU2 := hD2.kept hg3 (by simp); have hw3 : w.heap.size + 2 ≤ w3.heap.size := hU2.lt; have HB3 := Lib.hid (HB2.out.grown hg3 (by have := HB2.out.size; omega) (fun k hk => by injection hk with hk; omega)); clear HB2 hD1 hD2 hg3; have hs3 := HB3.out.size) | (go_at_call 33; refine (givers_any w3 B A c F x (b + sp) (by omega) (by omega) (HS.out.below (HB3.out.mono hB))).mono ?_; rintro e w4 ⟨A4, c4, rfl, hrow, hb4⟩; have hV1 := hU1.call hb4; have hV2 := hU2.call hb4; have HROW := Lib.hid hrow; have HB4 := Lib.hid (HB3.out.trans (hb4.mono hs3)); have hs4 := hb4.size; clear hU1 hU2 HB3 hrow hb4))
      have hGl : (giversL F x (b + sp)).length ≤ 30 := Nat.le_trans (givers_len _ _ _) hl
      have HMEM := Lib.hid (show ∀ g ∈ giversL F x (b + sp), ∃ q ∈ l, appB p t q = true ∧ q.to = x ∧ b + sp ≤ q.dep ∧ q.frm = g from fun g hg => by rw [HF.out] at hg; exact (mem_givers (by omega)).1 hg)
      have HRW := Lib.hid (OR.more HROW.out hw3)
      clear HROW
      generalize hG : giversL F x (b + sp) = G at hGl HMEM HRW ⊢
      have HG := Lib.hid hG; clear hG
      go_loopw [37] (fun i wr => ∃ j : Nat, j ≤ G.length ∧ i = .int .i64 j ∧ InS l p t sp who w (pset S x b) b x G A4 (n1 + 1) n2 j wr) (fun i _ => G.length - (intOf i).toNat)
      case atStart => exact ⟨0, Nat.zero_le _, rfl, _, n2, hV1, hV2, by omega, HTK.out, HRW.out, HB4.out⟩
      case round =>
        clear hV1 hV2 HRW HB4 HTK
        obtain ⟨j, hj, rfl, Q', k2, hV1, hV2, hk2, hbf, hor, hb⟩ := hrel
        have HBF := Lib.hid hbf; have HOR := Lib.hid hor; have HB := Lib.hid hb; have hsr := hb.size; clear hbf hor hb
        by_cases hlt : j < G.length
        · obtain ⟨bb, off, y, rfl, hbB, hy, hc0⟩ := HOR.out.il.at_ hlt
          obtain ⟨q, hq1, hq2, hq3, hq4, hq5⟩ := HMEM.out y (List.mem_of_getElem? hy)
          have hqp := (grantB_facts (appB_ok hq2)).1
          have hyp : 1 ≤ y ∧ y ≤ 40 := by rw [← hq5]; exact hqp
          have HQQ := Lib.hid (show ∃ g ∈ l, appB p t g = true ∧ g.to = x ∧ b + sp ≤ g.dep ∧ g.frm = y from ⟨q, hq1, hq2, hq3, hq4, hq5⟩)
          have HY := Lib.hid hy; clear hy hq1 hq2 hq3 hq4 hq5 hqp
          cases h1 : pset S x b y with
          | some u1 =>
            have HS1 := Lib.hid h1
            have HSS := Lib.hid (show (pset S x b y).isSome = true by rw [h1]; rfl); clear h1
            go_wp2_with (go_at_call 20; with_reducible refine (has_any _ w.heap.size (n1 + 1) (pset S x b) y hV1 (by omega)).mono ?_; rintro e w9 ⟨rfl, hw⟩; rw [hw, HSS.out]; clear hw)
            go_roundw
            case rel => exact ⟨j + 1, by omega, by go_num, Q', k2, hV1, hV2, by omega, by rw [take_snoc' HY.out]; exact HBF.out.skip (.inl (by rw [HS1.out]; simp)), HOR.out, HB.out⟩
            case measure => simp [intOf]; omega
          | none =>
            have HS1 := Lib.hid h1
            have HSS := Lib.hid (show (pset S x b y).isSome = false by rw [h1]; rfl); clear h1
            cases h2 : Q' y with
            | some u2 =>
              have HS2 := Lib.hid h2
              have HSQ := Lib.hid (show (Q' y).isSome = true by rw [h2]; rfl); clear h2
              go_wp2_with (go_at_call 20; first | ((with_reducible refine (has_any _ w.heap.size (n1 + 1) (pset S x b) y hV1 (by omega)).mono ?_); rintro e w9 ⟨rfl, hw⟩; rw [hw, HSS.out]; clear hw) | ((with_reducible refine (has_any _ (w.heap.size + 1) k2 Q' y hV2 (by omega)).mono ?_); rintro e w9 ⟨rfl, hw⟩; rw [hw, HSQ.out]; clear hw))
              go_roundw
              case rel => exact ⟨j + 1, by omega, by go_num, Q', k2, hV1, hV2, by omega, by rw [take_snoc' HY.out]; exact HBF.out.skip (.inr (by rw [HS2.out]; simp)), HOR.out, HB.out⟩
              case measure => simp [intOf]; omega
            | none =>
              have HS2 := Lib.hid h2
              have HSQ := Lib.hid (show (Q' y).isSome = false by rw [h2]; rfl); clear h2
              go_wp2_with (first | (at_mapUpdate; refine mi_update _ rfl _ _ _ rfl (w.heap.size + 1) k2 Q' (by unfold maxLen; omega) rfl hV2 y (b + 1) rfl rfl (by omega) (by omega) ?_; intro w10 hU2 hg10; have hU1 := hV1.kept hg10 (by simp); have HORU := Lib.hid (or_map HOR.out hg10 (by omega)); have HBU := Lib.hid (HB.out.grown hg10 hsr (fun k hk => by injection hk with hk; omega)); clear hV1 hV2 hg10) | (go_at_call 20; first | ((with_reducible refine (has_any _ w.heap.size (n1 + 1) (pset S x b) y hV1 (by omega)).mono ?_); rintro e w9 ⟨rfl, hw⟩; rw [hw, HSS.out]; clear hw) | ((with_reducible refine (has_any _ (w.heap.size + 1) k2 Q' y hV2 (by omega)).mono ?_); rintro e w9 ⟨rfl, hw⟩; rw [hw, HSQ.out]; clear hw)))
              go_roundw
              case rel => exact ⟨j + 1, by omega, by go_num, _, k2 + 1, hU1, hU2, by omega, by rw [take_snoc' HY.out]; exact HBF.out.add HS1.out HS2.out (pset_same _ _ _) HQQ.out, HORU.out, HBU.out⟩
              case measure => simp [intOf]; omega
        · have hjl : j = G.length := by omega
          subst hjl
          go_wp2
          have HBO2 : BO l p t sp who (pset S x b) Q' := bo_of (pset_same _ _ _) (by omega) (by have h := HBF.out; rw [List.take_length, ← HG.out, HF.out] at h; exact h)
          go_roundg (gk - 1)
          case measure => omega
          case rel => exact ⟨pset S x b, Q', n1 + 1, k2, hV1, hV2, HBO2, by omega, by omega, by omega, HB.out⟩
end Go.Proofs.Ytdaeljjjcgpcoaa
