/- Chapter 2: the draw of a bank, a parcel and a size; equal banks (gen_ddc.py). -/
import Derived.Test.YthfpjfekemelaaaQ23
import Derived.Test.YthfpjfekemelaaaQ24
import Derived.Test.YthfpjfekemelaaaQ10
import Derived.Test.YthfpjfekemelaaaQ12
import Derived.Test.YthfpjfekemelaaaQ21
import Derived.IntWalk
namespace Go.Proofs.Ythfpjfekemelaaa
open Go.RowKit
set_option linter.unusedVariables false
set_option maxRecDepth 100000 in
set_option maxHeartbeats 2000000 in
theorem sameK_any (w : World) (B B' : Nat) (A A' : Option Addr) (c c' n : Nat) (l l' : List Cl) (hl : l.length ≤ maxLen) (hn : n = l.length) (hsm : SmallK l) (hc : l'.map cont = l.map cont) (hB : B ≤ w.heap.size) (hB' : B' ≤ w.heap.size) (hS : KL w B A l) (hV : ∀ x ∈ l, CV w B x) (hS' : KL w B' A' l') (hV' : ∀ x ∈ l', CV w B' x) :
    Calls Try.prog 9 #[.slice A n c, .slice A' n c'] w fun e w' => e = .returned (.bool true) ∧ Below w.heap.size w w' := by
  unfold maxLen at hl
  subst hn
  have hll : l'.length = l.length := by have := congrArg List.length hc; simpa using this
  have HS := Lib.hid hS; have HV := Lib.hid hV; have HS' := Lib.hid hS'; have HV' := Lib.hid hV'; have HC := Lib.hid hc; have HLL := Lib.hid hll; have HSM := Lib.hid hsm; clear hsm hS hV hS' hV' hc hll
  have e0 : ((l.length : Int) != (l.length : Int)) = false := by simp
  go_enter Try.func9, Try.ntmps9
  go_wp2
  clear e0
  go_loopw [5] (fun i wr => ∃ k : Nat, k ≤ l.length ∧ i = .int .i64 k ∧ Below w.heap.size w wr) (fun i _ => l.length - (intOf i).toNat)
  case atStart => exact ⟨0, Nat.zero_le _, rfl, Below.refl _ _⟩
  case round =>
    obtain ⟨k, hk, rfl, hb⟩ := hrel
    by_cases hlt : k < l.length
    · have hsz := hb.size
      obtain ⟨b, off, x, rfl, hbB, hx, hc0, hc1, hc2⟩ := (HS.out.below (hb.mono hB)).at_ hlt
      obtain ⟨b', off', y, rfl, hbB', hy, hd0, hd1, hd2⟩ := (HS'.out.below (hb.mono hB')).at_ (k := k) (by rw [HLL.out]; exact hlt)
      have hv := (HV.out x (List.mem_of_getElem? hx)).later hB hb
      have hv' := (HV'.out y (List.mem_of_getElem? hy)).later hB' hb
      have hxy : cont y = cont x := by
        have h1 : (l'.map cont)[k]? = some (cont y) := by rw [List.getElem?_map, hy]; rfl
        have h2 : (l.map cont)[k]? = some (cont x) := by rw [List.getElem?_map, hx]; rfl
        rw [HC.out, h2] at h1; injection h1 with h1; exact h1.symm
      have hsx := HSM.out x (List.mem_of_getElem? hx)
      obtain ⟨z, AF, F, cF, AB, L, cB⟩ := x
      obtain ⟨z', AF', F', cF', AB', L', cB'⟩ := y
      simp only [cont, Prod.mk.injEq] at hxy
      obtain ⟨rfl, rfl, rfl⟩ := hxy
      dsimp only at hsx hc0 hc1 hc2 hd0 hd1 hd2
      have HVX := Lib.hid hv; have HVY := Lib.hid hv'; clear hx hy hv hv'
      have hbw : b < wr.heap.size := by omega
      have hbw' : b' < wr.heap.size := by omega
      have hkk0 : (0 : Int) ≤ (k : Int) := by omega
      have hkk1 : (k : Int) < (l.length : Int) := by omega
      go_upto_region 6 with fail
      have HSX := Lib.hid hsx; clear hsx
      have f1 := HVX.out.f; have f2 := HVX.out.b; have f3 := HVY.out.f; have f4 := HVY.out.b
      have HSC := Lib.hid (sameC_any wr.drew B B' z' AF AB AF' AB' cF cB cF' cB' F' L' HSX.out.1 HSX.out.2 (by show B ≤ wr.heap.size; omega) (by show B' ≤ wr.heap.size; omega) (f1.below (Below.refl _ _).drew) (f2.below (Below.refl _ _).drew) (f3.below (Below.refl _ _).drew) (f4.below (Below.refl _ _).drew)); clear f1 f2 f3 f4
      go_region_with (go_at_call 36; refine (HSC.out).mono ?_; rintro e w1 ⟨rfl, hb1⟩)
      all_goals (go_wp2_with fail)
      all_goals go_roundw
      all_goals first | exact ⟨k + 1, by omega, by go_num, (hb.drew).trans (hb1.mono hsz)⟩ | (simp [intOf]; omega)
    · go_wp2
      go_ret
      exact ⟨rfl, hb⟩

def DrwBk (w : World) (e : Ending) (w' : World) : Prop := ∃ (l : List Cl) (A : Option Addr) (c : Nat) (p s : Int), e = .returned (.tuple #[.slice A l.length c, .int .i64 p, .int .i64 s]) ∧ 0 ≤ s ∧ s ≤ 5 ∧ AnyK l ∧ KL w' w'.heap.size A l ∧ (∀ x ∈ l, CV w' w'.heap.size x) ∧ Below w.heap.size w w'
set_option maxRecDepth 100000 in
set_option maxHeartbeats 4000000 in
theorem drawBP_any (w : World) (A : Option Addr) (n c : Nat) (hn : n ≤ maxLen) (hS : BS w w.heap.size A n) : Calls Try.prog 6 #[.slice A n c] w (DrwBk w) := by
  have HS := Lib.hid hS; clear hS
  go_enter Try.func6, Try.ntmps6
  go_wp2_with fail
  refine (new_any w w.heap.size A n c hn (Nat.le_refl _) HS.out).mono ?_
  rintro e w2 ⟨rfl, hC, hb⟩
  have zb2 := Lib.hid hb; have hs2 := hb.size; have hg2 := hC.lt.2
  have HC := Lib.hid hC; clear hC hb
  go_wp2_with fail
  refine (anyK_any w2 w.heap.size w.heap.size HC.out).mono ?_
  rintro e w3 ⟨l, A1, c1, rfl, hak, how, hok, hC9, hO9⟩
  have zb3 := Lib.hid (zb2.out.trans (only_below hO9 (by omega) (by omega)))
  have hgs := hC9.lt.2; have hs3 := hO9.size
  clear HC; have HC := Lib.hid hC9; have OW := Lib.hid how; have OK := Lib.hid hok; have AN := Lib.hid hak; clear zb2 hC9 hO9 how hok hak
  go_wp2_with fail
  generalize hX : w3.alloc (.cells #[.int .i64 1, .int .i64 2, .int .i64 8, .int .i64 14, .int .i64 20, .int .i64 30, .int .i64 999, .int .i64 1000, .int .i64 0] 3) = w4
  have hb : Below w3.heap.size w3 w4 := by rw [← hX]; exact balloc _ _
  have zl : Has w4 w3.heap.size 3 #[.int .i64 1, .int .i64 2, .int .i64 8, .int .i64 14, .int .i64 20, .int .i64 30, .int .i64 999, .int .i64 1000, .int .i64 0] := by rw [← hX]; exact has_new _ _ _
  clear hX
  have zb4 := Lib.hid (bthen zb3.out hb)
  have kk := HC.out.belC hb; clear HC; have HC := Lib.hid kk; clear kk
  have kk := own_callG OW.out hb; clear OW; have OW := Lib.hid kk; clear kk
  have kk := OK.out.below hb; clear OK; have OK := Lib.hid kk; clear kk
  have hs4 := hb.size; clear hb zb3
  refine (pickInt_any w4 w.heap.size w.heap.size w3.heap.size 9 _ (-1) 1000 HC.out zl rfl (by omega) (by omega) (by omega) (by intro j hj; rcases j with _ | _ | _ | _ | _ | _ | _ | _ | _ | j; exact ⟨_, by omega, by omega, rfl⟩; exact ⟨_, by omega, by omega, rfl⟩; exact ⟨_, by omega, by omega, rfl⟩; exact ⟨_, by omega, by omega, rfl⟩; exact ⟨_, by omega, by omega, rfl⟩; exact ⟨_, by omega, by omega, rfl⟩; exact ⟨_, by omega, by omega, rfl⟩; exact ⟨_, by omega, by omega, rfl⟩; exact ⟨_, by omega, by omega, rfl⟩; omega)).mono ?_
  rintro e w5 ⟨p, hp0, hp1, rfl, hC9, hO9⟩
  have zb5 := Lib.hid (zb4.out.trans (only_below hO9 (by omega) (by omega)))
  have kk := own3_only OW.out hO9 (by omega); clear OW; have OW := Lib.hid kk; clear kk
  have kk := OK.out.only hO9 (by omega); clear OK; have OK := Lib.hid kk; clear kk
  have hs5 := hO9.size
  clear HC; have HC := Lib.hid hC9; clear hC9 hO9 zl zb4
  go_wp2_with fail
  refine (below_any w5 w.heap.size w.heap.size 6 (by omega) (by omega) HC.out).mono ?_
  rintro e w6 ⟨s, hs0, hs1, rfl, hC9, hO9⟩
  have zb6 := Lib.hid (zb5.out.trans (only_below hO9 (by omega) (by omega)))
  have kk := own3_only OW.out hO9 (by omega); clear OW; have OW := Lib.hid kk; clear kk
  have kk := OK.out.only hO9 (by omega); clear OK; have OK := Lib.hid kk; clear kk
  clear HC hC9 hO9 zb5
  go_wp2_with fail
  go_ret3
  exact ⟨l, A1, c1, p, s, rfl, hs0, by omega, AN.out, own3_kl OW.out, OK.out.cv (anyK_small AN.out), zb6.out⟩
end Go.Proofs.Ythfpjfekemelaaa
namespace Go.Proofs.Ythfpjfekemelaaa
open Go.RowKit
set_option linter.unusedVariables false

/-- the gaps of the columns of a bank, from a number on -/
def bgL : List Cl → Int → List Gp
  | [], _ => []
  | x :: r, i => gapsL x.F i x.L ++ bgL r (i + 1)
theorem bgL_snoc : ∀ (l : List Cl) (i : Int) (x : Cl), bgL (l ++ [x]) i = bgL l i ++ gapsL x.F (i + l.length) x.L
  | [], i, x => by simp [bgL]
  | y :: r, i, x => by simp only [List.cons_append, bgL, bgL_snoc r, List.append_assoc, List.length_cons]; congr 3; push_cast; omega
theorem bgL_succ {l : List Cl} {k : Nat} {x : Cl} (h : l[k]? = some x) : bgL (l.take (k + 1)) 0 = bgL (l.take k) 0 ++ gapsL x.F k x.L := by
  rw [List.take_add_one, h]
  have hk : k < l.length := (List.getElem?_eq_some_iff.1 h).1
  have : (l.take k).length = k := by simp; omega
  simp only [Option.toList_some, bgL_snoc, this, Int.zero_add]
theorem bgL_cont : ∀ {l l' : List Cl} (i : Int), l'.map cont = l.map cont → bgL l' i = bgL l i
  | [], l', i, h => by have : l' = [] := by simpa using h
                       subst this; rfl
  | x :: r, [], i, h => by simp at h
  | x :: r, x' :: r', i, h => by
    simp only [List.map_cons, List.cons.injEq] at h
    obtain ⟨h1, h2⟩ := h
    unfold cont at h1
    injection h1 with h1 h3; injection h3 with h3 h4
    simp only [bgL, h3, h4, bgL_cont (i + 1) h2]
noncomputable def bgO (l : List Cl) : List Gp := by
  classical exact if BankP l then bgL l 0 else []
theorem bgO_ok {l : List Cl} (h : BankP l) : bgO l = bgL l 0 := by unfold bgO; exact if_pos h
theorem bgO_no {l : List Cl} (h : ¬ BankP l) : bgO l = [] := by unfold bgO; exact if_neg h
theorem bgO_cont {l l' : List Cl} (h : l'.map cont = l.map cont) : bgO l' = bgO l := by
  by_cases hb : BankP l
  · rw [bgO_ok hb, bgO_ok ((bankP_cont h).2 hb), bgL_cont 0 h]
  · rw [bgO_no hb, bgO_no (fun g => hb ((bankP_cont h).1 g))]
theorem bgL_len : ∀ (l : List Cl) (i : Int), (∀ x ∈ l, ColOk x.z x.F x.L) → (bgL l i).length ≤ 24 * l.length
  | [], _, _ => by simp [bgL]
  | x :: r, i, h => by
    have h1 := gapsL_len x.F i x.L
    have h2 := (col_sum (h x List.mem_cons_self)).2.2
    have h3 := bgL_len r (i + 1) fun y hy => h y (List.mem_cons_of_mem _ hy)
    simp only [bgL, List.length_append, List.length_cons]; omega
theorem bgO_len (l : List Cl) : (bgO l).length ≤ 144 := by
  by_cases h : BankP l
  · rw [bgO_ok h]; have := bgL_len l 0 h.2.1; have := h.1.2; omega
  · rw [bgO_no h]; simp
theorem bg_take {l : List Cl} (h : BankP l) (k : Nat) : (bgL (l.take k) 0).length ≤ 144 := by
  have h1 := bgL_len (l.take k) 0 fun x hx => h.2.1 x (List.mem_of_mem_take hx)
  have h2 := h.1.2
  have : (l.take k).length ≤ 6 := by simp; omega
  omega
/-- the gaps of a column are those of the bank but for the number -/
theorem gapsC_num (F : List Int) (c c' : Int) : ∀ (L : List Bx) (cur : Option Gp), gapsC F c' (cur.map fun g => ⟨c', g.low, g.size⟩) L = (gapsC F c cur L).map fun g => ⟨c', g.low, g.size⟩
  | [], cur => by cases cur <;> simp [gapsC]
  | x :: r, cur => by
    by_cases h : opn x = true
    · rcases cur with _ | g
      · rw [gapsC_new h, Option.map_none, gapsC_new h]; exact gapsC_num F c c' r (some ⟨c, x.low, x.size⟩)
      · by_cases hw : F.contains x.low = true
        · rw [gapsC_wall h hw, Option.map_some, gapsC_wall h hw, List.map_cons]; congr 1; exact gapsC_num F c c' r (some ⟨c, x.low, x.size⟩)
        · have hw' : F.contains x.low = false := by simpa using hw
          rw [gapsC_more h hw', Option.map_some, gapsC_more h hw']; exact gapsC_num F c c' r (some ⟨g.col, g.low, g.size + x.size⟩)
    · have h' : opn x = false := by simpa using h
      rw [gapsC_shut h', gapsC_shut h', List.map_append, ← gapsC_num F c c' r none]
      cases cur <;> simp
theorem gapsL_num (F : List Int) (c c' : Int) (L : List Bx) : gapsL F c' L = (gapsL F c L).map fun g => ⟨c', g.low, g.size⟩ := gapsC_num F c c' L none
theorem gp_news {w : World} {B : Nat} {a : Addr} {l : List Gp} (h : gpL w B (some a) l) : ∀ (j : Nat) (u : Value), (gpV l)[j]? = some u → w.cell? (a.add j) = some u := by
  intro j u hu
  have hj : j < 3 * l.length := by have := (List.getElem?_eq_some_iff.1 hu).1; rwa [gpV_len] at this
  obtain ⟨q, r, rfl, hr⟩ : ∃ q r, j = q * 3 + r ∧ r < 3 := ⟨j / 3, j % 3, by omega, by omega⟩
  have hq : q < l.length := by omega
  have hx := List.getElem?_eq_getElem hq
  have h1 := gpV_at hx
  rcases h with h | ⟨b, off, e, _, hc⟩
  · rw [h] at hq; simp at hq
  · injection e with e; subst e
    have h2 := hc q _ hx
    rw [addrK]
    rcases r with _ | _ | _ | r
    · rw [Nat.add_zero] at hu ⊢; rw [h1.1] at hu; rw [← hu]; exact h2.1
    · rw [h1.2.1] at hu; rw [← hu, ← Nat.add_assoc]; exact h2.2.1
    · rw [h1.2.2] at hu; rw [← hu, ← Nat.add_assoc]; exact h2.2.2
    · omega
theorem gp_src {w : World} {B : Nat} {A : Option Addr} {l : List Gp} (h : gpL w B A l) : Src w A l.length 3 (gpV l) := by
  refine ⟨by rw [gpV_len]; omega, fun u hu => ?_, fun e => ?_, fun ad e => by subst e; exact gp_news h⟩
  · obtain ⟨x, _, hx⟩ := List.mem_flatMap.1 hu
    simp [gpC] at hx
    rcases hx with rfl | rfl | rfl <;> rfl
  · subst e
    rcases h with h | ⟨b, off, e, _⟩
    · rw [h]; rfl
    · cases e

set_option maxRecDepth 100000 in
set_option maxHeartbeats 2000000 in
theorem bgI_any (w : World) (B : Nat) (A : Option Addr) (n c : Nat) (l : List Cl) (hn : n = l.length) (hl : l.length ≤ maxLen) (hB : B ≤ w.heap.size) (hS : KL w B A l) (hV : ∀ x ∈ l, CV w B x) :
    Calls Try.prog 13 #[.slice A n c] w (GapAns (bgO l) w) := by
  subst hn
  obtain ⟨j0, hj0, hy0, hy1, hy2⟩ := info_parts gpInfo
  have hl' := hl
  unfold maxLen at hl
  have HS := Lib.hid hS; have HV := Lib.hid hV; clear hS hV
  go_enter Try.func13, Try.ntmps13
  go_wp2_with fail
  generalize hW1 : w.alloc (.cells #[] 28) = w1
  have b1 : Below w.heap.size w w1 := by rw [← hW1]; exact balloc _ _
  have own1 : w1.ownsRow w.heap.size 28 3 (.slice (some ⟨w.heap.size, 0, none⟩) 0 0) 0 [] := by rw [← hW1]; exact owns_new _ _ _ _ (Nat.le_refl _)
  clear hW1
  have OW1 := Lib.hid own1; clear own1
  have hz1 := b1.size
  refine (bankI_any w1 B A l.length c l rfl hl' (by omega) (HS.out.later hB b1) (fun x hx => (HV.out x hx).later hB b1)).mono ?_
  rintro e w2 ⟨q, rfl, hq, hb2⟩
  have hz2 := hb2.size
  have OW2 := Lib.hid (own_callG OW1.out hb2); have C2 := Lib.hid (bthen b1 hb2); have HQ := Lib.hid hq; clear hq hb2 b1
  cases q
  · have hne : ¬ BankP l := fun g => by have := HQ.out.2 g; simp at this
    have HNE := Lib.hid hne; clear hne
    go_wp2_with fail
    go_ret
    rw [bgO_no HNE.out]
    exact ⟨_, _, rfl, .inl rfl, C2.out⟩
  · have hok := HQ.out.1 rfl
    have HOK := Lib.hid hok; clear hok HQ
    have hgo := bgO_ok HOK.out
    have HGO := Lib.hid hgo; clear hgo
    go_wp2_with fail
    go_loopw [3, 13] (fun gv i wr => ∃ (k : Nat) (A' : Option Addr) (c' : Nat) (D : List Gp), k ≤ l.length ∧ i = .int .i64 k ∧ D = bgL (l.take k) 0 ∧ gv = .slice A' D.length c' ∧ wr.ownsRow w.heap.size 28 3 (.slice A' D.length c') D.length (gpV D) ∧ Below w.heap.size w wr) (fun _ i _ => l.length - (intOf i).toNat)
    case atStart => exact ⟨0, _, _, [], Nat.zero_le _, rfl, rfl, rfl, OW2.out, C2.out⟩
    case round =>
      obtain ⟨k, A', c', D, hk, rfl, hD, rfl, how, hb⟩ := hrel
      have hDl : D.length ≤ 144 := by rw [hD]; exact bg_take HOK.out k
      have hsz := hb.size
      have HD := Lib.hid hD; have HOW := Lib.hid how; have HBB := Lib.hid hb; clear hD how
      by_cases hlt : k < l.length
      · obtain ⟨b, off, x, rfl, hbB, hx, hc0, hc1, hc2⟩ := (HS.out.later hB hb).at_ hlt
        have hv := (HV.out x (List.mem_of_getElem? hx)).later hB hb
        have hcok := HOK.out.2.1 x (List.mem_of_getElem? hx)
        have hsu := bgL_succ hx
        have hgl := gapsL_len x.F k x.L
        have hxl := (col_sum hcok).2.2
        have HVX := Lib.hid hv; have HCO := Lib.hid hcok; have HSU := Lib.hid hsu; clear hx hv hcok hsu hb
        have hbw : b < wr.heap.size := by omega
        go_wp2_with fail
        generalize hX : wr.alloc (.cells #[.int .i64 x.z, .slice x.AF x.F.length x.cF, .slice x.AB x.L.length x.cB] 57) = w3
        have b3 : Below wr.heap.size wr w3 := by rw [← hX]; exact balloc _ _
        clear hX hc0 hc1 hc2
        have hz3 := b3.size
        refine (gapsIn_any w3 B x k (by omega) (HVX.out.later (by omega) b3) HCO.out).mono ?_
        rintro e w4 ⟨A4, c4, rfl, hor, hb4⟩
        have hz4 := hb4.size
        have OW4 := Lib.hid (own_callG (own_callG HOW.out b3) hb4); have HB4 := Lib.hid (HBB.out.trans ((b3.mono hsz).trans (hb4.mono (by omega)))); have HG4 := Lib.hid (gp_src hor.gp); clear hor hb4 b3
        have hDl2 : D.length + (gapsL x.F k x.L).length ≤ 1000 := by omega
        generalize hgs : gapsL x.F (k : Int) x.L = gs at *
        have HGS := Lib.hid hgs; clear hgs
        go_wp2_with (at_builtin; go_must (refine list_app rfl _ _ 35 rfl w.heap.size 28 j0 (.agg #[.int .i64 0, .int .i64 0, .int .i64 0]) 3 24 Try.underlying35 hj0 hy0 hy1 hy2 rfl (by decide) _ D.length _ rfl OW4.out A4 gs.length c4 (gpV gs) rfl HG4.out (by unfold maxLen; omega) (by omega) (by omega) ?_))
        intro A5 c5 w5 hown5 hgrow5 hrow5
        have hb5 : Below w.heap.size w w5 := HB4.out.grown hgrow5 (by omega) (fun b hb => (hrow5 b hb).1)
        rw [← gpV_app] at hown5
        obtain ⟨D5, hD5⟩ : ∃ D5, D ++ gs = D5 := ⟨_, rfl⟩
        have hl5 : D.length + gs.length = D5.length := by rw [← hD5]; simp
        rw [hD5] at hown5
        rw [hl5] at hown5 ⊢
        have HD5 := Lib.hid hD5; have OW5 := Lib.hid hown5; have HB5 := Lib.hid hb5; clear hD5 hl5 hown5 hgrow5 hrow5 hb5
        go_wp2
        go_roundw
        case rel => exact ⟨k + 1, A5, c5, D5, by omega, by go_num, by rw [HSU.out, ← HD.out, HD5.out], rfl, OW5.out, HB5.out⟩
        case measure => simp [intOf]; omega
      · go_wp2
        go_ret
        have hkl : k = l.length := by omega
        have he : bgO l = D := by rw [HGO.out, HD.out, hkl, List.take_length]
        rw [he]
        exact ⟨A', c', rfl, or_of HOW.out, HBB.out⟩
end Go.Proofs.Ythfpjfekemelaaa
namespace Go.Proofs.Ythfpjfekemelaaa
open Go.RowKit
set_option linter.unusedVariables false

set_option maxRecDepth 100000 in
set_option maxHeartbeats 1000000 in
theorem bfitI_any (w : World) (B : Nat) (A : Option Addr) (n c : Nat) (size : Int) (l : List Cl) (hn : n = l.length) (hl : l.length ≤ maxLen) (hB : B ≤ w.heap.size) (hS : KL w B A l) (hV : ∀ x ∈ l, CV w B x) :
    Calls Try.prog 12 #[.slice A n c, .int .i64 size] w (FitAns (fitV (bgO l) size) w) := by
  subst hn
  have HS := Lib.hid hS; have HV := Lib.hid hV; clear hS hV
  obtain ⟨⟨⟨a, b, d⟩, f⟩, hv⟩ : ∃ v, fitV (bgO l) size = v := ⟨_, rfl⟩
  have HFV := Lib.hid hv; clear hv
  rw [HFV.out]
  go_enter Try.func12, Try.ntmps12
  go_wp2_with fail
  generalize hW0 : w.alloc (.cells #[.int .i64 0, .int .i64 0, .int .i64 0] 28) = w0
  have b0 : Below w.heap.size w w0 := by rw [← hW0]; exact balloc _ _
  have k0 : Has w0 w.heap.size 28 #[.int .i64 0, .int .i64 0, .int .i64 0] := by rw [← hW0]; exact has_new _ _ _
  clear hW0
  have K0 := Lib.hid k0; clear k0
  have hz0 := b0.size
  refine (bgI_any w0 B A l.length c l rfl hl (by omega) (HS.out.later hB b0) (fun x hx => (HV.out x hx).later hB b0)).mono ?_
  rintro e w1 ⟨A', c', rfl, hor, hb1⟩
  have c1 := bthen b0 hb1
  have hz1 := hb1.size
  have HOR := Lib.hid hor.gp; clear hor
  have hgl := bgO_len l
  have k1 := has_call K0.out hb1
  have K1 := Lib.hid k1; clear k1
  go_wp2_with fail
  refine (gapAt_any w1 A' _ c' w1.heap.size (bgO l) size rfl (by unfold maxLen; omega) (Nat.le_refl _) HOR.out).mono ?_
  rintro e w2 ⟨rfl, hb2⟩
  rw [HFV.out]
  have c2 := bthen c1 hb2
  have k2 := has_call K1.out hb2
  have y0 := has_cell k2 0 rfl
  have y1 := has_cell k2 1 rfl
  have y2 := has_cell k2 2 rfl
  have f0 := has_free k2 0
  have f1 := has_free k2 1
  have f2 := has_free k2 2
  have hz2 := c2.size
  have hk2 := has_lt k2
  have X1 := Lib.hid (set3 (u := .int .i64 a) (v := .int .i64 b) (x := .int .i64 d) k2)
  have FIN := Lib.hid (show Below w.heap.size w (((w2.setCell ⟨w.heap.size, 0, none⟩ (.int .i64 a)).setCell ⟨w.heap.size, 1, none⟩ (.int .i64 b)).setCell ⟨w.heap.size, 2, none⟩ (.int .i64 d)) from ((c2.setCell (Nat.le_refl _) _).setCell (Nat.le_refl _) _).setCell (Nat.le_refl _) _)
  clear k2
  go_wp2_with fail
  have g0 := has_cell X1.out 0 rfl
  have g1 := has_cell X1.out 1 rfl
  have g2 := has_cell X1.out 2 rfl
  exact bodyPost_ret (v := .tuple #[.agg #[.int .i64 a, .int .i64 b, .int .i64 d], .bool f]) (by simp [results, Try.results12, go_sem, g0, g1, g2]) rfl ⟨rfl, FIN.out⟩

/-- how many boxes of a size the gaps take -/
def sumQ (size : Int) (G : List Gp) : Int := (G.map fun g => g.size / size).sum
def mostV (size : Int) (G : List Gp) : Int := if size < 1 then 0 else sumQ size G
theorem sumQ_succ {size : Int} {G : List Gp} {k : Nat} {g : Gp} (h : G[k]? = some g) : sumQ size (G.take (k + 1)) = sumQ size (G.take k) + g.size / size := by
  unfold sumQ; rw [List.take_add_one, h]; simp
theorem bgL_bd : ∀ (l : List Cl) (i : Int), (∀ x ∈ l, ColOk x.z x.F x.L) → ∀ g ∈ bgL l i, 0 ≤ g.low ∧ g.low ≤ 24 ∧ 1 ≤ g.size ∧ g.size ≤ 24
  | [], _, _, g, hg => by simp [bgL] at hg
  | x :: r, i, h, g, hg => by
    have hok := h x List.mem_cons_self
    simp only [bgL, List.mem_append] at hg
    rcases hg with hg | hg
    · rw [gapsL_num x.F 0 i x.L] at hg
      obtain ⟨g', hg', rfl⟩ := List.mem_map.1 hg
      exact gapsO_bd (z := x.z) g' (by rw [gapsO_ok hok]; exact hg')
    · exact bgL_bd r (i + 1) (fun y hy => h y (List.mem_cons_of_mem _ hy)) g hg
theorem bgO_bd {l : List Cl} : ∀ g ∈ bgO l, 0 ≤ g.low ∧ g.low ≤ 24 ∧ 1 ≤ g.size ∧ g.size ≤ 24 := fun g hg => by
  by_cases h : BankP l
  · rw [bgO_ok h] at hg; exact bgL_bd l 0 h.2.1 g hg
  · rw [bgO_no h] at hg; cases hg
theorem quo_bd {a size : Int} (h1 : 1 ≤ size) (h2 : 0 ≤ a) : 0 ≤ a / size ∧ a / size ≤ a := ⟨Int.ediv_nonneg h2 (by omega), Int.ediv_le_self _ h2⟩
theorem sumQ_bd {size : Int} (hs : 1 ≤ size) {G : List Gp} (hb : ∀ g ∈ G, 1 ≤ g.size ∧ g.size ≤ 24) : ∀ k, k ≤ G.length → 0 ≤ sumQ size (G.take k) ∧ sumQ size (G.take k) ≤ 24 * k
  | 0, _ => by simp [sumQ]
  | k + 1, hk => by
    have h := List.getElem?_eq_getElem (l := G) (i := k) (by omega)
    have ih := sumQ_bd hs hb k (by omega)
    have hg := hb _ (List.mem_of_getElem? h)
    have hq := quo_bd hs (a := (G[k]'(by omega)).size) (by omega)
    rw [sumQ_succ h]
    push_cast; omega

set_option maxRecDepth 100000 in
set_option maxHeartbeats 1000000 in
theorem mostI_any (w : World) (B : Nat) (A : Option Addr) (n c : Nat) (size : Int) (l : List Cl) (hn : n = l.length) (hl : l.length ≤ maxLen) (hB : B ≤ w.heap.size) (hS : KL w B A l) (hV : ∀ x ∈ l, CV w B x) :
    Calls Try.prog 20 #[.slice A n c, .int .i64 size] w fun e w' => e = .returned (.int .i64 (mostV size (bgO l))) ∧ Below w.heap.size w w' := by
  subst hn
  have HS := Lib.hid hS; have HV := Lib.hid hV; clear hS hV
  by_cases hs : size < 1
  · have t1 : decide (size < 1) = true := by simpa using hs
    have hm : mostV size (bgO l) = 0 := if_pos hs
    rw [hm]; clear hm
    go_enter Try.func20, Try.ntmps20
    go_wp2_with fail
    go_ret
    exact ⟨rfl, Below.refl _ _⟩
  · have t1 : decide (size < 1) = false := by simpa using hs
    have hm : mostV size (bgO l) = sumQ size (bgO l) := if_neg hs
    rw [hm]; clear hm
    have hbd := fun g hg => bgO_bd (l := l) g hg
    have hgl := bgO_len l
    obtain ⟨G, hG⟩ : ∃ G, bgO l = G := ⟨_, rfl⟩
    rw [hG] at hbd hgl ⊢
    have HBD := Lib.hid hbd; have HG := Lib.hid hG; clear hbd hG
    go_enter Try.func20, Try.ntmps20
    go_wp2_with fail
    refine (bgI_any w B A l.length c l rfl hl hB HS.out HV.out).mono ?_
    rintro e w1 hans
    rw [HG.out] at hans
    obtain ⟨A', c', rfl, hor, hb1⟩ := hans
    have HOR := Lib.hid hor.gp; have C1 := Lib.hid hb1; clear hor
    have hz1 := hb1.size
    clear hb1
    go_wp2_with fail
    go_loopw [5, 13] (fun mv i wr => ∃ k : Nat, k ≤ G.length ∧ i = .int .i64 k ∧ mv = .int .i64 (sumQ size (G.take k)) ∧ Below w1.heap.size w1 wr) (fun _ i _ => G.length - (intOf i).toNat)
    case atStart => exact ⟨0, Nat.zero_le _, rfl, rfl, Below.refl _ _⟩
    case round =>
      obtain ⟨k, hk, rfl, rfl, hb⟩ := hrel
      have hsz := hb.size
      have hsb := sumQ_bd (size := size) (by omega) (fun g hg => (HBD.out g hg).2.2) k hk
      have HBB := Lib.hid hb
      by_cases hlt : k < G.length
      · obtain ⟨b, off, ⟨g0, g1, g2⟩, rfl, hbB, hx, hc0, hc1, hc2⟩ := (HOR.out.later (Nat.le_refl _) hb).at_ hlt
        dsimp only at hc0 hc1 hc2
        have hgb := (HBD.out _ (List.mem_of_getElem? hx)).2.2
        dsimp only at hgb
        have hsu := sumQ_succ (size := size) hx
        dsimp only at hsu
        have hqb := quo_bd (a := g2) (show 1 ≤ size by omega) (by omega)
        have HSU := Lib.hid hsu; clear hsu hx hb
        have hbw : b < wr.heap.size := by omega
        have hq2 : IntKind.i64.wrap (g2.tdiv size) = g2 / size := IntWalk.i64_quo _ _ (by omega)
        have hq0 : (size == 0) = false := by simp; omega
        have hq1 : ¬ size = 0 := by omega
        generalize hsq : sumQ size (G.take k) = sq at *
        have HSQ := Lib.hid hsq; clear hsq
        obtain ⟨hgb1, hgb2⟩ := hgb; obtain ⟨hqb1, hqb2⟩ := hqb; obtain ⟨hsb1, hsb2⟩ := hsb
        generalize hqq : g2 / size = q at *
        have HQQ := Lib.hid hqq; clear hqq
        go_wp2
        go_roundw
        case rel => exact ⟨k + 1, by omega, by go_num, by rw [HSU.out], HBB.out.alloc hsz _⟩
        case measure => simp [intOf]; omega
      · go_wp2
        go_ret
        have hkl : k = G.length := by omega
        refine ⟨ret_int (by rw [hkl, List.take_length]), C1.out.trans (HBB.out.mono hz1)⟩
end Go.Proofs.Ythfpjfekemelaaa
