/- Chapter 2: gaps of banks: the plain facts; the program's BankGaps, BankFit, MostOf. -/
import Derived.Test.YtpoiebebnpelhaaGapE
import Derived.Test.YtpoiebebnpelhaaGapN
import Derived.Test.YtpoiebebnpelhaaBnkB
namespace Go.Proofs.Ytpoiebebnpelhaa
open Go.RowKit
set_option linter.unusedVariables false

/-- the gaps of the columns of a bank, from a number on -/
def bgL : List Cl → Int → List Gp
  | [], _ => []
  | x :: r, i => gapsL x.F i x.L ++ bgL r (i + 1)
theorem bgL_snoc : ∀ (l : List Cl) (i : Int) (x : Cl), bgL (l ++ [x]) i = bgL l i ++ gapsL x.F (i + l.length) x.L
  | [], i, x => by simp [bgL]
  | y :: r, i, x => by simp only [List.cons_append, bgL, bgL_snoc r, List.append_assoc, List.length_cons]; congr 3; push_cast; omega
theorem bgL_succ {l : List Cl} {k : Nat} {x : Cl} (h : l[k]? = some x) : bgL (l.take (k + 1)) 0 = bgL (l.take k) 0 ++ gapsL x.F k x.L := by
  rw [List.take_add_one, h]
  have hk : k < l.length := (List.getElem?_eq_some_iff.1 h).1
  have : (l.take k).length = k := by simp; omega
  simp only [Option.toList_some, bgL_snoc, this, Int.zero_add]
theorem bgL_cont : ∀ {l l' : List Cl} (i : Int), l'.map cont = l.map cont → bgL l' i = bgL l i
  | [], l', i, h => by have : l' = [] := by simpa using h
                       subst this; rfl
  | x :: r, [], i, h => by simp at h
  | x :: r, x' :: r', i, h => by
    simp only [List.map_cons, List.cons.injEq] at h
    obtain ⟨h1, h2⟩ := h
    unfold cont at h1
    injection h1 with h1 h3; injection h3 with h3 h4
    simp only [bgL, h3, h4, bgL_cont (i + 1) h2]
noncomputable def bgO (l : List Cl) : List Gp := by
  classical exact if BankP l then bgL l 0 else []
theorem bgO_ok {l : List Cl} (h : BankP l) : bgO l = bgL l 0 := by unfold bgO; exact if_pos h
theorem bgO_no {l : List Cl} (h : ¬ BankP l) : bgO l = [] := by unfold bgO; exact if_neg h
theorem bgO_cont {l l' : List Cl} (h : l'.map cont = l.map cont) : bgO l' = bgO l := by
  by_cases hb : BankP l
  · rw [bgO_ok hb, bgO_ok ((bankP_cont h).2 hb), bgL_cont 0 h]
  · rw [bgO_no hb, bgO_no (fun g => hb ((bankP_cont h).1 g))]
theorem bgL_len : ∀ (l : List Cl) (i : Int), (∀ x ∈ l, ColOk x.z x.F x.L) → (bgL l i).length ≤ 24 * l.length
  | [], _, _ => by simp [bgL]
  | x :: r, i, h => by
    have h1 := gapsL_len x.F i x.L
    have h2 := (col_sum (h x List.mem_cons_self)).2.2
    have h3 := bgL_len r (i + 1) fun y hy => h y (List.mem_cons_of_mem _ hy)
    simp only [bgL, List.length_append, List.length_cons]; omega
theorem bgO_len (l : List Cl) : (bgO l).length ≤ 144 := by
  by_cases h : BankP l
  · rw [bgO_ok h]; have := bgL_len l 0 h.2.1; have := h.1.2; omega
  · rw [bgO_no h]; simp
theorem bg_take {l : List Cl} (h : BankP l) (k : Nat) : (bgL (l.take k) 0).length ≤ 144 := by
  have h1 := bgL_len (l.take k) 0 fun x hx => h.2.1 x (List.mem_of_mem_take hx)
  have h2 := h.1.2
  have : (l.take k).length ≤ 6 := by simp; omega
  omega
/-- the gaps of a column are those of the bank but for the number -/
theorem gapsC_num (F : List Int) (c c' : Int) : ∀ (L : List Bx) (cur : Option Gp), gapsC F c' (cur.map fun g => ⟨c', g.low, g.size⟩) L = (gapsC F c cur L).map fun g => ⟨c', g.low, g.size⟩
  | [], cur => by cases cur <;> simp [gapsC]
  | x :: r, cur => by
    by_cases h : opn x = true
    · rcases cur with _ | g
      · rw [gapsC_new h, Option.map_none, gapsC_new h]; exact gapsC_num F c c' r (some ⟨c, x.low, x.size⟩)
      · by_cases hw : F.contains x.low = true
        · rw [gapsC_wall h hw, Option.map_some, gapsC_wall h hw, List.map_cons]; congr 1; exact gapsC_num F c c' r (some ⟨c, x.low, x.size⟩)
        · have hw' : F.contains x.low = false := by simpa using hw
          rw [gapsC_more h hw', Option.map_some, gapsC_more h hw']; exact gapsC_num F c c' r (some ⟨g.col, g.low, g.size + x.size⟩)
    · have h' : opn x = false := by simpa using h
      rw [gapsC_shut h', gapsC_shut h', List.map_append, ← gapsC_num F c c' r none]
      cases cur <;> simp
theorem gapsL_num (F : List Int) (c c' : Int) (L : List Bx) : gapsL F c' L = (gapsL F c L).map fun g => ⟨c', g.low, g.size⟩ := gapsC_num F c c' L none
theorem gp_news {w : World} {B : Nat} {a : Addr} {l : List Gp} (h : gpL w B (some a) l) : ∀ (j : Nat) (u : Value), (gpV l)[j]? = some u → w.cell? (a.add j) = some u := by
  intro j u hu
  have hj : j < 3 * l.length := by have := (List.getElem?_eq_some_iff.1 hu).1; rwa [gpV_len] at this
  obtain ⟨q, r, rfl, hr⟩ : ∃ q r, j = q * 3 + r ∧ r < 3 := ⟨j / 3, j % 3, by omega, by omega⟩
  have hq : q < l.length := by omega
  have hx := List.getElem?_eq_getElem hq
  have h1 := gpV_at hx
  rcases h with h | ⟨b, off, e, _, hc⟩
  · rw [h] at hq; simp at hq
  · injection e with e; subst e
    have h2 := hc q _ hx
    rw [addrK]
    rcases r with _ | _ | _ | r
    · rw [Nat.add_zero] at hu ⊢; rw [h1.1] at hu; rw [← hu]; exact h2.1
    · rw [h1.2.1] at hu; rw [← hu, ← Nat.add_assoc]; exact h2.2.1
    · rw [h1.2.2] at hu; rw [← hu, ← Nat.add_assoc]; exact h2.2.2
    · omega
theorem gp_src {w : World} {B : Nat} {A : Option Addr} {l : List Gp} (h : gpL w B A l) : Src w A l.length 3 (gpV l) := by
  refine ⟨by rw [gpV_len]; omega, fun u hu => ?_, fun e => ?_, fun ad e => by subst e; exact gp_news h⟩
  · obtain ⟨x, _, hx⟩ := List.mem_flatMap.1 hu
    simp [gpC] at hx
    rcases hx with rfl | rfl | rfl <;> rfl
  · subst e
    rcases h with h | ⟨b, off, e, _⟩
    · rw [h]; rfl
    · cases e

set_option maxRecDepth 100000 in
set_option maxHeartbeats 2000000 in
theorem bgI_any (w : World) (B : Nat) (A : Option Addr) (n c : Nat) (l : List Cl) (hn : n = l.length) (hl : l.length ≤ maxLen) (hB : B ≤ w.heap.size) (hS : KL w B A l) (hV : ∀ x ∈ l, CV w B x) :
    Calls Try.prog 11 #[.slice A n c] w (GapAns (bgO l) w) := by
  subst hn
  obtain ⟨j0, hj0, hy0, hy1, hy2⟩ := info_parts gpInfo
  have hl' := hl
  unfold maxLen at hl
  have HS := Lib.hid hS; have HV := Lib.hid hV; clear hS hV
  go_enter Try.func11, Try.ntmps11
  go_wp2_with fail
  generalize hW1 : w.alloc (.cells #[] 34) = w1
  have b1 : Below w.heap.size w w1 := by rw [← hW1]; exact balloc _ _
  have own1 : w1.ownsRow w.heap.size 34 3 (.slice (some ⟨w.heap.size, 0, none⟩) 0 0) 0 [] := by rw [← hW1]; exact owns_new _ _ _ _ (Nat.le_refl _)
  clear hW1
  have OW1 := Lib.hid own1; clear own1
  have hz1 := b1.size
  refine (bankI_any w1 B A l.length c l rfl hl' (by omega) (HS.out.later hB b1) (fun x hx => (HV.out x hx).later hB b1)).mono ?_
  rintro e w2 ⟨q, rfl, hq, hb2⟩
  have hz2 := hb2.size
  have OW2 := Lib.hid (own_callG OW1.out hb2); have C2 := Lib.hid (bthen b1 hb2); have HQ := Lib.hid hq; clear hq hb2 b1
  cases q
  · have hne : ¬ BankP l := fun g => by have := HQ.out.2 g; simp at this
    have HNE := Lib.hid hne; clear hne
    go_wp2_with fail
    go_ret
    rw [bgO_no HNE.out]
    exact ⟨_, _, rfl, .inl rfl, C2.out⟩
  · have hok := HQ.out.1 rfl
    have HOK := Lib.hid hok; clear hok HQ
    have hgo := bgO_ok HOK.out
    have HGO := Lib.hid hgo; clear hgo
    go_wp2_with fail
    go_loopw [3, 13] (fun gv i wr => ∃ (k : Nat) (A' : Option Addr) (c' : Nat) (D : List Gp), k ≤ l.length ∧ i = .int .i64 k ∧ D = bgL (l.take k) 0 ∧ gv = .slice A' D.length c' ∧ wr.ownsRow w.heap.size 34 3 (.slice A' D.length c') D.length (gpV D) ∧ Below w.heap.size w wr) (fun _ i _ => l.length - (intOf i).toNat)
    case atStart => exact ⟨0, _, _, [], Nat.zero_le _, rfl, rfl, rfl, OW2.out, C2.out⟩
    case round =>
      obtain ⟨k, A', c', D, hk, rfl, hD, rfl, how, hb⟩ := hrel
      have hDl : D.length ≤ 144 := by rw [hD]; exact bg_take HOK.out k
      have hsz := hb.size
      have HD := Lib.hid hD; have HOW := Lib.hid how; have HBB := Lib.hid hb; clear hD how
      by_cases hlt : k < l.length
      · obtain ⟨b, off, x, rfl, hbB, hx, hc0, hc1, hc2⟩ := (HS.out.later hB hb).at_ hlt
        have hv := (HV.out x (List.mem_of_getElem? hx)).later hB hb
        have hcok := HOK.out.2.1 x (List.mem_of_getElem? hx)
        have hsu := bgL_succ hx
        have hgl := gapsL_len x.F k x.L
        have hxl := (col_sum hcok).2.2
        have HVX := Lib.hid hv; have HCO := Lib.hid hcok; have HSU := Lib.hid hsu; clear hx hv hcok hsu hb
        have hbw : b < wr.heap.size := by omega
        go_wp2_with fail
        generalize hX : wr.alloc (.cells #[.int .i64 x.z, .slice x.AF x.F.length x.cF, .slice x.AB x.L.length x.cB] 53) = w3
        have b3 : Below wr.heap.size wr w3 := by rw [← hX]; exact balloc _ _
        clear hX hc0 hc1 hc2
        have hz3 := b3.size
        refine (gapsIn_any w3 B x k (by omega) (HVX.out.later (by omega) b3) HCO.out).mono ?_
        rintro e w4 ⟨A4, c4, rfl, hor, hb4⟩
        have hz4 := hb4.size
        have OW4 := Lib.hid (own_callG (own_callG HOW.out b3) hb4); have HB4 := Lib.hid (HBB.out.trans ((b3.mono hsz).trans (hb4.mono (by omega)))); have HG4 := Lib.hid (gp_src hor.gp); clear hor hb4 b3
        have hDl2 : D.length + (gapsL x.F k x.L).length ≤ 1000 := by omega
        generalize hgs : gapsL x.F (k : Int) x.L = gs at *
        have HGS := Lib.hid hgs; clear hgs
        go_wp2_with (at_builtin; go_must (refine list_app rfl _ _ 24 rfl w.heap.size 34 j0 (.agg #[.int .i64 0, .int .i64 0, .int .i64 0]) 3 24 Try.underlying24 hj0 hy0 hy1 hy2 rfl (by decide) _ D.length _ rfl OW4.out A4 gs.length c4 (gpV gs) rfl HG4.out (by unfold maxLen; omega) (by omega) (by omega) ?_))
        intro A5 c5 w5 hown5 hgrow5 hrow5
        have hb5 : Below w.heap.size w w5 := HB4.out.grown hgrow5 (by omega) (fun b hb => (hrow5 b hb).1)
        rw [← gpV_app] at hown5
        obtain ⟨D5, hD5⟩ : ∃ D5, D ++ gs = D5 := ⟨_, rfl⟩
        have hl5 : D.length + gs.length = D5.length := by rw [← hD5]; simp
        rw [hD5] at hown5
        rw [hl5] at hown5 ⊢
        have HD5 := Lib.hid hD5; have OW5 := Lib.hid hown5; have HB5 := Lib.hid hb5; clear hD5 hl5 hown5 hgrow5 hrow5 hb5
        go_wp2
        go_roundw
        case rel => exact ⟨k + 1, A5, c5, D5, by omega, by go_num, by rw [HSU.out, ← HD.out, HD5.out], rfl, OW5.out, HB5.out⟩
        case measure => simp [intOf]; omega
      · go_wp2
        go_ret
        have hkl : k = l.length := by omega
        have he : bgO l = D := by rw [HGO.out, HD.out, hkl, List.take_length]
        rw [he]
        exact ⟨A', c', rfl, or_of HOW.out, HBB.out⟩
end Go.Proofs.Ytpoiebebnpelhaa
