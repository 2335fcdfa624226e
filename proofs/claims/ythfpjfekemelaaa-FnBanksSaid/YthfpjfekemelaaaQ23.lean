/- Chapter 2: a bank that may be anything (gen_ddb.py). -/
import Derived.Test.YthfpjfekemelaaaQ22
import Derived.Test.YthfpjfekemelaaaQ02
import Derived.Deep.RegionHeld3
import Derived.Deep.DeepMust
import Derived.Test.YthfpjfekemelaaaQ20
import Derived.Deep.DeepCutAuto
import Derived.RegionTactic
namespace Go.Proofs.Ythfpjfekemelaaa
open Go.RowKit
set_option linter.unusedVariables false
theorem own3_set {w : World} {base : Nat} {A : Option Addr} {l : List Cl} {n : Nat} (h : w.ownsRow base 57 3 (.slice A l.length n) l.length (colV l)) (hk : 0 < l.length) (x : Cl) :
    ∃ (b : Nat) (cur : Array Value), A = some ⟨b, 0, none⟩ ∧ base ≤ b ∧ Has w b 57 cur ∧ 3 ≤ cur.size ∧ (((w.setCell ⟨b, 0, none⟩ (.int .i64 x.z)).setCell ⟨b, 1, none⟩ (.slice x.AF x.F.length x.cF)).setCell ⟨b, 2, none⟩ (.slice x.AB x.L.length x.cB)).ownsRow base 57 3 (.slice A l.length n) l.length (colV (l.set 0 x)) := by
  obtain ⟨h1, ⟨h2, h3⟩ | ⟨b, cap, cur, hv, hb, hh, h4, h5, h6, h7⟩⟩ := h
  · omega
  · injection hv with hA _ hn
    subst hA; subst hn
    refine ⟨b, cur, rfl, hb, hh, by omega, by rw [colV_len, List.length_set]; omega, .inr ⟨b, n, _, rfl, hb, has_set (has_set (has_set hh 0 (.int .i64 x.z)) 1 (.slice x.AF x.F.length x.cF)) 2 (.slice x.AB x.L.length x.cB), h4, h5, by simp [h6], ?_⟩⟩
    have := colV_set hk x
    rw [Nat.zero_mul, Nat.zero_add, Nat.zero_add, ← h7] at this
    rw [this]
    simp only [Array.toList_setIfInBounds, List.take_set]
def lenK : Value → Nat
  | .slice _ n _ => n
  | _ => 0
def AnyK (l : List Cl) : Prop := l.length ≤ 7 ∧ ∀ x ∈ l, x.F.length ≤ 2 ∧ x.L.length ≤ 24
theorem bankD_any_ {l : List Cl} (h : BankD l) : AnyK l := ⟨by have := h.1.2; omega, fun x hx => by
  obtain ⟨k, hk⟩ := List.getElem?_of_mem hx
  have h1 := h.2 k x hk
  have := cvd_len h1
  have := h1.2.1
  omega⟩
theorem anyK_snoc {l : List Cl} {x : Cl} (h : AnyK l) (hl : l.length < 7) (hx : x.F.length ≤ 2 ∧ x.L.length ≤ 24) : AnyK (l ++ [x]) := ⟨by simp; omega, fun y hy => by
  rcases List.mem_append.1 hy with hy | hy
  · exact h.2 y hy
  · simp at hy; subst hy; exact hx⟩
theorem anyK_small {l : List Cl} (h : AnyK l) : SmallK l := fun x hx => by have := h.2 x hx; omega
theorem OwnK.set3 {w : World} {base k : Nat} {cur : Array Value} {l : List Cl} {x : Cl} (h : OwnK w base l) (h1 : OQ x.cF w base 3 x.AF (intV x.F)) (h2 : OR w base 65 x.AB (boxV x.L)) (hh : Has w k 57 cur) (u v y : Value) : OwnK (((w.setCell ⟨k, 0, none⟩ u).setCell ⟨k, 1, none⟩ v).setCell ⟨k, 2, none⟩ y) base (l.set 0 x) := fun a ha => by
  have key : OQ a.cF w base 3 a.AF (intV a.F) ∧ OR w base 65 a.AB (boxV a.L) := by
    rcases List.mem_or_eq_of_mem_set ha with ha | rfl
    · exact h a ha
    · exact ⟨h1, h2⟩
  exact ⟨OQ.set_other (OQ.set_other (OQ.set_other key.1 hh (by decide) 0 u) (has_set hh 0 u) (by decide) 1 v) (has_set (has_set hh 0 u) 1 v) (by decide) 2 y, OR.set_other (OR.set_other (OR.set_other key.2 hh (by decide) 0 u) (has_set hh 0 u) (by decide) 1 v) (has_set (has_set hh 0 u) 1 v) (by decide) 2 y⟩
theorem new3_len {z : Int} {F' : List Int} {L : List Bx} {b : Bool} (h : newR 3 [] z F' L b) : F'.length ≤ 2 ∧ L.length ≤ 24 := by
  have := cvd_len (colV_new (first := 1) (fix_none (by omega) (by omega)) (by simp) h)
  have := (colV_new (first := 1) (fix_none (by omega) (by omega)) (by simp) h).2.1
  omega

set_option maxRecDepth 100000 in
set_option maxHeartbeats 8000000 in
theorem anyK_any (w : World) (B g : Nat) (hC : Cur w B g) : Calls Try.prog 24 #[.pointer (some ⟨g, 0, none⟩)] w (DrawnBank AnyK w B g) := by
  have hlt := hC.lt; obtain ⟨hB, hg⟩ := hlt
  obtain ⟨j0, hj0, hy0, hy1, hy2⟩ := info_parts colInfo
  have HJ0 := Lib.hid hj0; have HY0 := Lib.hid hy0; have HY1 := Lib.hid hy1; have HY2 := Lib.hid hy2; clear hj0 hy0 hy1 hy2
  have HC := Lib.hid hC; clear hC
  go_enter Try.func24, Try.ntmps24
  go_wp2_with fail
  refine (bankD_any w B g HC.out).mono ?_
  rintro e w1 ⟨l, A, c, rfl, hD, how, hok, hC9, hO9⟩
  clear HC; have HC := Lib.hid hC9; have HO := Lib.hid hO9; have OW := Lib.hid how; have OK := Lib.hid hok; have hz1 := hO9.size; clear hC9 hO9 how hok
  have hl1 := hD.1.1; have hl3 := hD.1.2; have AN := Lib.hid (bankD_any_ hD); clear hD
  go_wp2_with fail
  refine (below_any w1 B g 14 (by omega) (by omega) HC.out).mono ?_
  rintro e w2 ⟨x0, hx00, hx01, rfl, hC9, hO9⟩
  have kk := own3_only OW.out hO9 hg; clear OW; have OW := Lib.hid kk; clear kk
  have kk := OK.out.only hO9 hg; clear OK; have OK := Lib.hid kk; clear kk
  have kk := only_trans HO.out hO9; clear HO; have HO := Lib.hid kk; clear kk
  clear HC; have HC := Lib.hid hC9; clear hC9
  have hz2 := hO9.size; clear hO9
  have hcs : x0 = 0 ∨ x0 = 1 ∨ x0 = 2 ∨ x0 = 3 ∨ 4 ≤ x0 := by omega
  rcases hcs with rfl | rfl | rfl | rfl | hcs
  · skip
    have HAC := Lib.hid (fun W (h : Cur W B g) => anyC_any W B g h)
    have hl0 : (0 : Int) < (l.length : Int) := by omega
    obtain ⟨b, cur0, rfl, hbb, hhb, hcz, _⟩ := own3_set OW.out (show 0 < l.length by omega) ⟨0, none, [], 0, none, [], 0⟩
    clear hhb hcz cur0
    go_wp2_with fail
    refine (HAC.out w2 HC.out).mono ?_
    rintro e w3 ⟨z, F, L, A1, A2, n1, n2, rfl, hV, or1, or2, hC9, hO9⟩; have hz3 := hO9.size; have ow3 := own3_only OW.out hO9 hg; have ok3 := OwnK.only OK.out hO9 hg; have ho3 := only_trans HO.out hO9; have RF := Lib.hid (or1.more (show w.heap.size ≤ w2.heap.size by omega)); have RL := Lib.hid (or2.more (show w.heap.size ≤ w2.heap.size by omega)); obtain ⟨b9, cu9, hb9, hbb3, hhb3, hcz3, hst3⟩ := own3_set ow3 (show 0 < l.length by omega) ⟨z, A1, F, n1, A2, L, n2⟩; injection hb9 with hb9; injection hb9 with hb9; subst hb9; obtain ⟨u0, hu0⟩ : ∃ u, w3.cell? ⟨b, 0, none⟩ = some u := ⟨_, (cell_of_row w3 b 0 _ _ (0, 0) hhb3).trans (Array.getElem?_eq_getElem (by omega))⟩; obtain ⟨u1, hu1⟩ : ∃ u, w3.cell? ⟨b, 1, none⟩ = some u := ⟨_, (cell_of_row w3 b 1 _ _ (0, 0) hhb3).trans (Array.getElem?_eq_getElem (by omega))⟩; obtain ⟨u2, hu2⟩ : ∃ u, w3.cell? ⟨b, 2, none⟩ = some u := ⟨_, (cell_of_row w3 b 2 _ _ (0, 0) hhb3).trans (Array.getElem?_eq_getElem (by omega))⟩; have f0 := has_free hhb3 0; have f1 := has_free hhb3 1; have f2 := has_free hhb3 2; have hl3b := has_lt hhb3; have OW3 := Lib.hid hst3; have HH3 := Lib.hid hhb3; have OK3 := Lib.hid (OwnK.set3 (x := ⟨z, A1, F, n1, A2, L, n2⟩) ok3 RF.out RL.out hhb3 (.int .i64 z) (.slice A1 F.length n1) (.slice A2 L.length n2)); have HV := Lib.hid hV; have HC3 := Lib.hid hC9; have HO3 := Lib.hid ho3; clear hC9 hO9 ow3 ok3 ho3 or1 or2 hst3 hhb3 hV hcz3
    go_wp2_with fail
    go_ret
    have hbg : b ≠ g := by omega
    exact ⟨l.set 0 ⟨z, A1, F, n1, A2, L, n2⟩, some ⟨b, 0, none⟩, c, by simp, ⟨by rw [List.length_set]; omega, fun y hy => by rcases List.mem_or_eq_of_mem_set hy with hy | rfl; exact AN.out.2 y hy; exact HV.out⟩, by rw [List.length_set]; exact OW3.out, OK3.out, cur3 HC3.out (by omega) (by omega) _ _ _, only3 HO3.out (by omega) _ _ _⟩
  · skip
    obtain ⟨b, off, x, rfl, hbB, hx, hc0, hc1, hc2⟩ := (own3_kl OW.out).at_ (show 0 < l.length by omega)
    obtain ⟨hq1, hq2⟩ := OK.out x (List.mem_of_getElem? hx)
    have hsx := AN.out.2 x (List.mem_of_getElem? hx)
    have RF := Lib.hid hq1; have RL := Lib.hid hq2; clear hq1 hq2 hx
    simp only [Nat.zero_mul, Nat.add_zero] at hc0 hc1 hc2
    generalize hW5 : w2.alloc (.cells #[.int .i64 x.z, .slice x.AF x.F.length x.cF, .slice x.AB x.L.length x.cB] 57) = w5
    have b5 : Below w2.heap.size w2 w5 := by rw [← hW5]; exact balloc _ _
    have HN5 := Lib.hid (show Has w5 w2.heap.size 57 #[.int .i64 x.z, .slice x.AF x.F.length x.cF, .slice x.AB x.L.length x.cB] by rw [← hW5]; exact has_new _ _ _)
    have HW5 := Lib.hid hW5; clear hW5
    have hz5 := b5.size
    have OW5 := Lib.hid (own_callG OW.out b5)
    have kk := OK.out.below b5; clear OK; have OK := Lib.hid kk; clear kk
    have kk := HC.out.belC b5; clear HC; have HC := Lib.hid kk; clear kk
    have kk := only_trans HO.out (only_belC (g := g) b5); clear HO; have HO := Lib.hid kk; clear kk
    have kk := RF.out.below b5; clear RF; have RF := Lib.hid kk; clear kk
    have kk := RL.out.below b5; clear RL; have RL := Lib.hid kk; clear kk
    clear b5
    go_wp2_with (at_builtin; rw [HW5.out]; go_must (refine list_app rfl _ _ 24 rfl w.heap.size 57 j0 (.agg #[.int .i64 0, .slice none 0 0, .slice none 0 0]) 3 56 Try.underlying24 HJ0.out HY0.out HY1.out HY2.out rfl (by decide) _ l.length _ rfl OW5.out (some ⟨w2.heap.size, 0, none⟩) 1 1 (colC x) rfl (src_cl (x := x) HN5.out) (by unfold maxLen; omega) (by omega) (by omega) ?_))
    intro A6 c6 w6 hown6 hgrow6 hrow6
    have kk := OK.out.grown hgrow6 (fun b hb => (hrow6 b hb).2); clear OK; have OK := Lib.hid kk; clear kk
    have kk := OQ.grown_ RF.out hgrow6 (fun b hb => (hrow6 b hb).2) (by decide); clear RF; have RF := Lib.hid kk; clear kk
    have kk := OR.grown_ RL.out hgrow6 (fun b hb => (hrow6 b hb).2) (by decide); clear RL; have RL := Lib.hid kk; clear kk
    have kk := cur_grown0 HC.out hgrow6 (fun b hb => by have := (hrow6 b hb).1; omega); clear HC; have HC := Lib.hid kk; clear kk
    have kk := only_grown0 HO.out hgrow6 (fun b hb => (hrow6 b hb).1); clear HO; have HO := Lib.hid kk; clear kk
    rw [← colV_snoc] at hown6
    obtain ⟨l6, hl6⟩ : ∃ l6, l ++ [x] = l6 := ⟨_, rfl⟩
    have hll6 : l.length + 1 = l6.length := by rw [← hl6]; simp
    have hok6 := OK.out.snoc (x := x) RF.out RL.out
    have han6 := anyK_snoc (x := x) AN.out (by omega) hsx
    rw [hl6] at hown6 hok6 han6
    rw [hll6] at hown6 ⊢
    clear OW OK AN; have OW := Lib.hid hown6; have OK := Lib.hid hok6; have AN := Lib.hid han6
    clear hown6 hgrow6 hrow6 hok6 han6 RF RL HN5 OW5
    clear hl6 hll6 HW5 hc0 hc1 hc2
    go_wp2_with fail
    go_ret
    exact ⟨_, _, _, rfl, AN.out, OW.out, OK.out, HC.out, HO.out⟩
  · skip
    clear OW OK; have OW := Lib.hid (World.ownsRow_nil w2 w.heap.size 57 3); have OK : Hid (OwnK w2 w.heap.size []) := Lib.hid (fun x hx => by simp at hx)
    go_wp2_with fail
    go_ret
    exact ⟨[], none, 0, rfl, ⟨by simp, fun x hx => by simp at hx⟩, OW.out, OK.out, HC.out, HO.out⟩
  · skip
    go_wp2_with fail
    go_loopw [3] (fun ov wr => ∃ (l : List Cl) (A' : Option Addr) (c' : Nat), ov = .slice A' l.length c' ∧ AnyK l ∧ wr.ownsRow w.heap.size 57 3 (.slice A' l.length c') l.length (colV l) ∧ OwnK wr w.heap.size l ∧ Cur wr B g ∧ Only w g wr) (fun ov _ => 7 - lenK ov)
    case atStart => exact ⟨l, A, c, rfl, AN.out, OW.out, OK.out, HC.out, HO.out⟩
    case round =>
      clear OW OK AN HC HO hl1 hl3
      obtain ⟨l, A', c', rfl, han, how, hok, hC9, hO9⟩ := hrel
      have HC := Lib.hid hC9; have HO := Lib.hid hO9; have OW := Lib.hid how; have OK := Lib.hid hok; have AN := Lib.hid han; have hsw := hO9.size; have hl7 := han.1; clear hC9 hO9 how hok han
      by_cases hlt : l.length < 7
      · have hlt2 : (l.length : Int) < 7 := by omega
        go_wp2_with fail
        refine (newSo_any wr wr.heap.size none 0 3 [] (by simp) (Nat.le_refl _) (.inl rfl)).mono ?_
        rintro e w3 ⟨z, F, L, bq, A1, A2, n1, n2, rfl, hR, hlf, hlb, or1, or2, hb⟩
        have hnl := new3_len hR; clear hR hlf hlb
        have hz3 := hb.size
        have OW5 := Lib.hid (own_callG OW.out hb)
        have kk := OK.out.below hb; clear OK; have OK := Lib.hid kk; clear kk
        have kk := HC.out.belC hb; clear HC; have HC := Lib.hid kk; clear kk
        have kk := only_trans HO.out (only_belC (g := g) hb); clear HO; have HO := Lib.hid kk; clear kk
        clear OW; have OW := OW5; clear OW5
        have RF := Lib.hid (or1.more (show w.heap.size ≤ wr.heap.size by omega)); have RL := Lib.hid (or2.more (show w.heap.size ≤ wr.heap.size by omega)); clear or1 or2 hb
        generalize hW5 : (w3.alloc (.cells #[.int .i64 z, .slice A1 F.length n1, .slice A2 L.length n2] 57)).alloc (.cells #[.int .i64 z, .slice A1 F.length n1, .slice A2 L.length n2] 57) = w5
        have b5 : Below w3.heap.size w3 w5 := by rw [← hW5]; exact bthen (balloc _ _) (balloc _ _)
        have HN5 := Lib.hid (show Has w5 (w3.heap.size + 1) 57 #[.int .i64 z, .slice A1 F.length n1, .slice A2 L.length n2] by rw [← hW5]; have := has_new (w3.alloc (.cells #[.int .i64 z, .slice A1 F.length n1, .slice A2 L.length n2] 57)) 57 #[.int .i64 z, .slice A1 F.length n1, .slice A2 L.length n2]; simpa using this)
        have HW5 := Lib.hid hW5; clear hW5
        have hz5 := b5.size
        have OW5 := Lib.hid (own_callG OW.out b5)
        have kk := OK.out.below b5; clear OK; have OK := Lib.hid kk; clear kk
        have kk := HC.out.belC b5; clear HC; have HC := Lib.hid kk; clear kk
        have kk := only_trans HO.out (only_belC (g := g) b5); clear HO; have HO := Lib.hid kk; clear kk
        have kk := RF.out.below b5; clear RF; have RF := Lib.hid kk; clear kk
        have kk := RL.out.below b5; clear RL; have RL := Lib.hid kk; clear kk
        clear b5
        go_wp2_with (at_builtin; rw [HW5.out]; go_must (refine list_app rfl _ _ 24 rfl w.heap.size 57 j0 (.agg #[.int .i64 0, .slice none 0 0, .slice none 0 0]) 3 56 Try.underlying24 HJ0.out HY0.out HY1.out HY2.out rfl (by decide) _ l.length _ rfl OW5.out (some ⟨w3.heap.size + 1, 0, none⟩) 1 1 (colC ⟨z, A1, F, n1, A2, L, n2⟩) rfl (src_cl (x := ⟨z, A1, F, n1, A2, L, n2⟩) HN5.out) (by unfold maxLen; omega) (by omega) (by omega) ?_))
        intro A6 c6 w6 hown6 hgrow6 hrow6
        have kk := OK.out.grown hgrow6 (fun b hb => (hrow6 b hb).2); clear OK; have OK := Lib.hid kk; clear kk
        have kk := OQ.grown_ RF.out hgrow6 (fun b hb => (hrow6 b hb).2) (by decide); clear RF; have RF := Lib.hid kk; clear kk
        have kk := OR.grown_ RL.out hgrow6 (fun b hb => (hrow6 b hb).2) (by decide); clear RL; have RL := Lib.hid kk; clear kk
        have kk := cur_grown0 HC.out hgrow6 (fun b hb => by have := (hrow6 b hb).1; omega); clear HC; have HC := Lib.hid kk; clear kk
        have kk := only_grown0 HO.out hgrow6 (fun b hb => (hrow6 b hb).1); clear HO; have HO := Lib.hid kk; clear kk
        rw [← colV_snoc] at hown6
        obtain ⟨l6, hl6⟩ : ∃ l6, l ++ [⟨z, A1, F, n1, A2, L, n2⟩] = l6 := ⟨_, rfl⟩
        have hll6 : l.length + 1 = l6.length := by rw [← hl6]; simp
        have hok6 := OK.out.snoc (x := ⟨z, A1, F, n1, A2, L, n2⟩) RF.out RL.out
        have han6 := anyK_snoc (x := ⟨z, A1, F, n1, A2, L, n2⟩) AN.out hlt hnl
        rw [hl6] at hown6 hok6 han6
        rw [hll6] at hown6 ⊢
        clear OW OK AN; have OW := Lib.hid hown6; have OK := Lib.hid hok6; have AN := Lib.hid han6
        clear hown6 hgrow6 hrow6 hok6 han6 RF RL HN5 OW5
        have hls6 : 7 - l6.length < 7 - l.length := by omega
        clear hl6 hll6 HW5
        go_wp2_with fail
        go_roundw
        case rel => exact ⟨l6, A6, c6, rfl, AN.out, OW.out, OK.out, HC.out, HO.out⟩
        case measure => simpa [lenK] using hls6
      · have hlt2 : ¬ (l.length : Int) < 7 := by omega
        go_wp2_with fail
        go_ret
        exact ⟨_, _, _, rfl, AN.out, OW.out, OK.out, HC.out, HO.out⟩
  · skip
    have e0 : (x0 == 0) = false := by rw [beq_eq_false_iff_ne]; omega
    have e1 : (x0 == 1) = false := by rw [beq_eq_false_iff_ne]; omega
    have e2 : (x0 == 2) = false := by rw [beq_eq_false_iff_ne]; omega
    have e3 : (x0 == 3) = false := by rw [beq_eq_false_iff_ne]; omega
    go_wp2_with fail
    go_ret
    exact ⟨_, _, _, rfl, AN.out, OW.out, OK.out, HC.out, HO.out⟩
end Go.Proofs.Ythfpjfekemelaaa
namespace Go.Proofs.Ythfpjfekemelaaa
open Go.RowKit
set_option linter.unusedVariables false
def hasB (L : List Int) (k : Int) : Bool := L.any fun x => x == k
theorem hasL_miss {L : List Int} {k : Int} {i : Nat} {x : Int} (h : (L.take i).any (fun x => x == k) = false) (hx : L[i]? = some x) (hne : (x == k) = false) : (L.take (i + 1)).any (fun x => x == k) = false := by
  rw [List.take_add_one, hx]; simp only [List.any_append, h, Option.toList_some, List.any_cons, List.any_nil, hne]; rfl
theorem hasL_hit {L : List Int} {k : Int} {i : Nat} {x : Int} (hx : L[i]? = some x) (he : x = k) : hasB L k = true := by
  unfold hasB; rw [List.any_eq_true]; exact ⟨x, List.mem_of_getElem? hx, by simpa using he⟩
set_option maxRecDepth 100000 in
set_option maxHeartbeats 2000000 in
theorem sameL_any (w : World) (B : Nat) (A A' : Option Addr) (c c' : Nat) (L : List Int) (hl : L.length ≤ 1048576) (hB : B ≤ w.heap.size) (hS : IL w B A L) (hS' : IL w B A' L) :
    Calls Try.prog 61 #[.slice A L.length c, .slice A' L.length c'] w fun e w' => e = .returned (.bool true) ∧ Below w.heap.size w w' := by
  have HS := Lib.hid hS; have HS' := Lib.hid hS'; clear hS hS'
  go_enter Try.func61, Try.ntmps61
  go_wp2
  go_loopw [5] (fun i wr => ∃ (n : Nat), n ≤ L.length ∧ i = .int .i64 n ∧ Below w.heap.size w wr) (fun i _ => L.length - (intOf i).toNat)
  case atStart => exact ⟨0, Nat.zero_le _, rfl, Below.refl _ _⟩
  case round =>
    obtain ⟨n, hn, rfl, hb⟩ := hrel
    have hsz := hb.size
    by_cases hlt : n < L.length
    · obtain ⟨b, off, x, rfl, hbB, hx, hc⟩ := (HS.out.later hB hb).at_ hlt
      obtain ⟨b', off', x', rfl, hbB', hx', hc'⟩ := (HS'.out.later hB hb).at_ hlt
      rw [hx] at hx'; injection hx' with hx'; subst hx'; clear hx
      go_wp2_with go_region
      go_roundw
      case rel => exact ⟨n + 1, by omega, by go_num, hb.drew⟩
      case measure => simp [intOf]; omega
    · have hnl : n = L.length := by omega
      subst hnl
      go_wp2_with fail
      go_ret
      exact ⟨rfl, hb⟩
end Go.Proofs.Ythfpjfekemelaaa
namespace Go.Proofs.Ythfpjfekemelaaa
open Go.RowKit
set_option linter.unusedVariables false

theorem gsum_take {l : List Gp} {k : Nat} {x : Gp} (h : l[k]? = some x) : gsum (l.take (k + 1)) = gsum (l.take k) + x.size := by
  unfold gsum; rw [List.take_add_one, h]; simp
theorem gsum_bd {l : List Gp} (h : ∀ g ∈ l, 0 ≤ g.size ∧ g.size ≤ 24) : ∀ k, 0 ≤ gsum (l.take k) ∧ gsum (l.take k) ≤ 24 * (k : Int)
  | 0 => by simp [gsum]
  | k + 1 => by
    have ih := gsum_bd h k
    by_cases hk : k < l.length
    · have hx := List.getElem?_eq_getElem hk
      rw [gsum_take hx]
      have := h _ (List.getElem_mem hk)
      push_cast; omega
    · rw [List.take_of_length_le (by omega)] at ih ⊢
      push_cast; omega
set_option maxHeartbeats 400000 in
theorem room_any (w : World) (B : Nat) (A : Option Addr) (c : Nat) (l : List Gp) (hl : l.length ≤ 1048576) (hB : B ≤ w.heap.size) (hS : gpL w B A l) (hz : ∀ g ∈ l, 0 ≤ g.size ∧ g.size ≤ 24) :
    Calls Try.prog 16 #[.slice A l.length c] w fun e w' => e = .returned (.int .i64 (gsum l)) ∧ Below w.heap.size w w' := by
  have HS := Lib.hid hS; have HZ := Lib.hid (gsum_bd hz); clear hS hz
  go_enter Try.func16, Try.ntmps16
  go_wp2
  go_loopw [3, 4] (fun s i wr => ∃ k : Nat, k ≤ l.length ∧ i = .int .i64 k ∧ s = .int .i64 (gsum (l.take k)) ∧ Below w.heap.size w wr) (fun _ i _ => l.length - (intOf i).toNat)
  case atStart => exact ⟨0, Nat.zero_le _, rfl, by simp [gsum], Below.refl _ _⟩
  case round =>
    obtain ⟨k, hk, rfl, rfl, hb⟩ := hrel
    have HB := Lib.hid hb
    by_cases hlt : k < l.length
    · have hsz := hb.size
      obtain ⟨b, off, x, rfl, hbB, hx, hc0, hc1, hc2⟩ := (HS.out.later hB hb).at_ hlt
      have h1 := HZ.out k
      have h2 := HZ.out (k + 1)
      rw [gsum_take hx] at h2
      have HT := Lib.hid (gsum_take hx)
      push_cast at h2
      clear hx hb
      generalize gsum (l.take k) = s at *
      go_wp2
      go_roundw
      case rel => exact ⟨k + 1, by omega, by go_num, by rw [HT.out], HB.out⟩
      case measure => simp [intOf]; omega
    · have hkl : k = l.length := by omega
      subst hkl
      rw [List.take_length]
      go_wp2
      go_ret
      exact ⟨rfl, HB.out⟩
set_option maxHeartbeats 400000 in
theorem sameB_any (w : World) (B B' : Nat) (A A' : Option Addr) (c c' : Nat) (l : List Bx) (hl : l.length ≤ 1048576) (hB : B ≤ w.heap.size) (hB' : B' ≤ w.heap.size) (hS : XL w B A l) (hS' : XL w B' A' l) :
    Calls Try.prog 62 #[.slice A l.length c, .slice A' l.length c'] w fun e w' => e = .returned (.bool true) ∧ Below w.heap.size w w' := by
  have e0 : ((l.length : Int) != (l.length : Int)) = false := by simp
  have HS := Lib.hid hS; have HS' := Lib.hid hS'; clear hS hS'
  go_enter Try.func62, Try.ntmps62
  go_wp2
  clear e0
  go_loopw [5] (fun i wr => ∃ k : Nat, k ≤ l.length ∧ i = .int .i64 k ∧ Below w.heap.size w wr) (fun i _ => l.length - (intOf i).toNat)
  case atStart => exact ⟨0, Nat.zero_le _, rfl, Below.refl _ _⟩
  case round =>
    obtain ⟨k, hk, rfl, hb⟩ := hrel
    by_cases hlt : k < l.length
    · have hsz := hb.size
      obtain ⟨b, off, x, rfl, hbB, hx, hc0, hc1, hc2, hc3⟩ := (HS.out.later hB hb).at_ hlt
      obtain ⟨b', off', y, rfl, hbB', hy, hd0, hd1, hd2, hd3⟩ := (HS'.out.later hB' hb).at_ hlt
      obtain rfl : x = y := by rw [hx] at hy; injection hy
      clear hx hy
      go_wp2
      go_quiet (fail)
      go_wp2
      go_roundw
      case rel => exact ⟨k + 1, by omega, by go_num, below_drewN hb _⟩
      case measure => simp [intOf]; omega
    · go_wp2
      go_ret
      exact ⟨rfl, hb⟩
set_option maxHeartbeats 1000000 in
theorem sameC_any (w : World) (B B' : Nat) (z : Int) (A1 A2 A3 A4 : Option Addr) (c1 c2 c3 c4 : Nat) (F : List Int) (L : List Bx) (hf : F.length ≤ 1048576) (hl : L.length ≤ 1048576) (hB : B ≤ w.heap.size) (hB' : B' ≤ w.heap.size) (h1 : IL w B A1 F) (h2 : XL w B A2 L) (h3 : IL w B' A3 F) (h4 : XL w B' A4 L) :
    Calls Try.prog 36 #[.agg #[.int .i64 z, .slice A1 F.length c1, .slice A2 L.length c2], .agg #[.int .i64 z, .slice A3 F.length c3, .slice A4 L.length c4]] w fun e w' => e = .returned (.bool true) ∧ Below w.heap.size w w' := by
  have H1 := Lib.hid h1; have H2 := Lib.hid h2; have H3 := Lib.hid h3; have H4 := Lib.hid h4; clear h1 h2 h3 h4
  have ez : (z == z) = true := by simp
  go_enter Try.func36, Try.ntmps36
  go_wp2_with fail
  generalize hX : ((w.alloc (.cells #[.int .i64 z, .slice A1 F.length c1, .slice A2 L.length c2] 57)).alloc (.cells #[.int .i64 z, .slice A3 F.length c3, .slice A4 L.length c4] 57)) = w1
  have b1 : Below w.heap.size w w1 := by rw [← hX]; exact bthen (balloc _ _) (balloc _ _)
  have k1 : Has w1 w.heap.size 57 #[.int .i64 z, .slice A1 F.length c1, .slice A2 L.length c2] := by rw [← hX]; exact has_alloc (has_new _ _ _) _
  have k2 : Has w1 (w.heap.size + 1) 57 #[.int .i64 z, .slice A3 F.length c3, .slice A4 L.length c4] := by rw [← hX]; have := has_new (w.alloc (.cells #[.int .i64 z, .slice A1 F.length c1, .slice A2 L.length c2] 57)) 57 #[.int .i64 z, .slice A3 F.length c3, .slice A4 L.length c4]; simpa using this
  clear hX
  have hs1 := b1.size
  refine (sameL_any w1 w1.heap.size A1 A3 c1 c3 F hf (Nat.le_refl _) ((H1.out.below (b1.mono hB)).more (by omega)) ((H3.out.below (b1.mono hB')).more (by omega))).mono ?_
  rintro e w2 ⟨rfl, hb⟩
  have k1' := has_call k1 hb; have k2' := has_call k2 hb
  have b2 := bthen b1 hb
  have hs2 := b2.size
  have e0 := has_cell k1' 2 rfl; have e1 := has_cell k2' 2 rfl; have e2 := has_lt k1'; have e3 := has_lt k2'
  clear k1 k2 k1' k2' hb
  go_wp2_with fail
  refine (sameB_any w2 B B' A2 A4 c2 c4 L hl (by omega) (by omega) (H2.out.below (b2.mono hB)) (H4.out.below (b2.mono hB'))).mono ?_
  rintro e w3 ⟨rfl, hb⟩
  go_wp2_with fail
  go_ret
  exact ⟨rfl, bthen b2 hb⟩
/-- the draw of a column for a law -/
def DrwC (w : World) (e : Ending) (w' : World) : Prop := ∃ x : Cl, e = .returned (.agg #[.int .i64 x.z, .slice x.AF x.F.length x.cF, .slice x.AB x.L.length x.cB]) ∧ x.F.length ≤ 2 ∧ x.L.length ≤ 24 ∧ IL w' w'.heap.size x.AF x.F ∧ XL w' w'.heap.size x.AB x.L ∧ Below w.heap.size w w'
end Go.Proofs.Ythfpjfekemelaaa
