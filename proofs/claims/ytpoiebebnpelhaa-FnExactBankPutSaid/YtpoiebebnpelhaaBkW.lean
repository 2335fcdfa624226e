/- Chapter 2: a column of a bank is put in another's place; BankTake of both sides (gen_bktake.py). -/
import Derived.Test.YtpoiebebnpelhaaBkV
import Derived.Test.YtpoiebebnpelhaaBnkF
import Derived.Test.YtpoiebebnpelhaaColW
namespace Go.Proofs.Ytpoiebebnpelhaa
open Go.RowKit
set_option linter.unusedVariables false

theorem BankAt.put {w : World} {lo hi a b k : Nat} {A : Option Addr} {l : List Cl} (h : BankAt w lo hi A l) (hk : k < l.length) (x : Cl) (ha : hi ≤ a) (hab : a ≤ b) (hlo : lo ≤ hi) (h1 : OI w a b 3 x.AF (intV x.F)) (h2 : OI w a b 72 x.AB (boxV x.L)) :
    ∃ (g : Nat) (cur : Array Value), A = some ⟨g, 0, none⟩ ∧ lo ≤ g ∧ g < hi ∧ Has w g 53 cur ∧ k * 3 + 2 < cur.size ∧ BankAt (((w.setCell ⟨g, k * 3, none⟩ (.int .i64 x.z)).setCell ⟨g, k * 3 + 1, none⟩ (.slice x.AF x.F.length x.cF)).setCell ⟨g, k * 3 + 2, none⟩ (.slice x.AB x.L.length x.cB)) lo b A (l.set k x) := by
  obtain ⟨hoi, f, hsep⟩ := h
  rcases hoi with hnil | ⟨g, cur, rfl, hg1, hg2, hH, hc⟩
  · exfalso; have := colV_nil hnil; rw [this] at hk; simp at hk
  · have hcv := colV_at (List.getElem?_eq_getElem hk)
    have hs0 := (Array.getElem?_eq_some_iff.1 (hc _ _ hcv.1)).1
    have hs1 := (Array.getElem?_eq_some_iff.1 (hc _ _ hcv.2.1)).1
    have hs2 := (Array.getElem?_eq_some_iff.1 (hc _ _ hcv.2.2)).1
    have hH0 := has_set hH (k * 3) (.int .i64 x.z)
    have hH1 := has_set hH0 (k * 3 + 1) (.slice x.AF x.F.length x.cF)
    have hH2 := has_set hH1 (k * 3 + 2) (.slice x.AB x.L.length x.cB)
    refine ⟨g, cur, rfl, hg1, hg2, hH, hs2, ⟨.inr ⟨g, _, rfl, hg1, by omega, hH2, fun j u hu => ?_⟩, _, ((((hsep.set (k := k) ha hab hlo h1 h2).other hH (by decide) (by decide) _ _).other hH0 (by decide) (by decide) _ _).other hH1 (by decide) (by decide) _ _)⟩⟩
    rw [colV_set hk] at hu
    have hl := (List.getElem?_eq_some_iff.1 hcv.2.2).1
    by_cases e2 : j = k * 3 + 2
    · subst e2
      rw [List.getElem?_set_self (by simpa using hl)] at hu
      rw [Array.getElem?_setIfInBounds_self_of_lt (by simpa using hs2)]; exact hu
    · rw [List.getElem?_set_ne (fun e => e2 e.symm)] at hu
      rw [Array.getElem?_setIfInBounds_ne (fun e => e2 e.symm)]
      by_cases e1 : j = k * 3 + 1
      · subst e1
        rw [List.getElem?_set_self (by simp; omega)] at hu
        rw [Array.getElem?_setIfInBounds_self_of_lt (by simpa using hs1)]; exact hu
      · rw [List.getElem?_set_ne (fun e => e1 e.symm)] at hu
        rw [Array.getElem?_setIfInBounds_ne (fun e => e1 e.symm)]
        by_cases e0 : j = k * 3
        · subst e0
          rw [List.getElem?_set_self (by omega)] at hu
          rw [Array.getElem?_setIfInBounds_self_of_lt hs0]; exact hu
        · rw [List.getElem?_set_ne (fun e => e0 e.symm)] at hu
          rw [Array.getElem?_setIfInBounds_ne (fun e => e0 e.symm)]
          exact hc _ _ hu
abbrev Cont := Int × List Int × List Bx
def bkTk (l : List Cl) (p : Int) (C : List Cont) (b : Bool) : Prop := ∃ a q, bofR l p a q ∧ ((a < 0 ∧ C = l.map cont ∧ b = false) ∨ ∃ (k : Nat) (x : Cl) (z : Int) (F : List Int) (L : List Bx), a = (k : Int) ∧ l[k]? = some x ∧ takeR x.z x.F x.L p z F L b ∧ C = (l.map cont).set k (z, F, L))
theorem bkTk_det {l : List Cl} {p : Int} {C C' : List Cont} {b b' : Bool} (h : bkTk l p C b) (h' : bkTk l p C' b') : C = C' ∧ b = b' := by
  obtain ⟨a, q, hb, h⟩ := h
  obtain ⟨a', q', hb', h'⟩ := h'
  obtain ⟨rfl, rfl⟩ := bof_det hb hb'
  rcases h with ⟨h1, rfl, rfl⟩ | ⟨k, x, z, F, L, rfl, hx, ht, rfl⟩
  · rcases h' with ⟨_, rfl, rfl⟩ | ⟨k', x', z', F', L', e, _⟩
    · exact ⟨rfl, rfl⟩
    · omega
  · rcases h' with ⟨h1, _⟩ | ⟨k', x', z', F', L', e, hx', ht', rfl⟩
    · omega
    · have hk : k = k' := by omega
      subst hk
      rw [hx] at hx'; injection hx' with hx'; subst hx'
      obtain ⟨rfl, rfl, rfl, rfl⟩ := take_det ht ht'
      exact ⟨rfl, rfl⟩
theorem bkTk_cont {l l' : List Cl} {p : Int} {C : List Cont} {b : Bool} (h : l'.map cont = l.map cont) (hb : bkTk l' p C b) : bkTk l p C b := by
  obtain ⟨a, q, hb, hh⟩ := hb
  refine ⟨a, q, bofR_cont h hb, ?_⟩
  rcases hh with ⟨h1, rfl, rfl⟩ | ⟨k, x, z, F, L, rfl, hx, ht, rfl⟩
  · exact .inl ⟨h1, h, rfl⟩
  · have hk := congrArg (fun y => y[k]?) h
    simp only [List.getElem?_map, hx, Option.map_some] at hk
    cases hx' : l[k]? with
    | none => rw [hx'] at hk; simp at hk
    | some y =>
      rw [hx'] at hk
      simp only [Option.map_some, Option.some.injEq] at hk
      unfold cont at hk
      injection hk with e1 hk; injection hk with e2 e3
      exact .inr ⟨k, y, z, F, L, rfl, hx', by rw [← e1, ← e2, ← e3]; exact ht, by rw [h]⟩
/-- the answer is a bank of the call's own and a flag -/
def BankAnsB (R : List Cont → Bool → Prop) (w : World) (e : Ending) (w' : World) : Prop := ∃ A' c' l' b, e = .returned (.tuple #[.slice A' l'.length c', .bool b]) ∧ R (l'.map cont) b ∧ SmallK l' ∧ BankAt w' w.heap.size w'.heap.size A' l' ∧ Below w.heap.size w w'
theorem small_set {l : List Cl} (h : SmallK l) (k : Nat) {x : Cl} (hx : x.F.length ≤ 1048576 ∧ x.L.length ≤ 1048576) : SmallK (l.set k x) := fun y hy => by
  rcases List.mem_or_eq_of_mem_set hy with h1 | h1
  · exact h y h1
  · subst h1; exact hx

set_option maxRecDepth 100000 in
set_option maxHeartbeats 4000000 in
theorem btkI_any (w : World) (B : Nat) (A : Option Addr) (n c : Nat) (p : Int) (l : List Cl) (hn : n = l.length) (hl : l.length ≤ 1048576) (hsm : SmallK l) (hB : B ≤ w.heap.size) (hS : KL w B A l) (hV : ∀ x ∈ l, CV w B x) :
    Calls Try.prog 24 #[.slice A n c, .int .i64 p] w (BankAnsB (bkTk l p) w) := by
  subst hn
  have hlm : l.length ≤ maxLen := by unfold maxLen; omega
  have HS := Lib.hid hS; have HV := Lib.hid hV; have HSM := Lib.hid hsm; clear hS hV hsm
  go_enter Try.func24, Try.ntmps24
  go_wp2_with fail
  refine (cpyI_any w B A l.length c l rfl hl HSM.out hB HS.out HV.out).mono ?_
  rintro e w1 ⟨A1, c1, l1, rfl, hct1, hba1, hb1⟩
  have hz1 := hb1.size
  have hsm1 := small_cont hct1 HSM.out
  have hl1 : l1.length ≤ l.length ∧ l.length ≤ l1.length := by have := len_cont hct1; omega
  obtain ⟨hl1a, hl1b⟩ := hl1
  have HCT1 := Lib.hid hct1; have HBA1 := Lib.hid hba1; have C1 := Lib.hid hb1; have HSM1 := Lib.hid hsm1; clear hct1 hba1 hsm1 hb1
  go_wp2_with fail
  refine (bofI_any w1 B A l.length c p l rfl hlm (by omega) (HS.out.later hB C1.out) (fun x hx => (HV.out x hx).later hB C1.out)).mono ?_
  rintro e w2 ⟨a, q, rfl, hbo, hb2⟩
  have hz2 := hb2.size
  have HBA2 := Lib.hid (HBA1.out.call hb2); have C2 := Lib.hid (bthen C1.out hb2); have HBO := Lib.hid hbo; clear hb2
  rcases hbo with ⟨k, x, j, y, hat, rfl, rfl⟩ | ⟨hno, rfl, rfl⟩
  · have hx := hat.at_
    have hkl : k < l.length := (List.getElem?_eq_some_iff.1 hx).1
    clear hat
    obtain ⟨b, off, x', rfl, hbB, hx', hc0, hc1, hc2⟩ := (HS.out.later hB C2.out).at_ hkl
    obtain rfl : x = x' := by rw [hx] at hx'; injection hx'
    have hvx := (HV.out x (List.mem_of_getElem? hx)).later hB C2.out
    have hsx := HSM.out x (List.mem_of_getElem? hx)
    have HX := Lib.hid hx; have HVX := Lib.hid hvx; have HSX := Lib.hid hsx; clear hx hx' hvx hsx
    have hbw : b < w2.heap.size := by omega
    have hk0 : (0 : Int) ≤ (k : Int) := by omega
    have hk1 : (k : Int) < (l.length : Int) := by omega
    have t0 : decide ((k : Int) < 0) = false := decide_eq_false (by omega)
    go_wp2_with fail
    refine (takeI_any w2 B x p HSX.out.1 HSX.out.2 (by omega) HVX.out).mono ?_
    rintro e w3 ⟨z', F', L', ob, A2, A3, n2, n3, rfl, htk, hlf, hll, hP, hQ, hb3⟩
    clear hc0 hc1 hc2
    have hz3 := hb3.size
    have HBA3 := Lib.hid (HBA2.out.call hb3); have C3 := Lib.hid (bthen C2.out hb3); have HTK := Lib.hid htk; have HP := Lib.hid (OI.of_or hP); have HQ := Lib.hid (OI.of_or hQ); have HLL := Lib.hid (And.intro hlf hll); clear hb3 htk hP hQ hlf hll
    go_upto_region 6 with (fail)
    generalize hX : w3.alloc (.cells #[.int .i64 z', .slice A2 F'.length n2, .slice A3 L'.length n3] 53) = w4
    have b4 : Below w3.heap.size w3 w4 := by rw [← hX]; exact balloc _ _
    have k4 : Has w4 w3.heap.size 53 #[.int .i64 z', .slice A2 F'.length n2, .slice A3 L'.length n3] := by rw [← hX]; exact has_new _ _ _
    clear hX
    have hz4 := b4.size
    have hk1l : k < l1.length := by omega
    obtain ⟨g, cur, hA1, hg1, hg2, hH, hcs, hput⟩ := (HBA3.out.call b4).put hk1l ⟨z', A2, F', n2, A3, L', n3⟩ hz2 hz3 (by omega) (HP.out.call b4) (HQ.out.call b4)
    dsimp only at hput
    have hbel : Below w.heap.size w (((w4.setCell ⟨g, k * 3, none⟩ (.int .i64 z')).setCell ⟨g, k * 3 + 1, none⟩ (.slice A2 F'.length n2)).setCell ⟨g, k * 3 + 2, none⟩ (.slice A3 L'.length n3)) := (((bthen C3.out b4).setCell (p := ⟨g, k * 3, none⟩) hg1 _).setCell (p := ⟨g, k * 3 + 1, none⟩) hg1 _).setCell (p := ⟨g, k * 3 + 2, none⟩) hg1 _
    have hzf : w3.heap.size ≤ (((w4.setCell ⟨g, k * 3, none⟩ (.int .i64 z')).setCell ⟨g, k * 3 + 1, none⟩ (.slice A2 F'.length n2)).setCell ⟨g, k * 3 + 2, none⟩ (.slice A3 L'.length n3)).heap.size := by simp only [size_set]; omega
    have HPUT := Lib.hid (hput.wider (Nat.le_refl _) hzf); have HBEL := Lib.hid hbel
    have e0 := has_cell k4 0 rfl; have e1 := has_cell k4 1 rfl; have e2 := has_cell k4 2 rfl
    have y0 := has_cell hH (k * 3) (Array.getElem?_eq_getElem (by omega)); have y1 := has_cell hH (k * 3 + 1) (Array.getElem?_eq_getElem (by omega)); have y2 := has_cell hH (k * 3 + 2) (Array.getElem?_eq_getElem (by omega))
    have f0 := has_free hH (k * 3); have f1 := has_free hH (k * 3 + 1); have f2 := has_free hH (k * 3 + 2)
    have hgl := has_lt hH; have hkl4 := has_lt k4
    have hk11 : (k : Int) < (l1.length : Int) := by omega
    clear hput hbel k4 hH b4 hzf
    generalize hu0 : cur[k * 3] = u0 at y0
    generalize hu1 : cur[k * 3 + 1] = u1 at y1
    generalize hu2 : cur[k * 3 + 2] = u2 at y2
    clear hu0 hu1 hu2
    subst hA1
    go_wp2
    go_ret2
    exact ⟨some ⟨g, 0, none⟩, c1, l1.set k ⟨z', A2, F', n2, A3, L', n3⟩, ob, by simp, ⟨_, _, HBO.out, .inr ⟨k, x, z', F', L', rfl, HX.out, HTK.out, by rw [List.map_set, HCT1.out]; rfl⟩⟩, small_set HSM1.out k HLL.out, HPUT.out, HBEL.out⟩
  · clear hno
    go_wp2
    go_ret2
    exact ⟨A1, c1, l1, false, rfl, ⟨_, _, HBO.out, .inl ⟨by omega, HCT1.out, rfl⟩⟩, HSM1.out, HBA2.out.wider (Nat.le_refl _) (by omega), C2.out⟩

set_option maxRecDepth 100000 in
set_option maxHeartbeats 4000000 in
theorem btkS_any (w : World) (B : Nat) (A : Option Addr) (n c : Nat) (p : Int) (l : List Cl) (hn : n = l.length) (hl : l.length ≤ 1048576) (hsm : SmallK l) (hB : B ≤ w.heap.size) (hS : KL w B A l) (hV : ∀ x ∈ l, CV w B x) :
    Calls Try.prog 23 #[.slice A n c, .int .i64 p] w (BankAnsB (bkTk l p) w) := by
  subst hn
  have hlm : l.length ≤ maxLen := by unfold maxLen; omega
  have HS := Lib.hid hS; have HV := Lib.hid hV; have HSM := Lib.hid hsm; clear hS hV hsm
  go_enter Try.func23, Try.ntmps23
  go_wp2_with fail
  refine (cpyS_any w B A l.length c l rfl hl HSM.out hB HS.out HV.out).mono ?_
  rintro e w1 ⟨A1, c1, l1, rfl, hct1, hba1, hb1⟩
  have hz1 := hb1.size
  have hsm1 := small_cont hct1 HSM.out
  have hl1 : l1.length ≤ l.length ∧ l.length ≤ l1.length := by have := len_cont hct1; omega
  obtain ⟨hl1a, hl1b⟩ := hl1
  have HCT1 := Lib.hid hct1; have HBA1 := Lib.hid hba1; have C1 := Lib.hid hb1; have HSM1 := Lib.hid hsm1; clear hct1 hba1 hsm1 hb1
  go_wp2_with fail
  refine (bofS_any w1 B A l.length c p l rfl hlm (by omega) (HS.out.later hB C1.out) (fun x hx => (HV.out x hx).later hB C1.out)).mono ?_
  rintro e w2 ⟨a, q, rfl, hbo, hb2⟩
  have hz2 := hb2.size
  have HBA2 := Lib.hid (HBA1.out.call hb2); have C2 := Lib.hid (bthen C1.out hb2); have HBO := Lib.hid hbo; clear hb2
  rcases hbo with ⟨k, x, j, y, hat, rfl, rfl⟩ | ⟨hno, rfl, rfl⟩
  · have hx := hat.at_
    have hkl : k < l.length := (List.getElem?_eq_some_iff.1 hx).1
    clear hat
    obtain ⟨b, off, x', rfl, hbB, hx', hc0, hc1, hc2⟩ := (HS.out.later hB C2.out).at_ hkl
    obtain rfl : x = x' := by rw [hx] at hx'; injection hx'
    have hvx := (HV.out x (List.mem_of_getElem? hx)).later hB C2.out
    have hsx := HSM.out x (List.mem_of_getElem? hx)
    have HX := Lib.hid hx; have HVX := Lib.hid hvx; have HSX := Lib.hid hsx; clear hx hx' hvx hsx
    have hbw : b < w2.heap.size := by omega
    have hk0 : (0 : Int) ≤ (k : Int) := by omega
    have hk1 : (k : Int) < (l.length : Int) := by omega
    have t0 : decide ((k : Int) < 0) = false := decide_eq_false (by omega)
    go_wp2_with fail
    refine (takeS_any w2 B x p HSX.out.1 HSX.out.2 (by omega) HVX.out).mono ?_
    rintro e w3 ⟨z', F', L', ob, A2, A3, n2, n3, rfl, htk, hlf, hll, hP, hQ, hb3⟩
    clear hc0 hc1 hc2
    have hz3 := hb3.size
    have HBA3 := Lib.hid (HBA2.out.call hb3); have C3 := Lib.hid (bthen C2.out hb3); have HTK := Lib.hid htk; have HP := Lib.hid (OI.of_or hP); have HQ := Lib.hid (OI.of_or hQ); have HLL := Lib.hid (And.intro hlf hll); clear hb3 htk hP hQ hlf hll
    go_upto_region 6 with (fail)
    generalize hX : w3.alloc (.cells #[.int .i64 z', .slice A2 F'.length n2, .slice A3 L'.length n3] 53) = w4
    have b4 : Below w3.heap.size w3 w4 := by rw [← hX]; exact balloc _ _
    have k4 : Has w4 w3.heap.size 53 #[.int .i64 z', .slice A2 F'.length n2, .slice A3 L'.length n3] := by rw [← hX]; exact has_new _ _ _
    clear hX
    have hz4 := b4.size
    have hk1l : k < l1.length := by omega
    obtain ⟨g, cur, hA1, hg1, hg2, hH, hcs, hput⟩ := (HBA3.out.call b4).put hk1l ⟨z', A2, F', n2, A3, L', n3⟩ hz2 hz3 (by omega) (HP.out.call b4) (HQ.out.call b4)
    dsimp only at hput
    have hbel : Below w.heap.size w (((w4.setCell ⟨g, k * 3, none⟩ (.int .i64 z')).setCell ⟨g, k * 3 + 1, none⟩ (.slice A2 F'.length n2)).setCell ⟨g, k * 3 + 2, none⟩ (.slice A3 L'.length n3)) := (((bthen C3.out b4).setCell (p := ⟨g, k * 3, none⟩) hg1 _).setCell (p := ⟨g, k * 3 + 1, none⟩) hg1 _).setCell (p := ⟨g, k * 3 + 2, none⟩) hg1 _
    have hzf : w3.heap.size ≤ (((w4.setCell ⟨g, k * 3, none⟩ (.int .i64 z')).setCell ⟨g, k * 3 + 1, none⟩ (.slice A2 F'.length n2)).setCell ⟨g, k * 3 + 2, none⟩ (.slice A3 L'.length n3)).heap.size := by simp only [size_set]; omega
    have HPUT := Lib.hid (hput.wider (Nat.le_refl _) hzf); have HBEL := Lib.hid hbel
    have e0 := has_cell k4 0 rfl; have e1 := has_cell k4 1 rfl; have e2 := has_cell k4 2 rfl
    have y0 := has_cell hH (k * 3) (Array.getElem?_eq_getElem (by omega)); have y1 := has_cell hH (k * 3 + 1) (Array.getElem?_eq_getElem (by omega)); have y2 := has_cell hH (k * 3 + 2) (Array.getElem?_eq_getElem (by omega))
    have f0 := has_free hH (k * 3); have f1 := has_free hH (k * 3 + 1); have f2 := has_free hH (k * 3 + 2)
    have hgl := has_lt hH; have hkl4 := has_lt k4
    have hk11 : (k : Int) < (l1.length : Int) := by omega
    clear hput hbel k4 hH b4 hzf
    generalize hu0 : cur[k * 3] = u0 at y0
    generalize hu1 : cur[k * 3 + 1] = u1 at y1
    generalize hu2 : cur[k * 3 + 2] = u2 at y2
    clear hu0 hu1 hu2
    subst hA1
    go_wp2
    go_ret2
    exact ⟨some ⟨g, 0, none⟩, c1, l1.set k ⟨z', A2, F', n2, A3, L', n3⟩, ob, by simp, ⟨_, _, HBO.out, .inr ⟨k, x, z', F', L', rfl, HX.out, HTK.out, by rw [List.map_set, HCT1.out]; rfl⟩⟩, small_set HSM1.out k HLL.out, HPUT.out, HBEL.out⟩
  · clear hno
    go_wp2
    go_ret2
    exact ⟨A1, c1, l1, false, rfl, ⟨_, _, HBO.out, .inl ⟨by omega, HCT1.out, rfl⟩⟩, HSM1.out, HBA2.out.wider (Nat.le_refl _) (by omega), C2.out⟩
end Go.Proofs.Ytpoiebebnpelhaa
