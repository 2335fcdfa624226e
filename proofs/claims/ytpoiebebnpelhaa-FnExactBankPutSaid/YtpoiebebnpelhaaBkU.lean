/- Chapter 2: marking a bank, and reading the marks. -/
import Derived.Test.YtpoiebebnpelhaaBkT
import Derived.Deep.DeepCutAuto
import Derived.Deep.CutRange
import Derived.Deep.CutBlock
namespace Go.Proofs.Ytpoiebebnpelhaa
open Go.RowKit
set_option linter.unusedVariables false

def mkC (k : Int) (x : Cl) : Cl := ⟨k, x.AF, seqI (k + 1) x.F.length, x.cF, x.AB, seqB (k + 1 + (x.F.length : Int)) x.L.length, x.cB⟩
def mkB : Int → List Cl → List Cl
  | _, [] => []
  | k, x :: r => mkC k x :: mkB (k + 1 + (x.F.length : Int) + 4 * (x.L.length : Int)) r
def totM : List Cl → Int
  | [] => 0
  | x :: r => 1 + (x.F.length : Int) + 4 * (x.L.length : Int) + totM r
theorem totM_snoc : ∀ (l : List Cl) (x : Cl), totM (l ++ [x]) = totM l + (1 + (x.F.length : Int) + 4 * (x.L.length : Int))
  | [], x => by simp [totM]
  | y :: r, x => by simp only [List.cons_append, totM, totM_snoc r]; omega
theorem mkB_snoc : ∀ (l : List Cl) (k : Int) (x : Cl), mkB k (l ++ [x]) = mkB k l ++ [mkC (k + totM l) x]
  | [], k, x => by simp [mkB, totM]
  | y :: r, k, x => by
    simp only [List.cons_append, mkB, mkB_snoc r]
    congr 3
    simp only [totM]; congr 1; omega
theorem mkB_len : ∀ (l : List Cl) (k : Int), (mkB k l).length = l.length
  | [], _ => rfl
  | x :: r, k => by simp [mkB, mkB_len r]
theorem totM_bd : ∀ (l : List Cl), 0 ≤ totM l ∧ totM l ≤ l.length + 4 * totK l
  | [] => by simp [totM, totK]
  | x :: r => by
    have := totM_bd r
    have e : totK (x :: r) = x.F.length + x.L.length + totK r := by simp [totK]
    rw [e]; simp only [totM, List.length_cons]; push_cast; omega
theorem take_snoc {α : Type} {l : List α} {k : Nat} {x : α} (h : l[k]? = some x) : l.take (k + 1) = l.take k ++ [x] := by rw [List.take_add_one, h]; rfl
theorem totM_take {l : List Cl} {k : Nat} {x : Cl} (h : l[k]? = some x) : totM (l.take (k + 1)) = totM (l.take k) + (1 + (x.F.length : Int) + 4 * (x.L.length : Int)) := by rw [take_snoc h, totM_snoc]
theorem totK_app (a b : List Cl) : totK (a ++ b) = totK a + totK b := by simp [totK]
theorem totM_le {l : List Cl} (k : Nat) : totM (l.take k) ≤ l.length + 4 * totK l := by
  have h1 := (totM_bd (l.take k)).2
  have h2 : totK (l.take k) ≤ totK l := by
    have := totK_app (l.take k) (l.drop k)
    rw [List.take_append_drop] at this
    omega
  have h3 : (l.take k).length ≤ l.length := by simp; omega
  omega
/-- the bank while it is being marked -/
def midB (k0 : Int) (l : List Cl) (k : Nat) : List Cl := mkB k0 (l.take k) ++ l.drop k
theorem midB_at {k0 : Int} {l : List Cl} {k : Nat} {x : Cl} (h : l[k]? = some x) : (midB k0 l k)[k]? = some x := by
  have hk : k < l.length := (List.getElem?_eq_some_iff.1 h).1
  unfold midB
  rw [List.getElem?_append_right (by rw [mkB_len]; simp; omega), mkB_len, drop_one_ h]
  have : k - (l.take k).length = 0 := by simp; omega
  rw [this]; rfl
where drop_one_ {l : List Cl} {k : Nat} {a : Cl} (h : l[k]? = some a) : l.drop k = a :: l.drop (k + 1) := by
        have hlt : k < l.length := (List.getElem?_eq_some_iff.1 h).1
        rw [List.drop_eq_getElem_cons hlt]
        have : l[k] = a := by rw [List.getElem?_eq_getElem hlt] at h; injection h
        rw [this]
theorem midB_succ {k0 : Int} {l : List Cl} {k : Nat} {x : Cl} (h : l[k]? = some x) : midB k0 l (k + 1) = (midB k0 l k).set k (mkC (k0 + totM (l.take k)) x) := by
  have hk : k < l.length := (List.getElem?_eq_some_iff.1 h).1
  unfold midB
  rw [take_snoc h, mkB_snoc, midB_at.drop_one_ h, List.append_assoc]
  have e : (mkB k0 (l.take k)).length = k := by rw [mkB_len]; simp; omega
  rw [List.set_append_right _ _ (by omega), e, Nat.sub_self]; rfl
theorem midB_len (k0 : Int) (l : List Cl) (k : Nat) (hk : k ≤ l.length) : (midB k0 l k).length = l.length := by unfold midB; rw [List.length_append, mkB_len]; simp; omega
section
variable {w w' : World} {lo hi g base : Nat} {e e' : TypeId} {A : Option Addr} {xs : List Value} {cur : Array Value} {l : List Cl} {f : Nat → Nat × Nat}
theorem OI.set_other (h : OI w lo hi e A xs) (hh : Has w g e' cur) (hne : e ≠ e') (i : Nat) (v : Value) : OI (w.setCell ⟨g, i, none⟩ v) lo hi e A xs := by
  rcases h with h | ⟨b, cs, rfl, h1, h2, hb, hc⟩
  · exact .inl h
  · refine .inr ⟨b, cs, rfl, h1, h2, has_far hb (p := ⟨g, i, none⟩) (fun eq => ?_) v, hc⟩
    have eq' : b = g := eq
    subst eq'
    have := hb.symm.trans hh
    injection this with this; injection this with _ this _
    exact hne this
theorem RowsSep.same (h : RowsSep w lo hi l f) {k : Nat} {x y : Cl} (hx : l[k]? = some x) (h1 : y.AF = x.AF) (h2 : y.F = x.F) (h3 : y.AB = x.AB) (h4 : y.L = x.L) : RowsSep w lo hi (l.set k y) f := by
  have hk : k < l.length := (List.getElem?_eq_some_iff.1 hx).1
  refine ⟨fun j z hz => ?_, fun i j hi' hj => h.dis i j hi' (by simpa using hj)⟩
  by_cases e : j = k
  · subst e
    rw [List.getElem?_set_self hk] at hz; injection hz with hz; subst hz
    rw [h1, h2, h3, h4]; exact h.row j x hx
  · rw [List.getElem?_set_ne (fun e' => e e'.symm)] at hz
    exact h.row j z hz
theorem RowsSep.other (h : RowsSep w lo hi l f) (hh : Has w g e' cur) (h1 : 3 ≠ e') (h2 : 72 ≠ e') (i : Nat) (v : Value) : RowsSep (w.setCell ⟨g, i, none⟩ v) lo hi l f :=
  ⟨fun k x hx => by obtain ⟨q1, q2, q3, q4, q5⟩ := h.row k x hx; exact ⟨q1, q2, q3, q4.set_other hh h1 i v, q5.set_other hh h2 i v⟩, h.dis⟩
theorem RowsSep.markF (h : RowsSep w lo hi l f) {k : Nat} {x : Cl} (hx : l[k]? = some x) {F' : List Int} (hm : OR w' base 3 x.AF (intV F')) (hk : Marks w base 3 x.AF (intV x.F) w') (he : intV x.F = [] → intV F' = []) (y : Cl) (h1 : y.AF = x.AF) (h2 : y.F = F') (h3 : y.AB = x.AB) (h4 : y.L = x.L) : RowsSep w' lo hi (l.set k y) f ∧ Within (f k).1 (f k).2 w w' := by
  have hkl : k < l.length := (List.getElem?_eq_some_iff.1 hx).1
  obtain ⟨r1, r2, r3, r4, r5⟩ := h.row k x hx
  have hw := within_marks r4 hk
  refine ⟨⟨fun j z hz => ?_, fun i j hi' hj => h.dis i j hi' (by simpa using hj)⟩, hw⟩
  by_cases e : j = k
  · subst e
    rw [List.getElem?_set_self hkl] at hz; injection hz with hz; subst hz
    rw [h1, h2, h3, h4]
    exact ⟨r1, r2, r3, oi_marked r4 hm he, oi_other r5 hk (by decide)⟩
  · rw [List.getElem?_set_ne (fun e' => e e'.symm)] at hz
    obtain ⟨q1, q2, q3, q4, q5⟩ := h.row j z hz
    have hjl : j < l.length := (List.getElem?_eq_some_iff.1 hz).1
    have hd : (f j).2 ≤ (f k).1 ∨ (f k).2 ≤ (f j).1 := by
      rcases Nat.lt_or_ge j k with hlt | hge
      · exact h.dis j k hlt hkl
      · exact (h.dis k j (by omega) hjl).symm
    exact ⟨q1, q2, q3, hw.oi q4 hd, hw.oi q5 hd⟩
theorem RowsSep.markL (h : RowsSep w lo hi l f) {k : Nat} {x : Cl} (hx : l[k]? = some x) {L' : List Bx} (hm : OR w' base 72 x.AB (boxV L')) (hk : Marks w base 72 x.AB (boxV x.L) w') (he : boxV x.L = [] → boxV L' = []) (y : Cl) (h1 : y.AF = x.AF) (h2 : y.F = x.F) (h3 : y.AB = x.AB) (h4 : y.L = L') : RowsSep w' lo hi (l.set k y) f ∧ Within (f k).1 (f k).2 w w' := by
  have hkl : k < l.length := (List.getElem?_eq_some_iff.1 hx).1
  obtain ⟨r1, r2, r3, r4, r5⟩ := h.row k x hx
  have hw := within_marks r5 hk
  refine ⟨⟨fun j z hz => ?_, fun i j hi' hj => h.dis i j hi' (by simpa using hj)⟩, hw⟩
  by_cases e : j = k
  · subst e
    rw [List.getElem?_set_self hkl] at hz; injection hz with hz; subst hz
    rw [h1, h2, h3, h4]
    exact ⟨r1, r2, r3, oi_other r4 hk (by decide), oi_marked r5 hm he⟩
  · rw [List.getElem?_set_ne (fun e' => e e'.symm)] at hz
    obtain ⟨q1, q2, q3, q4, q5⟩ := h.row j z hz
    have hjl : j < l.length := (List.getElem?_eq_some_iff.1 hz).1
    have hd : (f j).2 ≤ (f k).1 ∨ (f k).2 ≤ (f j).1 := by
      rcases Nat.lt_or_ge j k with hlt | hge
      · exact h.dis j k hlt hkl
      · exact (h.dis k j (by omega) hjl).symm
    exact ⟨q1, q2, q3, hw.oi q4 hd, hw.oi q5 hd⟩
theorem Within.wider {lo' hi' : Nat} (h : Within lo hi w w') (h1 : lo' ≤ lo) (h2 : hi ≤ hi') : Within lo' hi' w w' := ⟨h.1, fun k hk ho => h.2 k hk (by omega)⟩
end
theorem colV_same {l : List Cl} {k : Nat} {x y : Cl} (hx : l[k]? = some x) (h0 : y.z = x.z) (h1 : y.AF = x.AF) (h2 : y.F.length = x.F.length) (h3 : y.cF = x.cF) (h4 : y.AB = x.AB) (h5 : y.L.length = x.L.length) (h6 : y.cB = x.cB) : colV (l.set k y) = colV l := by
  have hk : k < l.length := (List.getElem?_eq_some_iff.1 hx).1
  have := colV_at hx
  rw [colV_set hk, h0, h1, h2, h3, h4, h5, h6]
  rw [set_same this.1, set_same this.2.1, set_same this.2.2]
where set_same {l : List Value} {k : Nat} {v : Value} (h : l[k]? = some v) : l.set k v = l := by
        apply List.ext_getElem?
        intro i
        by_cases e : i = k
        · subst e
          have hk : i < l.length := (List.getElem?_eq_some_iff.1 h).1
          rw [List.getElem?_set_self hk, h]
        · rw [List.getElem?_set_ne (fun e' => e e'.symm)]

set_option maxRecDepth 100000 in
set_option maxHeartbeats 2000000 in
theorem markBank_any (w : World) (lo hi : Nat) (A : Option Addr) (n c : Nat) (l : List Cl) (k0 : Int) (hn : n = l.length) (hl : l.length + totK l ≤ 4194304) (hsm : SmallK l) (h0 : 0 ≤ k0) (h1 : k0 ≤ 1000) (h : BankAt w lo hi A l) :
    Calls Try.prog 14 #[.slice A n c, .int .i64 k0] w fun e w' => e = .returned (.int .i64 (k0 + totM l)) ∧ BankAt w' lo hi A (mkB k0 l) ∧ Within lo hi w w' := by
  subst hn
  have H := Lib.hid h; have HSM := Lib.hid hsm; clear h hsm
  go_enter Try.func14, Try.ntmps14
  go_wp2
  go_loopw [1, 5] (fun kv i wr => ∃ (k : Nat), k ≤ l.length ∧ i = .int .i64 k ∧ kv = .int .i64 (k0 + totM (l.take k)) ∧ BankAt wr lo hi A (midB k0 l k) ∧ Within lo hi w wr) (fun _ i _ => l.length - (intOf i).toNat)
  case atStart => exact ⟨0, Nat.zero_le _, rfl, by simp [totM], by simpa [midB, mkB] using H.out, Within.of_below (Below.refl _ _)⟩
  case round =>
    obtain ⟨k, hk, rfl, rfl, hba, hw⟩ := hrel
    have htm0 := (totM_bd (l.take k)).1
    have htm1 := totM_le (l := l) k
    have HW := Lib.hid hw; clear hw
    by_cases hlt : k < l.length
    · have hx := List.getElem?_eq_getElem hlt
      obtain ⟨x, hxx⟩ : ∃ x, l[k] = x := ⟨_, rfl⟩
      rw [hxx] at hx
      clear hxx
      have hmx := midB_at (k0 := k0) hx
      have htx := totM_take hx
      have htn := totM_le (l := l) (k + 1)
      obtain ⟨hoi, f, hsep⟩ := hba
      rcases hoi with hnil | ⟨g, cur, rfl, hg1, hg2, hH, hc⟩
      · exfalso
        have := colV_nil hnil
        rw [this] at hmx; simp at hmx
      have hcv := colV_at hmx
      obtain ⟨r1, r2, r3, r4, r5⟩ := hsep.row k x hmx
      obtain ⟨T, hT⟩ : ∃ T, k0 + totM (l.take k) = T := ⟨_, rfl⟩
      have hsu := midB_succ (k0 := k0) hx
      rw [hT] at hsu
      have hTb : 0 ≤ T ∧ T + 1 + (x.F.length : Int) + 4 * (x.L.length : Int) ≤ 20000000 := by omega
      obtain ⟨hTb0, hTb1⟩ := hTb
      rw [hT]
      have htx2 : k0 + totM (l.take (k + 1)) = T + 1 + (x.F.length : Int) + 4 * (x.L.length : Int) := by omega
      -- the height
      have hcl : k * 3 < cur.size ∧ k * 3 + 1 < cur.size ∧ k * 3 + 2 < cur.size := ⟨(Array.getElem?_eq_some_iff.1 (hc _ _ hcv.1)).1, (Array.getElem?_eq_some_iff.1 (hc _ _ hcv.2.1)).1, (Array.getElem?_eq_some_iff.1 (hc _ _ hcv.2.2)).1⟩
      have c0 := has_cell hH _ (hc _ _ hcv.1)
      have c1 := has_cell hH _ (hc _ _ hcv.2.1)
      have c2 := has_cell hH _ (hc _ _ hcv.2.2)
      have f0 := has_free hH (k * 3)
      have hgl := has_lt hH
      have hw1 : Within lo hi wr (wr.setCell ⟨g, k * 3, none⟩ (.int .i64 T)) := ⟨(Below.refl 0 wr).setCell (p := ⟨g, k * 3, none⟩) (Nat.zero_le _) _, fun q hq ho => Below.heap_setCell wr ⟨g, k * 3, none⟩ _ q (by show q ≠ g; omega)⟩
      have hH1 : Has (wr.setCell ⟨g, k * 3, none⟩ (.int .i64 T)) g 53 (cur.setIfInBounds (k * 3) (.int .i64 T)) := has_set hH _ _
      have hsep1 := (hsep.other hH (by decide) (by decide) (k * 3) (.int .i64 T)).same (y := ⟨T, x.AF, x.F, x.cF, x.AB, x.L, x.cB⟩) hmx rfl rfl rfl rfl
      have hoi1 : OI (wr.setCell ⟨g, k * 3, none⟩ (.int .i64 T)) lo hi 53 (some ⟨g, 0, none⟩) (colV ((midB k0 l k).set k ⟨T, x.AF, x.F, x.cF, x.AB, x.L, x.cB⟩)) := by
        refine .inr ⟨g, _, rfl, hg1, hg2, hH1, fun j u hu => ?_⟩
        rw [colV_set (by rw [midB_len _ _ _ hk]; exact hlt)] at hu
        dsimp only at hu
        rw [colV_same.set_same (l := ((colV (midB k0 l k)).set (k * 3) (.int .i64 T)).set (k * 3 + 1) (.slice x.AF x.F.length x.cF)) (by rw [List.getElem?_set_ne (by omega), List.getElem?_set_ne (by omega)]; exact hcv.2.2), colV_same.set_same (l := (colV (midB k0 l k)).set (k * 3) (.int .i64 T)) (by rw [List.getElem?_set_ne (by omega)]; exact hcv.2.1)] at hu
        by_cases e : j = k * 3
        · subst e
          have hkl : k * 3 < (colV (midB k0 l k)).length := (List.getElem?_eq_some_iff.1 hcv.1).1
          rw [List.getElem?_set_self hkl] at hu
          rw [Array.getElem?_setIfInBounds_self_of_lt hcl.1]; exact hu
        · rw [List.getElem?_set_ne (fun e' => e e'.symm)] at hu
          rw [Array.getElem?_setIfInBounds_ne (fun e' => e e'.symm)]
          exact hc _ _ hu
      have hk0 : (0 : Int) ≤ (k : Int) := by omega
      have hk1 : (k : Int) < (l.length : Int) := by omega
      have HSEP := Lib.hid hsep1; have HOI := Lib.hid hoi1; have HWI := Lib.hid (HW.out.trans hw1); have HH1 := Lib.hid hH1; have HSU := Lib.hid hsu; have HX := Lib.hid hx; have HMX := Lib.hid hmx; have HTX := Lib.hid htx2; have HTE := Lib.hid hT
      have hlmk : k < (midB k0 l k).length := by rw [midB_len _ _ _ hk]; exact hlt
      clear hsep hoi1 r1 r2 r3 r4 r5 hsep1 hw1 hH1 hsu hx hmx htx htx2 hT hcv hc c1 c2 htm0 htm1 htn
      go_upto_region 5 with (fail)
      generalize hX : wr.setCell ⟨g, k * 3, none⟩ (.int .i64 T) = w1 at *
      clear hX c0 f0 hH
      have hcl1 := has_lt HH1.out
      have hcv1 := colV_at (l := (midB k0 l k).set k ⟨T, x.AF, x.F, x.cF, x.AB, x.L, x.cB⟩) (List.getElem?_set_self hlmk)
      dsimp only at hcv1
      obtain ⟨g1, cur1, e1, hg11, hg12, hH1, hc1⟩ : ∃ g1 cur1, (some ⟨g, 0, none⟩ : Option Addr) = some ⟨g1, 0, none⟩ ∧ lo ≤ g1 ∧ g1 < hi ∧ Has w1 g1 53 cur1 ∧ ∀ (j : Nat) (u : Value), (colV ((midB k0 l k).set k ⟨T, x.AF, x.F, x.cF, x.AB, x.L, x.cB⟩))[j]? = some u → cur1[j]? = some u := by
        rcases HOI.out with h | h
        · have := colV_nil h; have hll := congrArg List.length this; simp at hll; rw [hll] at hlmk; simp at hlmk
        · exact h
      injection e1 with e1; injection e1 with e1; subst e1
      have c1 := has_cell hH1 _ (hc1 _ _ hcv1.2.1)
      have hgl1 := has_lt hH1
      clear hH1 hc1 hcv1
      go_wp2_with fail
      obtain ⟨r1, r2, r3, r4, r5⟩ := HSEP.out.row k _ (List.getElem?_set_self hlmk)
      dsimp only at r4 r5
      have hFL := (HSM.out x (List.mem_of_getElem? HX.out)).1
      have hLL := (HSM.out x (List.mem_of_getElem? HX.out)).2
      clear c1
      refine (markInt_any w1 (f k).1 x.AF x.cF x.F (T + 1) hFL (by omega) (by omega) r4.or_).mono ?_
      rintro e w2 ⟨rfl, hm2, hk2⟩
      obtain ⟨hsep2, hw2⟩ := HSEP.out.markF (List.getElem?_set_self hlmk) hm2 hk2 intV_seq ⟨T, x.AF, seqI (T + 1) x.F.length, x.cF, x.AB, x.L, x.cB⟩ rfl rfl rfl rfl
      rw [List.set_set] at hsep2
      have hoi2 := oi_other HOI.out hk2 (by decide)
      have hcs2 := colV_same (l := (midB k0 l k).set k ⟨T, x.AF, x.F, x.cF, x.AB, x.L, x.cB⟩) (y := ⟨T, x.AF, seqI (T + 1) x.F.length, x.cF, x.AB, x.L, x.cB⟩) (List.getElem?_set_self hlmk) rfl rfl (by simp [seqI_len]) rfl rfl rfl rfl
      rw [List.set_set] at hcs2
      rw [← hcs2] at hoi2
      have hwi2 := HWI.out.trans (hw2.wider r1 r3)
      have HSEP2 := Lib.hid hsep2; have HOI2 := Lib.hid hoi2; have HWI2 := Lib.hid hwi2
      clear hsep2 hoi2 hwi2 hcs2 hm2 hk2 hw2 r1 r2 r3 r4 r5
      have hcv2 := colV_at (l := (midB k0 l k).set k ⟨T, x.AF, seqI (T + 1) x.F.length, x.cF, x.AB, x.L, x.cB⟩) (List.getElem?_set_self hlmk)
      dsimp only at hcv2
      obtain ⟨g1, cur2, e1, hg21, hg22, hH2, hc2⟩ : ∃ g1 cur2, (some ⟨g, 0, none⟩ : Option Addr) = some ⟨g1, 0, none⟩ ∧ lo ≤ g1 ∧ g1 < hi ∧ Has w2 g1 53 cur2 ∧ ∀ (j : Nat) (u : Value), (colV ((midB k0 l k).set k ⟨T, x.AF, seqI (T + 1) x.F.length, x.cF, x.AB, x.L, x.cB⟩))[j]? = some u → cur2[j]? = some u := by
        rcases HOI2.out with h | h
        · have := colV_nil h; have hll := congrArg List.length this; simp at hll; rw [hll] at hlmk; simp at hlmk
        · exact h
      injection e1 with e1; injection e1 with e1; subst e1
      have c2 := has_cell hH2 _ (hc2 _ _ hcv2.2.2)
      have hgl2 := has_lt hH2
      clear hH2 hc2 hcv2
      go_wp2_with fail
      clear c2
      obtain ⟨r1, r2, r3, r4, r5⟩ := HSEP2.out.row k _ (List.getElem?_set_self hlmk)
      dsimp only at r4 r5
      refine (markBox_any w2 (f k).1 x.AB x.cB x.L (T + 1 + (x.F.length : Int)) hLL (by omega) (by omega) r5.or_).mono ?_
      rintro e w3 ⟨rfl, hm3, hk3⟩
      obtain ⟨hsep3, hw3⟩ := HSEP2.out.markL (List.getElem?_set_self hlmk) hm3 hk3 boxV_seq (mkC T x) rfl rfl rfl rfl
      rw [List.set_set] at hsep3
      have hoi3 := oi_other HOI2.out hk3 (by decide)
      have hcs3 := colV_same (l := (midB k0 l k).set k ⟨T, x.AF, seqI (T + 1) x.F.length, x.cF, x.AB, x.L, x.cB⟩) (y := mkC T x) (List.getElem?_set_self hlmk) rfl rfl rfl rfl rfl (by simp [mkC, seqB_len]) rfl
      rw [List.set_set] at hcs3
      rw [← hcs3, ← HSU.out] at hoi3
      rw [← HSU.out] at hsep3
      have HB3 := Lib.hid (show BankAt w3 lo hi (some ⟨g, 0, none⟩) (midB k0 l (k + 1)) from ⟨hoi3, f, hsep3⟩)
      have HW3 := Lib.hid (HWI2.out.trans (hw3.wider r1 r3))
      clear hsep3 hoi3 hcs3 hm3 hk3 hw3 r1 r2 r3 r4 r5
      go_wp2
      go_roundw
      case rel => exact ⟨k + 1, by omega, by go_num, by rw [HTX.out], HB3.out, HW3.out⟩
      case measure => simp [intOf]; omega
    · go_wp2
      go_ret
      have hkl : k = l.length := by omega
      subst hkl
      refine ⟨ret_int (by rw [List.take_length]), ?_, HW.out⟩
      have := hba
      unfold midB at this
      rw [List.take_length, List.drop_length, List.append_nil] at this
      exact this

set_option maxRecDepth 100000 in
set_option maxHeartbeats 2000000 in
theorem heldBank_any (w : World) (lo hi : Nat) (A : Option Addr) (n c : Nat) (l : List Cl) (k0 : Int) (hn : n = l.length) (hl : l.length + totK l ≤ 4194304) (hsm : SmallK l) (h0 : 0 ≤ k0) (h1 : k0 ≤ 1000) (h : BankAt w lo hi A (mkB k0 l)) :
    Calls Try.prog 22 #[.slice A n c, .int .i64 k0] w fun e w' => e = .returned (.int .i64 (k0 + totM l)) ∧ Below w.heap.size w w' := by
  subst hn
  have hkl0 := h.kl
  obtain ⟨hoi, f, hsep⟩ := h
  have HKL := Lib.hid hkl0; have HSEP := Lib.hid hsep; have HSM := Lib.hid hsm; clear hoi hsep hkl0 hsm
  go_enter Try.func22, Try.ntmps22
  go_wp2
  go_loopw [1, 5] (fun kv i wr => ∃ (k : Nat), k ≤ l.length ∧ i = .int .i64 k ∧ kv = .int .i64 (k0 + totM (l.take k)) ∧ Below w.heap.size w wr) (fun _ i _ => l.length - (intOf i).toNat)
  case atStart => exact ⟨0, Nat.zero_le _, rfl, by simp [totM], Below.refl _ _⟩
  case round =>
    obtain ⟨k, hk, rfl, rfl, hb⟩ := hrel
    have htm0 := (totM_bd (l.take k)).1
    have htm1 := totM_le (l := l) k
    have HBB := Lib.hid hb
    have hsz := hb.size
    by_cases hlt : k < l.length
    · have hx := List.getElem?_eq_getElem hlt
      obtain ⟨x, hxx⟩ : ∃ x, l[k] = x := ⟨_, rfl⟩
      rw [hxx] at hx
      clear hxx
      have htx := totM_take hx
      have htn := totM_le (l := l) (k + 1)
      obtain ⟨T, hT⟩ : ∃ T, k0 + totM (l.take k) = T := ⟨_, rfl⟩
      have hmx : (mkB k0 l)[k]? = some (mkC T x) := by
        have e : mkB k0 l = midB k0 l l.length := by unfold midB; rw [List.take_length, List.drop_length, List.append_nil]
        have e2 : l = l.take k ++ l.drop k := (List.take_append_drop k l).symm
        rw [← hT]
        have e3 : ∀ (a b : List Cl) (k : Int), mkB k (a ++ b) = mkB k a ++ mkB (k + totM a) b := by
          intro a
          induction a with
          | nil => intro b k; simp [mkB, totM]
          | cons y r ih => intro b k; simp only [List.cons_append, mkB, ih, totM]; congr 3; omega
        rw [e2, e3, List.getElem?_append_right (by rw [mkB_len]; simp; omega), mkB_len, ← e2, midB_at.drop_one_ hx]
        have : k - (l.take k).length = 0 := by simp; omega
        rw [this]; rfl
      obtain ⟨b, off, y, rfl, hbB, hy, hc0, hc1, hc2⟩ := (HKL.out.later (Nat.le_refl _) hb).at_ (k := k) (by rw [mkB_len]; exact hlt)
      obtain rfl : y = mkC T x := by rw [hmx] at hy; injection hy with hy; exact hy.symm
      obtain ⟨r1, r2, r3, r4, r5⟩ := HSEP.out.row k _ hmx
      have hFL := (HSM.out x (List.mem_of_getElem? hx)).1
      have hLL := (HSM.out x (List.mem_of_getElem? hx)).2
      have hIL := (r4.il).later (Nat.le_refl _) hb
      have hXL := (r5.xl).later (Nat.le_refl _) hb
      dsimp only [mkC] at hc0 hc1 hc2 hIL hXL
      rw [seqI_len] at hc1
      rw [seqB_len] at hc2
      have hTb : 0 ≤ T ∧ T + 1 + (x.F.length : Int) + 4 * (x.L.length : Int) ≤ 20000000 := by omega
      obtain ⟨hTb0, hTb1⟩ := hTb
      rw [hT]
      have htx2 : k0 + totM (l.take (k + 1)) = T + 1 + (x.F.length : Int) + 4 * (x.L.length : Int) := by omega
      have HTX := Lib.hid htx2; have HIL := Lib.hid hIL; have HXL := Lib.hid hXL
      have hne : (T != T) = false := by simp
      have hk0 : (0 : Int) ≤ (k : Int) := by omega
      have hk1 : (k : Int) < (l.length : Int) := by omega
      clear htx2 htx hT hmx hy r1 r2 r3 r4 r5 hIL hXL hx htm0 htm1 htn hb
      have hbw : b < wr.heap.size := by omega
      go_wp2_with fail
      refine (heldInt_any wr w.heap.size x.AF x.cF x.F.length (T + 1) hFL (by omega) (by omega) hsz HIL.out).mono ?_
      rintro e w2 ⟨rfl, hb2⟩
      have hz2 := hb2.size
      have c2 := (bold hb2 _ _ hbw).trans hc2
      have HB2 := Lib.hid hb2
      clear hc0 hc1 hc2 hb2
      have hbw2 : b < w2.heap.size := by omega
      go_wp2_with fail
      refine (heldBox_any w2 w.heap.size x.AB x.cB x.L.length (T + 1 + (x.F.length : Int)) hLL (by omega) (by omega) (by omega) (HXL.out.later hsz HB2.out)).mono ?_
      rintro e w3 ⟨rfl, hb3⟩
      have HB3 := Lib.hid (bthen HBB.out (bthen HB2.out hb3))
      clear hb3 c2
      go_wp2
      go_roundw
      case rel => exact ⟨k + 1, by omega, by go_num, by rw [HTX.out], HB3.out⟩
      case measure => simp [intOf]; omega
    · go_wp2
      go_ret
      have hkl : k = l.length := by omega
      subst hkl
      exact ⟨ret_int (by rw [List.take_length]), hb⟩
end Go.Proofs.Ytpoiebebnpelhaa
