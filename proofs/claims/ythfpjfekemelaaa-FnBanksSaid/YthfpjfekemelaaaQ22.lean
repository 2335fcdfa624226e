/- Chapter 2: marking a bank, and reading the marks. -/
import Derived.Test.YthfpjfekemelaaaQ21
import Derived.Deep.DeepCutAuto
import Derived.Deep.CutRange
import Derived.Deep.CutBlock
import Derived.Test.YthfpjfekemelaaaQ05
import Derived.Test.YthfpjfekemelaaaQ06
import Derived.Test.YthfpjfekemelaaaQ20
namespace Go.Proofs.Ythfpjfekemelaaa
open Go.RowKit
set_option linter.unusedVariables false

def mkC (k : Int) (x : Cl) : Cl := ⟨k, x.AF, seqI (k + 1) x.F.length, x.cF, x.AB, seqB (k + 1 + (x.F.length : Int)) x.L.length, x.cB⟩
def mkB : Int → List Cl → List Cl
  | _, [] => []
  | k, x :: r => mkC k x :: mkB (k + 1 + (x.F.length : Int) + 4 * (x.L.length : Int)) r
def totM : List Cl → Int
  | [] => 0
  | x :: r => 1 + (x.F.length : Int) + 4 * (x.L.length : Int) + totM r
theorem totM_snoc : ∀ (l : List Cl) (x : Cl), totM (l ++ [x]) = totM l + (1 + (x.F.length : Int) + 4 * (x.L.length : Int))
  | [], x => by simp [totM]
  | y :: r, x => by simp only [List.cons_append, totM, totM_snoc r]; omega
theorem mkB_snoc : ∀ (l : List Cl) (k : Int) (x : Cl), mkB k (l ++ [x]) = mkB k l ++ [mkC (k + totM l) x]
  | [], k, x => by simp [mkB, totM]
  | y :: r, k, x => by
    simp only [List.cons_append, mkB, mkB_snoc r]
    congr 3
    simp only [totM]; congr 1; omega
theorem mkB_len : ∀ (l : List Cl) (k : Int), (mkB k l).length = l.length
  | [], _ => rfl
  | x :: r, k => by simp [mkB, mkB_len r]
theorem totM_bd : ∀ (l : List Cl), 0 ≤ totM l ∧ totM l ≤ l.length + 4 * totK l
  | [] => by simp [totM, totK]
  | x :: r => by
    have := totM_bd r
    have e : totK (x :: r) = x.F.length + x.L.length + totK r := by simp [totK]
    rw [e]; simp only [totM, List.length_cons]; push_cast; omega
theorem take_snoc {α : Type} {l : List α} {k : Nat} {x : α} (h : l[k]? = some x) : l.take (k + 1) = l.take k ++ [x] := by rw [List.take_add_one, h]; rfl
theorem totM_take {l : List Cl} {k : Nat} {x : Cl} (h : l[k]? = some x) : totM (l.take (k + 1)) = totM (l.take k) + (1 + (x.F.length : Int) + 4 * (x.L.length : Int)) := by rw [take_snoc h, totM_snoc]
theorem totK_app (a b : List Cl) : totK (a ++ b) = totK a + totK b := by simp [totK]
theorem totM_le {l : List Cl} (k : Nat) : totM (l.take k) ≤ l.length + 4 * totK l := by
  have h1 := (totM_bd (l.take k)).2
  have h2 : totK (l.take k) ≤ totK l := by
    have := totK_app (l.take k) (l.drop k)
    rw [List.take_append_drop] at this
    omega
  have h3 : (l.take k).length ≤ l.length := by simp; omega
  omega
/-- the bank while it is being marked -/
def midB (k0 : Int) (l : List Cl) (k : Nat) : List Cl := mkB k0 (l.take k) ++ l.drop k
theorem midB_at {k0 : Int} {l : List Cl} {k : Nat} {x : Cl} (h : l[k]? = some x) : (midB k0 l k)[k]? = some x := by
  have hk : k < l.length := (List.getElem?_eq_some_iff.1 h).1
  unfold midB
  rw [List.getElem?_append_right (by rw [mkB_len]; simp; omega), mkB_len, drop_one_ h]
  have : k - (l.take k).length = 0 := by simp; omega
  rw [this]; rfl
where drop_one_ {l : List Cl} {k : Nat} {a : Cl} (h : l[k]? = some a) : l.drop k = a :: l.drop (k + 1) := by
        have hlt : k < l.length := (List.getElem?_eq_some_iff.1 h).1
        rw [List.drop_eq_getElem_cons hlt]
        have : l[k] = a := by rw [List.getElem?_eq_getElem hlt] at h; injection h
        rw [this]
theorem midB_succ {k0 : Int} {l : List Cl} {k : Nat} {x : Cl} (h : l[k]? = some x) : midB k0 l (k + 1) = (midB k0 l k).set k (mkC (k0 + totM (l.take k)) x) := by
  have hk : k < l.length := (List.getElem?_eq_some_iff.1 h).1
  unfold midB
  rw [take_snoc h, mkB_snoc, midB_at.drop_one_ h, List.append_assoc]
  have e : (mkB k0 (l.take k)).length = k := by rw [mkB_len]; simp; omega
  rw [List.set_append_right _ _ (by omega), e, Nat.sub_self]; rfl
theorem midB_len (k0 : Int) (l : List Cl) (k : Nat) (hk : k ≤ l.length) : (midB k0 l k).length = l.length := by unfold midB; rw [List.length_append, mkB_len]; simp; omega
section
variable {w w' : World} {lo hi g base : Nat} {e e' : TypeId} {A : Option Addr} {xs : List Value} {cur : Array Value} {l : List Cl} {f : Nat → Nat × Nat}
theorem OI.set_other (h : OI w lo hi e A xs) (hh : Has w g e' cur) (hne : e ≠ e') (i : Nat) (v : Value) : OI (w.setCell ⟨g, i, none⟩ v) lo hi e A xs := by
  rcases h with h | ⟨b, cs, rfl, h1, h2, hb, hc⟩
  · exact .inl h
  · refine .inr ⟨b, cs, rfl, h1, h2, has_far hb (p := ⟨g, i, none⟩) (fun eq => ?_) v, hc⟩
    have eq' : b = g := eq
    subst eq'
    have := hb.symm.trans hh
    injection this with this; injection this with _ this _
    exact hne this
theorem RowsSep.same (h : RowsSep w lo hi l f) {k : Nat} {x y : Cl} (hx : l[k]? = some x) (h1 : y.AF = x.AF) (h2 : y.F = x.F) (h3 : y.AB = x.AB) (h4 : y.L = x.L) : RowsSep w lo hi (l.set k y) f := by
  have hk : k < l.length := (List.getElem?_eq_some_iff.1 hx).1
  refine ⟨fun j z hz => ?_, fun i j hi' hj => h.dis i j hi' (by simpa using hj)⟩
  by_cases e : j = k
  · subst e
    rw [List.getElem?_set_self hk] at hz; injection hz with hz; subst hz
    rw [h1, h2, h3, h4]; exact h.row j x hx
  · rw [List.getElem?_set_ne (fun e' => e e'.symm)] at hz
    exact h.row j z hz
theorem RowsSep.other (h : RowsSep w lo hi l f) (hh : Has w g e' cur) (h1 : 3 ≠ e') (h2 : 65 ≠ e') (i : Nat) (v : Value) : RowsSep (w.setCell ⟨g, i, none⟩ v) lo hi l f :=
  ⟨fun k x hx => by obtain ⟨q1, q2, q3, q4, q5⟩ := h.row k x hx; exact ⟨q1, q2, q3, q4.set_other hh h1 i v, q5.set_other hh h2 i v⟩, h.dis⟩
theorem RowsSep.markF (h : RowsSep w lo hi l f) {k : Nat} {x : Cl} (hx : l[k]? = some x) {F' : List Int} (hm : OR w' base 3 x.AF (intV F')) (hk : Marks w base 3 x.AF (intV x.F) w') (he : intV x.F = [] → intV F' = []) (y : Cl) (h1 : y.AF = x.AF) (h2 : y.F = F') (h3 : y.AB = x.AB) (h4 : y.L = x.L) : RowsSep w' lo hi (l.set k y) f ∧ Within (f k).1 (f k).2 w w' := by
  have hkl : k < l.length := (List.getElem?_eq_some_iff.1 hx).1
  obtain ⟨r1, r2, r3, r4, r5⟩ := h.row k x hx
  have hw := within_marks r4 hk
  refine ⟨⟨fun j z hz => ?_, fun i j hi' hj => h.dis i j hi' (by simpa using hj)⟩, hw⟩
  by_cases e : j = k
  · subst e
    rw [List.getElem?_set_self hkl] at hz; injection hz with hz; subst hz
    rw [h1, h2, h3, h4]
    exact ⟨r1, r2, r3, oi_marked r4 hm he, oi_other r5 hk (by decide)⟩
  · rw [List.getElem?_set_ne (fun e' => e e'.symm)] at hz
    obtain ⟨q1, q2, q3, q4, q5⟩ := h.row j z hz
    have hjl : j < l.length := (List.getElem?_eq_some_iff.1 hz).1
    have hd : (f j).2 ≤ (f k).1 ∨ (f k).2 ≤ (f j).1 := by
      rcases Nat.lt_or_ge j k with hlt | hge
      · exact h.dis j k hlt hkl
      · exact (h.dis k j (by omega) hjl).symm
    exact ⟨q1, q2, q3, hw.oi q4 hd, hw.oi q5 hd⟩
theorem RowsSep.markL (h : RowsSep w lo hi l f) {k : Nat} {x : Cl} (hx : l[k]? = some x) {L' : List Bx} (hm : OR w' base 65 x.AB (boxV L')) (hk : Marks w base 65 x.AB (boxV x.L) w') (he : boxV x.L = [] → boxV L' = []) (y : Cl) (h1 : y.AF = x.AF) (h2 : y.F = x.F) (h3 : y.AB = x.AB) (h4 : y.L = L') : RowsSep w' lo hi (l.set k y) f ∧ Within (f k).1 (f k).2 w w' := by
  have hkl : k < l.length := (List.getElem?_eq_some_iff.1 hx).1
  obtain ⟨r1, r2, r3, r4, r5⟩ := h.row k x hx
  have hw := within_marks r5 hk
  refine ⟨⟨fun j z hz => ?_, fun i j hi' hj => h.dis i j hi' (by simpa using hj)⟩, hw⟩
  by_cases e : j = k
  · subst e
    rw [List.getElem?_set_self hkl] at hz; injection hz with hz; subst hz
    rw [h1, h2, h3, h4]
    exact ⟨r1, r2, r3, oi_other r4 hk (by decide), oi_marked r5 hm he⟩
  · rw [List.getElem?_set_ne (fun e' => e e'.symm)] at hz
    obtain ⟨q1, q2, q3, q4, q5⟩ := h.row j z hz
    have hjl : j < l.length := (List.getElem?_eq_some_iff.1 hz).1
    have hd : (f j).2 ≤ (f k).1 ∨ (f k).2 ≤ (f j).1 := by
      rcases Nat.lt_or_ge j k with hlt | hge
      · exact h.dis j k hlt hkl
      · exact (h.dis k j (by omega) hjl).symm
    exact ⟨q1, q2, q3, hw.oi q4 hd, hw.oi q5 hd⟩
theorem Within.wider {lo' hi' : Nat} (h : Within lo hi w w') (h1 : lo' ≤ lo) (h2 : hi ≤ hi') : Within lo' hi' w w' := ⟨h.1, fun k hk ho => h.2 k hk (by omega)⟩
end
theorem colV_same {l : List Cl} {k : Nat} {x y : Cl} (hx : l[k]? = some x) (h0 : y.z = x.z) (h1 : y.AF = x.AF) (h2 : y.F.length = x.F.length) (h3 : y.cF = x.cF) (h4 : y.AB = x.AB) (h5 : y.L.length = x.L.length) (h6 : y.cB = x.cB) : colV (l.set k y) = colV l := by
  have hk : k < l.length := (List.getElem?_eq_some_iff.1 hx).1
  have := colV_at hx
  rw [colV_set hk, h0, h1, h2, h3, h4, h5, h6]
  rw [set_same this.1, set_same this.2.1, set_same this.2.2]
where set_same {l : List Value} {k : Nat} {v : Value} (h : l[k]? = some v) : l.set k v = l := by
        apply List.ext_getElem?
        intro i
        by_cases e : i = k
        · subst e
          have hk : i < l.length := (List.getElem?_eq_some_iff.1 h).1
          rw [List.getElem?_set_self hk, h]
        · rw [List.getElem?_set_ne (fun e' => e e'.symm)]

end Go.Proofs.Ythfpjfekemelaaa
namespace Go.Proofs.Ythfpjfekemelaaa
open Go.RowKit
set_option linter.unusedVariables false

theorem src_cl {w : World} {g : Nat} {x : Cl} {t : TypeId} (h : Has w g t #[.int .i64 x.z, .slice x.AF x.F.length x.cF, .slice x.AB x.L.length x.cB]) : Src w (some ⟨g, 0, none⟩) 1 3 (colC x) := by
  refine ⟨rfl, fun u hu => ?_, (fun e => by cases e), fun ad e j u hu => ?_⟩
  · simp [colC] at hu
    rcases hu with rfl | rfl | rfl <;> rfl
  · injection e with e; subst e
    rw [addrK, Nat.zero_add, cell_of_row w g j _ t (0, 0) h]
    simpa [colC] using hu
theorem colV_snoc (l : List Cl) (x : Cl) : colV (l ++ [x]) = colV l ++ colC x := by simp [colV]
theorem OI.grown {w w' : World} {lo hi base : Nat} {e e' : TypeId} {A : Option Addr} {xs : List Value} {row : Option Nat} (h : OI w lo hi e A xs) (hg : w.grownBy w' row) (hr : ∀ b, row = some b → base ≤ b ∧ ∃ cur, Has w b e' cur) (hne : e ≠ e') : OI w' lo hi e A xs := by
  rcases h with h | ⟨g, cur, rfl, h1, h2, hh, hc⟩
  · exact .inl h
  · refine .inr ⟨g, cur, rfl, h1, h2, has_grown hh hg (fun eq => ?_), hc⟩
    obtain ⟨_, cur', h'⟩ := hr g eq.symm
    have := hh.symm.trans h'
    injection this with this; injection this with _ this _
    exact hne this
theorem RowsSep.grown {w w' : World} {lo hi base : Nat} {l : List Cl} {f : Nat → Nat × Nat} {row : Option Nat} (h : RowsSep w lo hi l f) (hg : w.grownBy w' row) (hr : ∀ b, row = some b → base ≤ b ∧ ∃ cur, Has w b 57 cur) : RowsSep w' lo hi l f :=
  ⟨fun k x hx => by obtain ⟨h1, h2, h3, h4, h5⟩ := h.row k x hx; exact ⟨h1, h2, h3, h4.grown hg hr (by decide), h5.grown hg hr (by decide)⟩, h.dis⟩
/-- the answer is a bank of the call's own, with the same columns -/
def BankAns0 (l : List Cl) (w : World) (e : Ending) (w' : World) : Prop := ∃ A' c' l', e = .returned (.slice A' l'.length c') ∧ l'.map cont = l.map cont ∧ BankAt w' w.heap.size w'.heap.size A' l' ∧ Below w.heap.size w w'
theorem bank_of_own {w : World} {base : Nat} {A : Option Addr} {c : Nat} {l : List Cl} {f : Nat → Nat × Nat} (h : w.ownsRow base 57 3 (.slice A l.length c) l.length (colV l)) (hs : RowsSep w base w.heap.size l f) : BankAt w base w.heap.size A l := ⟨OI.of_or (or_of h), f, hs⟩

set_option maxRecDepth 100000 in
set_option maxHeartbeats 4000000 in
theorem cpyI_any (w : World) (B : Nat) (A : Option Addr) (n c : Nat) (l : List Cl) (hn : n = l.length) (hl : l.length ≤ 1048576) (hsm : SmallK l) (hB : B ≤ w.heap.size) (hS : KL w B A l) (hV : ∀ x ∈ l, CV w B x) :
    Calls Try.prog 27 #[.slice A n c] w (BankAns0 l w) := by
  subst hn
  obtain ⟨j0, hj0, hy0, hy1, hy2⟩ := info_parts colInfo
  have hmk : ∀ W : World, (Instr.makeSlice 24 (.int .i64 0) (.int .i64 (l.length : Int))).run Try.prog W = .ok (.slice (some ⟨W.heap.size, 0, none⟩) 0 l.length) (W.alloc (.cells (madeCells #[.int .i64 0, .slice none 0 0, .slice none 0 0] (l.length * 3)) 57)) := by
    intro W
    have := run_make (P := Try.prog) W 24 57 j0 _ Try.underlying24 hj0 hy0 .i64 .i64 0 (l.length : Int) (by omega) (by omega) (by rw [hy2]; omega) (by omega)
    simpa [hy1, Value.cells] using this
  have HS := Lib.hid hS; have HV := Lib.hid hV; have HSM := Lib.hid hsm; clear hS hV hsm
  go_enter Try.func27, Try.ntmps27
  go_wp2_with fail
  generalize hW1 : w.alloc (.cells (madeCells #[.int .i64 0, .slice none 0 0, .slice none 0 0] (l.length * 3)) 57) = w1
  have own1 : w1.ownsRow w.heap.size 57 3 (.slice (some ⟨w.heap.size, 0, none⟩) 0 l.length) 0 [] := by rw [← hW1]; exact World.ownsRow_made w _ _ (Nat.le_refl _) (by unfold maxLen; omega) (by simp [size_madeCells])
  have b1 : Below w.heap.size w w1 := by rw [← hW1]; exact balloc _ _
  clear hW1
  have OW1 := Lib.hid own1; clear own1
  have hz1 := b1.size
  clear hmk
  go_loopw [3, 11] (fun gv i wr => ∃ (k : Nat) (A' : Option Addr) (c' : Nat) (l' : List Cl), k ≤ l.length ∧ i = .int .i64 k ∧ l'.map cont = (l.take k).map cont ∧ gv = .slice A' l'.length c' ∧ wr.ownsRow w.heap.size 57 3 (.slice A' l'.length c') l'.length (colV l') ∧ (∃ f, RowsSep wr w.heap.size wr.heap.size l' f) ∧ Below w.heap.size w wr) (fun _ i _ => l.length - (intOf i).toNat)
  case atStart => exact ⟨0, _, l.length, [], Nat.zero_le _, rfl, rfl, rfl, OW1.out, ⟨fun _ => (0, 0), ⟨fun k x h => by simp at h, fun j k _ hk => by simp at hk⟩⟩, b1⟩
  case round =>
    obtain ⟨k, A', c', l', hk, rfl, hct, rfl, how, hro, hb⟩ := hrel
    have hll : l'.length ≤ 1048576 := by have := congrArg List.length hct; simp at this; omega
    have hsz := hb.size
    have HCT := Lib.hid hct; have HOW := Lib.hid how; have HRO := Lib.hid hro; have HBB := Lib.hid hb; clear hct how hro
    by_cases hlt : k < l.length
    · obtain ⟨b, off, x, rfl, hbB, hx, hc0, hc1, hc2⟩ := (HS.out.later hB hb).at_ hlt
      have hv := (HV.out x (List.mem_of_getElem? hx)).later hB hb
      have hs := HSM.out x (List.mem_of_getElem? hx)
      have HX := Lib.hid hx; have HVX := Lib.hid hv; have HSX := Lib.hid hs; clear hx hv hs hb
      have hbw : b < wr.heap.size := by omega
      have hll2 : l'.length + 1 ≤ 1048576 := by have := congrArg List.length HCT.out; simp at this; omega
      go_wp2_with fail
      generalize hX : wr.alloc (.cells #[.int .i64 x.z, .slice x.AF x.F.length x.cF, .slice x.AB x.L.length x.cB] 57) = w3
      have b3 : Below wr.heap.size wr w3 := by rw [← hX]; exact balloc _ _
      have k3 : Has w3 wr.heap.size 57 #[.int .i64 x.z, .slice x.AF x.F.length x.cF, .slice x.AB x.L.length x.cB] := by rw [← hX]; exact has_new _ _ _
      clear hX hc0 hc1 hc2
      have hz3 := b3.size
      refine (copyI_any w3 B x HSX.out.1 HSX.out.2 (by omega) (HVX.out.later (by omega) b3)).mono ?_
      rintro e w4 ⟨A2, A3, n2, n3, rfl, ho2, ho3, hb4⟩
      have c4 := bthen b3 hb4
      have hz4 := hb4.size
      have b5 : Below w4.heap.size w4 (w4.alloc (.cells #[.int .i64 x.z, .slice A2 x.F.length n2, .slice A3 x.L.length n3] 57)) := balloc _ _
      have HN5 := Lib.hid (show Has (w4.alloc (.cells #[.int .i64 x.z, .slice A2 x.F.length n2, .slice A3 x.L.length n3] 57)) (w4.heap.size) 57 #[.int .i64 x.z, .slice A2 x.F.length n2, .slice A3 x.L.length n3] by exact has_new _ _ _)
      have OW5 := Lib.hid (own_callG (own_callG HOW.out c4) b5)
      obtain ⟨f, hf⟩ := HRO.out
      have hsp := ((hf.call c4).wider (Nat.le_refl _) (show wr.heap.size ≤ w3.heap.size by omega)).snoc (x := ⟨x.z, A2, x.F, n2, A3, x.L, n3⟩) (a := w3.heap.size) (b := w4.heap.size) (Nat.le_refl _) hz4 (by omega) (OI.of_or ho2) (OI.of_or ho3)
      have HSP := Lib.hid (hsp.call b5); have HB5 := Lib.hid ((HBB.out.trans (c4.mono hsz)).trans (b5.mono (by omega)))
      clear ho2 ho3 hb4 hsp c4 b5 hf
      go_wp2_with (at_builtin; go_must (refine list_app rfl _ _ 24 rfl w.heap.size 57 j0 (.agg #[.int .i64 0, .slice none 0 0, .slice none 0 0]) 3 56 Try.underlying24 hj0 hy0 hy1 hy2 rfl (by decide) _ l'.length _ rfl OW5.out (some ⟨w4.heap.size, 0, none⟩) 1 1 (colC ⟨x.z, A2, x.F, n2, A3, x.L, n3⟩) rfl (src_cl (x := ⟨x.z, A2, x.F, n2, A3, x.L, n3⟩) HN5.out) (by unfold maxLen; omega) (by omega) (by simp; omega) ?_))
      intro A6 c6 w6 hown6 hgrow6 hrow6
      have hb6 : Below w.heap.size w w6 := HB5.out.grown hgrow6 (by simp; omega) (fun b hb => (hrow6 b hb).1)
      have hsp6 := HSP.out.grown hgrow6 hrow6
      have hz6 := hgrow6.size
      rw [← colV_snoc] at hown6
      obtain ⟨l6, hl6⟩ : ∃ l6, l' ++ [⟨x.z, A2, x.F, n2, A3, x.L, n3⟩] = l6 := ⟨_, rfl⟩
      have hll6 : l'.length + 1 = l6.length := by rw [← hl6]; simp
      have hct6 : l6.map cont = (l.take (k + 1)).map cont := by rw [← hl6]; exact cont_snoc HCT.out HX.out rfl
      rw [hl6] at hown6 hsp6
      rw [hll6] at hown6 ⊢
      have hsp7 := hsp6.wider (Nat.le_refl _) (show w4.heap.size ≤ w6.heap.size by simp at hz6; omega)
      have OW6 := Lib.hid hown6; have HB6 := Lib.hid hb6; have HSP6 := Lib.hid hsp7; have HCT6 := Lib.hid hct6
      clear hl6 hll6 hct6 hown6 hgrow6 hrow6 hb6 hsp6 hsp7 hz6
      go_wp2
      go_roundw
      case rel => exact ⟨k + 1, A6, c6, l6, by omega, by go_num, HCT6.out, rfl, OW6.out, ⟨_, HSP6.out⟩, HB6.out⟩
      case measure => simp [intOf]; omega
    · go_wp2
      go_ret
      have hkl : k = l.length := by omega
      have hct := HCT.out
      rw [hkl, List.take_length] at hct
      obtain ⟨f, hf⟩ := HRO.out
      exact ⟨A', c', l', rfl, hct, bank_of_own HOW.out hf, HBB.out⟩

set_option maxRecDepth 100000 in
set_option maxHeartbeats 4000000 in
theorem cpyS_any (w : World) (B : Nat) (A : Option Addr) (n c : Nat) (l : List Cl) (hn : n = l.length) (hl : l.length ≤ 1048576) (hsm : SmallK l) (hB : B ≤ w.heap.size) (hS : KL w B A l) (hV : ∀ x ∈ l, CV w B x) :
    Calls Try.prog 31 #[.slice A n c] w (BankAns0 l w) := by
  subst hn
  obtain ⟨j0, hj0, hy0, hy1, hy2⟩ := info_parts colInfo
  have HS := Lib.hid hS; have HV := Lib.hid hV; have HSM := Lib.hid hsm; clear hS hV hsm
  go_enter Try.func31, Try.ntmps31
  go_wp2_with fail
  generalize hW1 : w.alloc (.cells #[] 57) = w1
  have own1 : w1.ownsRow w.heap.size 57 3 (.slice (some ⟨w.heap.size, 0, none⟩) 0 0) 0 [] := by rw [← hW1]; exact owns_new _ _ _ _ (Nat.le_refl _)
  have b1 : Below w.heap.size w w1 := by rw [← hW1]; exact balloc _ _
  clear hW1
  have OW1 := Lib.hid own1; clear own1
  have hz1 := b1.size
  skip
  go_loopw [3, 4] (fun gv i wr => ∃ (k : Nat) (A' : Option Addr) (c' : Nat) (l' : List Cl), k ≤ l.length ∧ i = .int .i64 k ∧ l'.map cont = (l.take k).map cont ∧ gv = .slice A' l'.length c' ∧ wr.ownsRow w.heap.size 57 3 (.slice A' l'.length c') l'.length (colV l') ∧ (∃ f, RowsSep wr w.heap.size wr.heap.size l' f) ∧ Below w.heap.size w wr) (fun _ i _ => l.length - (intOf i).toNat)
  case atStart => exact ⟨0, _, 0, [], Nat.zero_le _, rfl, rfl, rfl, OW1.out, ⟨fun _ => (0, 0), ⟨fun k x h => by simp at h, fun j k _ hk => by simp at hk⟩⟩, b1⟩
  case round =>
    obtain ⟨k, A', c', l', hk, rfl, hct, rfl, how, hro, hb⟩ := hrel
    have hll : l'.length ≤ 1048576 := by have := congrArg List.length hct; simp at this; omega
    have hsz := hb.size
    have HCT := Lib.hid hct; have HOW := Lib.hid how; have HRO := Lib.hid hro; have HBB := Lib.hid hb; clear hct how hro
    by_cases hlt : k < l.length
    · obtain ⟨b, off, x, rfl, hbB, hx, hc0, hc1, hc2⟩ := (HS.out.later hB hb).at_ hlt
      have hv := (HV.out x (List.mem_of_getElem? hx)).later hB hb
      have hs := HSM.out x (List.mem_of_getElem? hx)
      have HX := Lib.hid hx; have HVX := Lib.hid hv; have HSX := Lib.hid hs; clear hx hv hs hb
      have hbw : b < wr.heap.size := by omega
      have hll2 : l'.length + 1 ≤ 1048576 := by have := congrArg List.length HCT.out; simp at this; omega
      go_wp2_with fail
      refine (copyS_any wr B x HSX.out.1 HSX.out.2 (by omega) HVX.out).mono ?_
      rintro e w4 ⟨A2, A3, n2, n3, rfl, ho2, ho3, hb4⟩
      clear hc0 hc1 hc2
      have hz3 : wr.heap.size ≤ wr.heap.size := Nat.le_refl _
      have c4 := hb4
      have hz4 := hb4.size
      have b5 : Below w4.heap.size w4 ((w4.alloc (.cells #[.int .i64 x.z, .slice A2 x.F.length n2, .slice A3 x.L.length n3] 57)).alloc (.cells #[.int .i64 x.z, .slice A2 x.F.length n2, .slice A3 x.L.length n3] 57)) := bthen (balloc _ _) (balloc _ _)
      have HN5 := Lib.hid (show Has ((w4.alloc (.cells #[.int .i64 x.z, .slice A2 x.F.length n2, .slice A3 x.L.length n3] 57)).alloc (.cells #[.int .i64 x.z, .slice A2 x.F.length n2, .slice A3 x.L.length n3] 57)) (w4.heap.size + 1) 57 #[.int .i64 x.z, .slice A2 x.F.length n2, .slice A3 x.L.length n3] by have := has_new (w4.alloc (.cells #[.int .i64 x.z, .slice A2 x.F.length n2, .slice A3 x.L.length n3] 57)) 57 #[.int .i64 x.z, .slice A2 x.F.length n2, .slice A3 x.L.length n3]; simpa using this)
      have OW5 := Lib.hid (own_callG (own_callG HOW.out c4) b5)
      obtain ⟨f, hf⟩ := HRO.out
      have hsp := ((hf.call c4).wider (Nat.le_refl _) (show wr.heap.size ≤ wr.heap.size by omega)).snoc (x := ⟨x.z, A2, x.F, n2, A3, x.L, n3⟩) (a := wr.heap.size) (b := w4.heap.size) (Nat.le_refl _) hz4 (by omega) (OI.of_or ho2) (OI.of_or ho3)
      have HSP := Lib.hid (hsp.call b5); have HB5 := Lib.hid ((HBB.out.trans (c4.mono hsz)).trans (b5.mono (by omega)))
      clear ho2 ho3 hb4 hsp c4 b5 hf
      go_wp2_with (at_builtin; go_must (refine list_app rfl _ _ 24 rfl w.heap.size 57 j0 (.agg #[.int .i64 0, .slice none 0 0, .slice none 0 0]) 3 56 Try.underlying24 hj0 hy0 hy1 hy2 rfl (by decide) _ l'.length _ rfl OW5.out (some ⟨w4.heap.size + 1, 0, none⟩) 1 1 (colC ⟨x.z, A2, x.F, n2, A3, x.L, n3⟩) rfl (src_cl (x := ⟨x.z, A2, x.F, n2, A3, x.L, n3⟩) HN5.out) (by unfold maxLen; omega) (by omega) (by simp; omega) ?_))
      intro A6 c6 w6 hown6 hgrow6 hrow6
      have hb6 : Below w.heap.size w w6 := HB5.out.grown hgrow6 (by simp; omega) (fun b hb => (hrow6 b hb).1)
      have hsp6 := HSP.out.grown hgrow6 hrow6
      have hz6 := hgrow6.size
      rw [← colV_snoc] at hown6
      obtain ⟨l6, hl6⟩ : ∃ l6, l' ++ [⟨x.z, A2, x.F, n2, A3, x.L, n3⟩] = l6 := ⟨_, rfl⟩
      have hll6 : l'.length + 1 = l6.length := by rw [← hl6]; simp
      have hct6 : l6.map cont = (l.take (k + 1)).map cont := by rw [← hl6]; exact cont_snoc HCT.out HX.out rfl
      rw [hl6] at hown6 hsp6
      rw [hll6] at hown6 ⊢
      have hsp7 := hsp6.wider (Nat.le_refl _) (show w4.heap.size ≤ w6.heap.size by simp at hz6; omega)
      have OW6 := Lib.hid hown6; have HB6 := Lib.hid hb6; have HSP6 := Lib.hid hsp7; have HCT6 := Lib.hid hct6
      clear hl6 hll6 hct6 hown6 hgrow6 hrow6 hb6 hsp6 hsp7 hz6
      go_wp2
      go_roundw
      case rel => exact ⟨k + 1, A6, c6, l6, by omega, by go_num, HCT6.out, rfl, OW6.out, ⟨_, HSP6.out⟩, HB6.out⟩
      case measure => simp [intOf]; omega
    · go_wp2
      go_ret
      have hkl : k = l.length := by omega
      have hct := HCT.out
      rw [hkl, List.take_length] at hct
      obtain ⟨f, hf⟩ := HRO.out
      exact ⟨A', c', l', rfl, hct, bank_of_own HOW.out hf, HBB.out⟩
end Go.Proofs.Ythfpjfekemelaaa
namespace Go.Proofs.Ythfpjfekemelaaa
open Go.RowKit
set_option linter.unusedVariables false

/-- the rows of the columns are of the call's own -/
def OwnK (w : World) (base : Nat) (l : List Cl) : Prop := ∀ x ∈ l, OQ x.cF w base 3 x.AF (intV x.F) ∧ OR w base 65 x.AB (boxV x.L)
section
variable {w w' : World} {base g : Nat} {l : List Cl}
theorem OwnK.below (h : OwnK w base l) (hb : Below w.heap.size w w') : OwnK w' base l := fun x hx => ⟨(h x hx).1.below hb, (h x hx).2.below hb⟩
theorem OwnK.only (h : OwnK w base l) (ho : Only w g w') (hg : g < base) : OwnK w' base l := fun x hx => ⟨oq_only (h x hx).1 ho hg, or_only (h x hx).2 ho hg⟩
theorem OwnK.grown {row : Option Nat} (h : OwnK w base l) (hg : w.grownBy w' row) (hr : ∀ b, row = some b → ∃ cur, Has w b 57 cur) : OwnK w' base l := fun x hx => ⟨OQ.grown_ (h x hx).1 hg hr (by decide), OR.grown_ (h x hx).2 hg hr (by decide)⟩
theorem OwnK.other {e : TypeId} {k : Nat} {cur : Array Value} (h : OwnK w base l) (hh : Has w k e cur) (h1 : 3 ≠ e) (h2 : 65 ≠ e) (i : Nat) (v : Value) : OwnK (w.setCell ⟨k, i, none⟩ v) base l := fun x hx => ⟨OQ.set_other (h x hx).1 hh h1 i v, OR.set_other (h x hx).2 hh h2 i v⟩
theorem OwnK.more {B : Nat} (h : OwnK w base l) (hB : B ≤ base) : OwnK w B l := fun x hx => ⟨(h x hx).1.more hB, (h x hx).2.more hB⟩
theorem OwnK.snoc {x : Cl} (h : OwnK w base l) (h1 : OQ x.cF w base 3 x.AF (intV x.F)) (h2 : OR w base 65 x.AB (boxV x.L)) : OwnK w base (l ++ [x]) := fun y hy => by
  rcases List.mem_append.1 hy with hy | hy
  · exact h y hy
  · simp at hy; subst hy; exact ⟨h1, h2⟩
theorem OwnK.cv (h : OwnK w base l) (hs : SmallK l) : ∀ x ∈ l, CV w w.heap.size x := fun x hx => ⟨(h x hx).1.il, (h x hx).2.xl, by have := (hs x hx).1; unfold maxLen; omega, by have := (hs x hx).2; unfold maxLen; omega⟩
theorem own3_only {A : Option Addr} {k n : Nat} {xs : List Value} (h : w.ownsRow base 57 3 (.slice A k n) k xs) (ho : Only w g w') (hg : g < base) : w'.ownsRow base 57 3 (.slice A k n) k xs := by
  obtain ⟨h1, h2 | ⟨b, cap, cur, hv, hb, hh, r⟩⟩ := h
  · exact ⟨h1, .inl h2⟩
  · exact ⟨h1, .inr ⟨b, cap, cur, hv, hb, has_only hh ho (by omega), r⟩⟩
theorem own3_more {A : Option Addr} {k n B : Nat} {xs : List Value} (h : w.ownsRow base 57 3 (.slice A k n) k xs) (hB : B ≤ base) : w.ownsRow B 57 3 (.slice A k n) k xs := by
  obtain ⟨h1, h2 | ⟨b, cap, cur, hv, hb, r⟩⟩ := h
  · exact ⟨h1, .inl h2⟩
  · exact ⟨h1, .inr ⟨b, cap, cur, hv, by omega, r⟩⟩
theorem only_grown0 {a : World} {row : Option Nat} (h : Only a g w) (hgrow : w.grownBy w' row) (hrow : ∀ b, row = some b → a.heap.size ≤ b) : Only a g w' :=
  ⟨hgrow.os.trans h.os, hgrow.tape.trans h.tape, hgrow.output.trans h.output, Nat.le_trans h.size hgrow.size, fun j hj hne => (hgrow.block j (Nat.lt_of_lt_of_le hj h.size) (fun e => by have := hrow j e.symm; omega)).trans (h.block j hj hne)⟩
/-- what the rows of a bank of the call's own read as -/
theorem own3_kl {A : Option Addr} {n : Nat} (h : w.ownsRow base 57 3 (.slice A l.length n) l.length (colV l)) : KL w w.heap.size A l := by
  rcases or_of h with h | ⟨b, cur, rfl, hb, hh, hc⟩
  · exact .inl (colV_nil h)
  · refine .inr ⟨b, 0, rfl, has_lt hh, fun k x hx => ?_⟩
    obtain ⟨h1, h2, h3⟩ := colV_at hx
    have e : ∀ i, w.cell? ⟨b, 0 + k * 3 + i, none⟩ = cur[k * 3 + i]? := fun i => by rw [Nat.zero_add, cell_of_row w b _ _ _ (0, 0) hh]
    have e0 := e 0
    rw [Nat.add_zero, Nat.add_zero] at e0
    exact ⟨e0.trans (hc _ _ h1), (e 1).trans (hc _ _ h2), (e 2).trans (hc _ _ h3)⟩
end
def DrawnBank (P : List Cl → Prop) (w : World) (B g : Nat) (e : Ending) (w' : World) : Prop := ∃ (l : List Cl) (A : Option Addr) (c : Nat), e = .returned (.slice A l.length c) ∧ P l ∧ w'.ownsRow w.heap.size 57 3 (.slice A l.length c) l.length (colV l) ∧ OwnK w' w.heap.size l ∧ Cur w' B g ∧ Only w g w'
/-- the columns of a drawn bank -/
def ColsD (l : List Cl) : Prop := ∀ (k : Nat) (x : Cl), l[k]? = some x → ColV (1 + 6 * (k : Int)) x.z x.F x.L
def BankD (l : List Cl) : Prop := (1 ≤ l.length ∧ l.length ≤ 3) ∧ ColsD l
theorem colsD_snoc {l : List Cl} {x : Cl} (h : ColsD l) (hx : ColV (1 + 6 * (l.length : Int)) x.z x.F x.L) : ColsD (l ++ [x]) := fun k y hy => by
  rcases Nat.lt_or_ge k l.length with hk | hk
  · rw [List.getElem?_append_left hk] at hy; exact h k y hy
  · rw [List.getElem?_append_right hk] at hy
    have hk2 : k - l.length = 0 := by
      have := (List.getElem?_eq_some_iff.1 hy).1
      simp at this; omega
    rw [hk2] at hy
    have hk3 : k = l.length := by omega
    simp at hy; subst hy; subst hk3; exact hx
set_option maxRecDepth 100000 in
set_option maxHeartbeats 4000000 in
theorem bankD_any (w : World) (B g : Nat) (hC : Cur w B g) : Calls Try.prog 46 #[.pointer (some ⟨g, 0, none⟩)] w (DrawnBank BankD w B g) := by
  have hlt := hC.lt; obtain ⟨hB, hg⟩ := hlt
  obtain ⟨j0, hj0, hy0, hy1, hy2⟩ := info_parts colInfo
  have HJ0 := Lib.hid hj0; have HY0 := Lib.hid hy0; have HY1 := Lib.hid hy1; have HY2 := Lib.hid hy2; clear hj0 hy0 hy1 hy2
  have HC := Lib.hid hC; clear hC
  have HO := Lib.hid (only_refl w g)
  go_enter Try.func46, Try.ntmps46
  go_wp2_with fail
  generalize hW1 : w.alloc (.cells #[] 57) = w1
  have own1 : w1.ownsRow w.heap.size 57 3 (.slice (some ⟨w.heap.size, 0, none⟩) 0 0) 0 [] := by rw [← hW1]; exact owns_new _ _ _ _ (Nat.le_refl _)
  have hb : Below w.heap.size w w1 := by rw [← hW1]; exact balloc _ _
  clear hW1
  have kk := HC.out.belC hb; clear HC; have HC := Lib.hid kk; clear kk
  have kk := only_trans HO.out (only_belC (g := g) hb); clear HO; have HO := Lib.hid kk; clear kk
  have OW := Lib.hid own1; clear own1
  have hz1 := hb.size; clear hb
  refine (below_any w1 B g 3 (by omega) (by omega) HC.out).mono ?_
  rintro e w2 ⟨x0, hx00, hx01, rfl, hC9, hO9⟩
  have kk := own3_only OW.out hO9 hg; clear OW; have OW := Lib.hid kk; clear kk
  have kk := only_trans HO.out hO9; clear HO; have HO := Lib.hid kk; clear kk
  clear HC; have HC := Lib.hid hC9; have hz2 := hO9.size; clear hC9 hO9
  obtain ⟨n0, hn0⟩ := Int.eq_ofNat_of_zero_le hx00; subst hn0
  have hn3 : n0 ≤ 2 := by omega
  go_wp2_with fail
  go_loopw [3, 4] (fun ov nv wr => ∃ (k : Nat) (l : List Cl) (A' : Option Addr) (c' : Nat), nv = .int .i64 (k : Int) ∧ l.length + k = 1 + n0 ∧ ov = .slice A' l.length c' ∧ ColsD l ∧ wr.ownsRow w.heap.size 57 3 (.slice A' l.length c') l.length (colV l) ∧ OwnK wr w.heap.size l ∧ Cur wr B g ∧ Only w g wr) (fun _ nv _ => (intOf nv).toNat)
  case atStart => exact ⟨1 + n0, [], _, 0, by go_num, by simp, rfl, fun k x h => by simp at h, OW.out, fun x h => by simp at h, HC.out, HO.out⟩
  case round =>
    obtain ⟨k, l, A', c', rfl, hlk, rfl, hcd, how, hok, hC9, hO9⟩ := hrel
    clear HC HO OW
    have hsw := hO9.size
    have HC := Lib.hid hC9; have HO := Lib.hid hO9; have OW := Lib.hid how; have OK := Lib.hid hok; have CD := Lib.hid hcd; clear hC9 hO9 how hok hcd
    have hll : l.length ≤ 3 := by omega
    rcases k with _ | k
    · go_wp2_with fail
      go_ret
      exact ⟨l, A', c', rfl, ⟨by omega, CD.out⟩, OW.out, OK.out, HC.out, HO.out⟩
    · have hgt : (0 : Int) < ((k + 1 : Nat) : Int) := by omega
      go_wp2_with fail
      refine (colD_any wr B g (1 + 6 * (l.length : Int)) (by omega) (by omega) HC.out).mono ?_
      rintro e w3 ⟨z, F, L, A1, A2, n1, n2, rfl, hV, or1, or2, hC9, hO9⟩
      have hz3 := hO9.size
      have kk := own3_only OW.out hO9 hg; clear OW; have OW := Lib.hid kk; clear kk
      have kk := OK.out.only hO9 hg; clear OK; have OK := Lib.hid kk; clear kk
      have kk := only_trans HO.out hO9; clear HO; have HO := Lib.hid kk; clear kk
      clear HC; have HC := Lib.hid hC9; clear hC9 hO9
      have RF := Lib.hid (or1.more hsw); have RL := Lib.hid (or2.more hsw); clear or1 or2
      have HV := Lib.hid hV; clear hV
      generalize hW5 : (w3.alloc (.cells #[.int .i64 z, .slice A1 F.length n1, .slice A2 L.length n2] 57)).alloc (.cells #[.int .i64 z, .slice A1 F.length n1, .slice A2 L.length n2] 57) = w5
      have b5 : Below w3.heap.size w3 w5 := by rw [← hW5]; exact bthen (balloc _ _) (balloc _ _)
      have HN5 := Lib.hid (show Has w5 (w3.heap.size + 1) 57 #[.int .i64 z, .slice A1 F.length n1, .slice A2 L.length n2] by rw [← hW5]; have := has_new (w3.alloc (.cells #[.int .i64 z, .slice A1 F.length n1, .slice A2 L.length n2] 57)) 57 #[.int .i64 z, .slice A1 F.length n1, .slice A2 L.length n2]; simpa using this)
      have HW5 := Lib.hid hW5; clear hW5
      have hz5 := b5.size
      have OW5 := Lib.hid (own_callG OW.out b5)
      have kk := OK.out.below b5; clear OK; have OK := Lib.hid kk; clear kk
      have kk := HC.out.belC b5; clear HC; have HC := Lib.hid kk; clear kk
      have kk := only_trans HO.out (only_belC (g := g) b5); clear HO; have HO := Lib.hid kk; clear kk
      have kk := RF.out.below b5; clear RF; have RF := Lib.hid kk; clear kk
      have kk := RL.out.below b5; clear RL; have RL := Lib.hid kk; clear kk
      clear b5 OW
      go_wp2_with (at_builtin; rw [HW5.out]; go_must (refine list_app rfl _ _ 24 rfl w.heap.size 57 j0 (.agg #[.int .i64 0, .slice none 0 0, .slice none 0 0]) 3 56 Try.underlying24 HJ0.out HY0.out HY1.out HY2.out rfl (by decide) _ l.length _ rfl OW5.out (some ⟨w3.heap.size + 1, 0, none⟩) 1 1 (colC ⟨z, A1, F, n1, A2, L, n2⟩) rfl (src_cl (x := ⟨z, A1, F, n1, A2, L, n2⟩) HN5.out) (by unfold maxLen; omega) (by omega) (by omega) ?_))
      intro A6 c6 w6 hown6 hgrow6 hrow6
      have kk := OK.out.grown hgrow6 (fun b hb => (hrow6 b hb).2); clear OK; have OK := Lib.hid kk; clear kk
      have kk := OQ.grown_ RF.out hgrow6 (fun b hb => (hrow6 b hb).2) (by decide); clear RF; have RF := Lib.hid kk; clear kk
      have kk := OR.grown_ RL.out hgrow6 (fun b hb => (hrow6 b hb).2) (by decide); clear RL; have RL := Lib.hid kk; clear kk
      have kk := cur_grown0 HC.out hgrow6 (fun b hb => by have := (hrow6 b hb).1; omega); clear HC; have HC := Lib.hid kk; clear kk
      have kk := only_grown0 HO.out hgrow6 (fun b hb => (hrow6 b hb).1); clear HO; have HO := Lib.hid kk; clear kk
      rw [← colV_snoc] at hown6
      obtain ⟨l6, hl6⟩ : ∃ l6, l ++ [⟨z, A1, F, n1, A2, L, n2⟩] = l6 := ⟨_, rfl⟩
      have hll6 : l.length + 1 = l6.length := by rw [← hl6]; simp
      have hok6 := OK.out.snoc (x := ⟨z, A1, F, n1, A2, L, n2⟩) RF.out RL.out
      have hcd6 := colsD_snoc (x := ⟨z, A1, F, n1, A2, L, n2⟩) CD.out HV.out
      rw [hl6] at hown6 hok6 hcd6
      rw [hll6] at hown6 ⊢
      have hlk6 : l6.length + k = 1 + n0 := by omega
      have OW6 := Lib.hid hown6; have OK6 := Lib.hid hok6; have CD6 := Lib.hid hcd6
      clear hl6 hll6 hown6 hgrow6 hrow6 hok6 hcd6 RF RL OK CD HV HN5 HW5 OW5
      go_wp2_with fail
      go_roundw
      case rel => exact ⟨k, l6, A6, c6, by go_num, hlk6, rfl, CD6.out, OW6.out, OK6.out, HC.out, HO.out⟩
      case measure => simp [intOf] <;> omega
end Go.Proofs.Ythfpjfekemelaaa
