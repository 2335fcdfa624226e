/- Chapter 2: the box that has a parcel, in a bank: contracts of BoxOf, the model's and the program's. -/
import Derived.Test.YthfpjfekemelaaaQ21
import Derived.Deep.RegionHeld3
import Derived.Deep.DeepMust
import Derived.Test.YthfpjfekemelaaaQ22
import Derived.Test.YthfpjfekemelaaaQ08
namespace Go.Proofs.Ythfpjfekemelaaa
open Go.RowKit
set_option linter.unusedVariables false

theorem ret_two {a b c d : Value} (h1 : a = c) (h2 : b = d) : Ending.returned (.tuple #[a, b]) = .returned (.tuple #[c, d]) := by rw [h1, h2]
/-- the first index at which the test holds -/
def gIdx (p : Cl → Bool) : List Cl → Nat → Int
  | [], _ => -1
  | a :: r, k => if p a = true then k else gIdx p r (k + 1)
theorem gIdx_drop (p : Cl → Bool) (l : List Cl) (k : Nat) (a : Cl) (hk : l[k]? = some a) : gIdx p (l.drop k) k = if p a = true then (k : Int) else gIdx p (l.drop (k + 1)) (k + 1) := by
  have hlt : k < l.length := (List.getElem?_eq_some_iff.1 hk).1
  rw [List.drop_eq_getElem_cons hlt]
  have : l[k] = a := by rw [List.getElem?_eq_getElem hlt] at hk; injection hk
  rw [this]; rfl
theorem gIdx_cases (p : Cl → Bool) : ∀ (l : List Cl) (k : Nat), (gIdx p l k = -1 ∧ ∀ x ∈ l, p x = false) ∨ ∃ (j : Nat) (x : Cl), gIdx p l k = ((k + j : Nat) : Int) ∧ l[j]? = some x ∧ p x = true
  | [], k => .inl ⟨rfl, fun x hx => by cases hx⟩
  | a :: r, k => by
    unfold gIdx
    by_cases h : p a = true
    · rw [if_pos h]; exact .inr ⟨0, a, rfl, rfl, h⟩
    · rw [if_neg h]
      rcases gIdx_cases p r (k + 1) with ⟨h1, h2⟩ | ⟨j, x, h1, h2, h3⟩
      · refine .inl ⟨h1, fun x hx => ?_⟩
        rcases List.mem_cons.1 hx with e | e
        · rw [e]; simpa using h
        · exact h2 x e
      · exact .inr ⟨j + 1, x, by rw [h1]; push_cast; omega, by simpa using h2, h3⟩
theorem gIdx_lt {p : Cl → Bool} {l : List Cl} (h : 0 ≤ gIdx p l 0) : ∃ (j : Nat) (x : Cl), gIdx p l 0 = (j : Int) ∧ l[j]? = some x ∧ p x = true := by
  rcases gIdx_cases p l 0 with ⟨h1, _⟩ | ⟨j, x, h1, h2, h3⟩
  · omega
  · exact ⟨j, x, by rw [h1]; simp, h2, h3⟩
theorem gIdx_congr {p q : Cl → Bool} : ∀ (l : List Cl) (k : Nat), (∀ x ∈ l, p x = q x) → gIdx p l k = gIdx q l k
  | [], _, _ => rfl
  | a :: r, k, h => by
    unfold gIdx
    rw [h a List.mem_cons_self, gIdx_congr r (k + 1) fun x hx => h x (List.mem_cons_of_mem _ hx)]
def hasC (p : Int) (x : Cl) : Bool := decide (0 ≤ fIdx (hasP p) x.L 0)
def hasC0 (p : Int) (x : Cl) : Bool := decide (0 ≤ fIdx (hasP0 p) x.L 0)
theorem fIdx_P0 {p : Int} (h : 0 < p) (L : List Bx) : fIdx (hasP p) L 0 = fIdx (hasP0 p) L 0 := fIdx_congr _ _ fun y _ => by simp [hasP, hasP0, h]
theorem fIdx_neg {p : Int} (h : p ≤ 0) (L : List Bx) : fIdx (hasP0 p) L 0 = -1 := by
  rcases fIdx_cases (hasP0 p) L 0 with ⟨h1, _⟩ | ⟨j, x, _, _, h3⟩
  · exact h1
  · simp [hasP0] at h3; omega
/-- where the parcel is -/
structure AtB (l : List Cl) (p : Int) (k : Nat) (x : Cl) (j : Nat) (y : Bx) : Prop where
  ok : BankP l
  col : gIdx (hasC0 p) l 0 = (k : Int)
  at_ : l[k]? = some x
  box : fIdx (hasP0 p) x.L 0 = (j : Int)
  in_ : x.L[j]? = some y
def bofR (l : List Cl) (p a b : Int) : Prop :=
  (∃ k x j y, AtB l p k x j y ∧ a = (k : Int) ∧ b = y.low) ∨ ((∀ k x j y, ¬ AtB l p k x j y) ∧ a = -1 ∧ b = -1)
theorem gIdx_cont (p : Int) : ∀ (l l' : List Cl) (k : Nat), l'.map cont = l.map cont → gIdx (hasC0 p) l' k = gIdx (hasC0 p) l k
  | [], l', k, h => by
    have : l' = [] := by simpa using h
    subst this; rfl
  | a :: r, l', k, h => by
    rcases l' with _ | ⟨a', r'⟩
    · simp at h
    · simp only [List.map_cons, List.cons.injEq] at h
      have ha : hasC0 p a' = hasC0 p a := by
        have := h.1
        simp only [cont, Prod.mk.injEq] at this
        unfold hasC0; rw [this.2.2]
      unfold gIdx
      rw [ha, gIdx_cont p r r' (k + 1) h.2]
theorem atB_cont {l l' : List Cl} {p : Int} (h : l'.map cont = l.map cont) {k : Nat} {x : Cl} {j : Nat} {y : Bx} (ha : AtB l p k x j y) : ∃ x', AtB l' p k x' j y := by
  have hk : k < l.length := (List.getElem?_eq_some_iff.1 ha.at_).1
  have hl : l'.length = l.length := by have := congrArg List.length h; simpa using this
  have hx' : l'[k]? = some l'[k] := List.getElem?_eq_getElem (by omega)
  have h1 : (l'.map cont)[k]? = some (cont l'[k]) := by rw [List.getElem?_map, hx']; rfl
  have h2 : (l.map cont)[k]? = some (cont x) := by rw [List.getElem?_map, ha.at_]; rfl
  rw [h, h2] at h1
  injection h1 with h1
  simp only [cont, Prod.mk.injEq] at h1
  exact ⟨l'[k], (bankP_cont h).2 ha.ok, by rw [gIdx_cont p l l' 0 h]; exact ha.col, hx', by rw [← h1.2.2]; exact ha.box, by rw [← h1.2.2]; exact ha.in_⟩
theorem bofR_cont {l l' : List Cl} {p a b : Int} (h : l'.map cont = l.map cont) (hr : bofR l' p a b) : bofR l p a b := by
  rcases hr with ⟨k, x, j, y, ha, h1, h2⟩ | ⟨hn, h1, h2⟩
  · obtain ⟨x', hx'⟩ := atB_cont h.symm ha
    exact .inl ⟨k, x', j, y, hx', h1, h2⟩
  · exact .inr ⟨fun k x j y ha => by
      obtain ⟨x', hx'⟩ := atB_cont h ha
      exact hn k x' j y hx', h1, h2⟩
theorem atB_eq {l : List Cl} {p : Int} {k k' : Nat} {x x' : Cl} {j j' : Nat} {y y' : Bx} (h : AtB l p k x j y) (h' : AtB l p k' x' j' y') : k = k' ∧ y = y' := by
  have hk : k = k' := by have := h.col.symm.trans h'.col; omega
  subst hk
  have hx : x = x' := by have := h.at_.symm.trans h'.at_; injection this
  subst hx
  have hj : j = j' := by have := h.box.symm.trans h'.box; omega
  subst hj
  have hy : y = y' := by have := h.in_.symm.trans h'.in_; injection this
  exact ⟨rfl, hy⟩
theorem bof_det {l : List Cl} {p a b a' b' : Int} (h : bofR l p a b) (h' : bofR l p a' b') : a = a' ∧ b = b' := by
  rcases h with ⟨k, x, j, y, ha, rfl, rfl⟩ | ⟨hn, rfl, rfl⟩
  · rcases h' with ⟨k', x', j', y', ha', rfl, rfl⟩ | ⟨hn', rfl, rfl⟩
    · obtain ⟨rfl, rfl⟩ := atB_eq ha ha'
      exact ⟨rfl, rfl⟩
    · exact absurd ha (hn' _ _ _ _)
  · rcases h' with ⟨k', x', j', y', ha', rfl, rfl⟩ | ⟨hn', rfl, rfl⟩
    · exact absurd ha' (hn _ _ _ _)
    · exact ⟨rfl, rfl⟩
/-- the answer is two numbers -/
def TwoI (R : Int → Int → Prop) (w : World) (e : Ending) (w' : World) : Prop := ∃ a b : Int, e = .returned (.tuple #[.int .i64 a, .int .i64 b]) ∧ R a b ∧ Below w.heap.size w w'

set_option maxRecDepth 100000 in
set_option maxHeartbeats 2000000 in
theorem bofS_any (w : World) (B : Nat) (A : Option Addr) (n c : Nat) (p : Int) (l : List Cl) (hn : n = l.length) (hl : l.length ≤ maxLen) (hB : B ≤ w.heap.size) (hS : KL w B A l) (hV : ∀ x ∈ l, CV w B x) :
    Calls Try.prog 33 #[.slice A n c, .int .i64 p] w (TwoI (bofR l p) w) := by
  subst hn
  have hl' := hl
  unfold maxLen at hl
  have HS := Lib.hid hS; have HV := Lib.hid hV; clear hS hV
  go_enter Try.func33, Try.ntmps33
  go_wp2
  go_loopw [6] (fun i wr => ∃ k : Nat, k ≤ l.length ∧ i = .int .i64 k ∧ gIdx (hasC0 p) l 0 = gIdx (hasC0 p) (l.drop k) k ∧ Below w.heap.size w wr) (fun i _ => l.length - (intOf i).toNat)
  case atStart => exact ⟨0, Nat.zero_le _, rfl, by simp, Below.refl _ _⟩
  case round =>
    obtain ⟨k, hk, rfl, hno, hb⟩ := hrel
    have HN := Lib.hid hno; clear hno
    have hsz := hb.size
    by_cases hlt : k < l.length
    · go_wp2_with fail
      refine (bankS_any wr B A l.length c l rfl hl' (by omega) (HS.out.later hB hb) (fun x hx => (HV.out x hx).later hB hb)).mono ?_
      rintro e w1 ⟨q, rfl, hq, hb1⟩
      have HQ := Lib.hid hq; clear hq
      have c1 := bthen hb hb1
      have hz1 := hb1.size
      cases q
      · go_wp2
        go_ret2
        refine ⟨-1, -1, rfl, .inr ⟨fun k x j y ha => ?_, rfl, rfl⟩, c1⟩
        have := HQ.out.2 ha.ok
        simp at this
      · have HOK := Lib.hid (HQ.out.1 (by simp))
        obtain ⟨b, off, x, rfl, hbB, hx, hc0, hc1, hc2⟩ := (HS.out.later hB c1).at_ hlt
        have hv := (HV.out x (List.mem_of_getElem? hx)).later hB c1
        have hst := gIdx_drop (hasC0 p) l k x hx
        have HX := Lib.hid hx; have HVX := Lib.hid hv; have HST := Lib.hid hst; clear hx hv hst
        have hbw : b < w1.heap.size := by omega
        go_wp2_with fail
        refine (boxS_any w1 B x.AF x.AB x.cF x.cB x.z p x.F.length x.L HVX.out.lb (by omega) HVX.out.b).mono ?_
        rintro e w2 ⟨rfl, hb2⟩
        have c2 := bthen c1 hb2
        have hz2 := hb2.size
        have hfl := fIdx_lt (p := hasP0 p) (l := x.L)
        have hcq : hasC0 p x = decide (0 ≤ fIdx (hasP0 p) x.L 0) := rfl
        generalize hf : fIdx (hasP0 p) x.L 0 = f at *
        have HF := Lib.hid hf; have HFL := Lib.hid hfl; have HCQ := Lib.hid hcq; clear hf hfl hcq
        by_cases hf0 : 0 ≤ f
        · obtain ⟨j, y, hj, hy, _⟩ := HFL.out hf0
          subst hj
          have hjl : j < x.L.length := (List.getElem?_eq_some_iff.1 hy).1
          obtain ⟨b2, off2, y', hAB, hb2B, hy', hq0, hq1, hq2, hq3⟩ := (HVX.out.later (by omega) hb2).b.at_ hjl
          obtain rfl : y = y' := by rw [hy] at hy'; injection hy'
          have hc2' := (bold hb2 b (off + k * 3 + 2) hbw).trans hc2
          rw [hAB] at hc2'
          have hst : gIdx (hasC0 p) l 0 = (k : Int) := by
            rw [HN.out, HST.out, if_pos (by rw [HCQ.out]; simp)]
          have HG := Lib.hid hst; have HY := Lib.hid hy; clear hst hy hy' hAB hc0 hc1 hc2
          have hlm : x.L.length ≤ 9223372036854775807 := by have := HVX.out.lb; unfold maxLen at this; exact this
          go_wp2
          go_quiet (fail)
          go_wp2
          go_ret2
          exact ⟨_, _, rfl, .inl ⟨k, x, j, y, ⟨HOK.out, HG.out, HX.out, HF.out, HY.out⟩, rfl, rfl⟩, below_drewN c2 _⟩
        · have hst : gIdx (hasC0 p) l 0 = gIdx (hasC0 p) (l.drop (k + 1)) (k + 1) := by
            rw [HN.out, HST.out, if_neg (by rw [HCQ.out]; simpa using hf0)]
          have HG := Lib.hid hst; clear hst hc0 hc1 hc2
          go_wp2
          go_roundw
          case rel => exact ⟨k + 1, by omega, by go_num, HG.out, c2⟩
          case measure => simp [intOf]; omega
    · go_wp2
      go_ret2
      have hkl : k = l.length := by omega
      subst hkl
      refine ⟨-1, -1, rfl, .inr ⟨fun k x j y ha => ?_, rfl, rfl⟩, hb⟩
      have h1 := HN.out
      rw [List.drop_length, ha.col] at h1
      have h1' : ((k : Nat) : Int) = -1 := h1
      omega

set_option maxRecDepth 100000 in
theorem colT_any (w : World) (B g : Nat) (x : Cl) (p : Int) (hg : g < w.heap.size) (hp : w.cell? ⟨g, 0, none⟩ = some (.int .i64 p)) (hB : B ≤ w.heap.size) (hV : CV w B x) :
    Calls Try.prog 55 #[.agg #[.int .i64 x.z, .slice x.AF x.F.length x.cF, .slice x.AB x.L.length x.cB], .pointer (some ⟨g, 0, none⟩)] w fun e w' => e = .returned (.bool (hasC p x)) ∧ Below w.heap.size w w' := by
  have hq : hasC p x = decide (0 ≤ fIdx (hasP p) x.L 0) := rfl
  rw [hq]
  clear hq
  have HV := Lib.hid hV; clear hV
  go_enter Try.func55, Try.ntmps55
  go_wp2_with fail
  generalize hW1 : w.alloc (.cells #[.int .i64 x.z, .slice x.AF x.F.length x.cF, .slice x.AB x.L.length x.cB] 57) = w1
  have bx : Below w.heap.size w w1 := by rw [← hW1]; exact balloc _ _
  clear hW1
  have hz1 := bx.size
  refine (boxI_any w1 B x.AF x.AB x.cF x.cB x.z p x.F.length x.L HV.out.lb (by omega) (HV.out.later hB bx).b).mono ?_
  rintro e w2 ⟨rfl, hb2⟩
  go_wp2_with fail
  go_ret
  exact ⟨rfl, bthen bx hb2⟩

set_option maxRecDepth 100000 in
set_option maxHeartbeats 2000000 in
theorem colJ_any (w : World) (B g : Nat) (A : Option Addr) (c : Nat) (p : Int) (l : List Cl) (hl : l.length ≤ maxLen) (hB : B ≤ w.heap.size) (hS : KL w B A l) (hV : ∀ x ∈ l, CV w B x) (hg : g < w.heap.size) (hp : w.cell? ⟨g, 0, none⟩ = some (.int .i64 p)) :
    Calls Try.prog 54 #[.slice A l.length c, .func (.func 55) #[] #[.pointer (some ⟨g, 0, none⟩)]] w fun e w' => e = .returned (.int .i64 (gIdx (hasC p) l 0)) ∧ Below w.heap.size w w' := by
  unfold maxLen at hl
  have HS := Lib.hid hS; have HV := Lib.hid hV; clear hS hV
  go_enter Try.func54, Try.ntmps54
  go_wp2
  go_loopw [8] (fun i wr => ∃ k : Nat, k ≤ l.length ∧ i = .int .i64 k ∧ gIdx (hasC p) l 0 = gIdx (hasC p) (l.drop k) k ∧ Below w.heap.size w wr) (fun i _ => l.length - (intOf i).toNat)
  case atStart => exact ⟨0, Nat.zero_le _, rfl, by simp, Below.refl _ _⟩
  case round =>
    obtain ⟨k, hk, rfl, hno, hb⟩ := hrel
    have HN := Lib.hid hno; clear hno
    have hpr := (bold hb g 0 hg).trans hp
    have HPR := Lib.hid hpr; clear hpr
    have hsz := hb.size
    by_cases hlt : k < l.length
    · obtain ⟨b, off, x, rfl, hbB, hx, hc0, hc1, hc2⟩ := (HS.out.later hB hb).at_ hlt
      have hv := (HV.out x (List.mem_of_getElem? hx)).later hB hb
      have hst := gIdx_drop (hasC p) l k x hx
      have HVX := Lib.hid hv; have HST := Lib.hid hst; clear hx hv hst
      go_wp2_with fail
      refine (colT_any wr B g x p (by omega) HPR.out (by omega) HVX.out).mono ?_
      rintro e w2 ⟨rfl, hb2⟩
      have hst := HST.out
      generalize hasC p x = q at *
      cases q
      · rw [if_neg (by simp)] at hst
        have HST2 := Lib.hid hst; clear hst HST
        go_wp2
        go_roundw
        case rel => exact ⟨k + 1, by omega, by go_num, by rw [HN.out, HST2.out], bthen hb hb2⟩
        case measure => simp [intOf]; omega
      · rw [if_pos rfl] at hst
        have HST2 := Lib.hid hst; clear hst HST
        go_wp2
        go_ret
        exact ⟨ret_int (by rw [HN.out, HST2.out]), bthen hb hb2⟩
    · go_wp2
      go_ret
      have hkl : k = l.length := by omega
      subst hkl
      exact ⟨ret_int (by rw [HN.out, List.drop_length]; rfl), hb⟩

set_option maxRecDepth 100000 in
theorem colW_any (w : World) (B : Nat) (A : Option Addr) (n c : Nat) (p : Int) (l : List Cl) (hn : n = l.length) (hl : l.length ≤ maxLen) (hB : B ≤ w.heap.size) (hS : KL w B A l) (hV : ∀ x ∈ l, CV w B x) :
    Calls Try.prog 29 #[.slice A n c, .int .i64 p] w fun e w' => e = .returned (.int .i64 (gIdx (hasC p) l 0)) ∧ Below w.heap.size w w' := by
  subst hn
  have HS := Lib.hid hS; have HV := Lib.hid hV; clear hS hV
  go_enter Try.func29, Try.ntmps29
  go_wp2_with fail
  generalize hW0 : w.alloc (.cells #[.int .i64 p] 3) = w0
  have b0 : Below w.heap.size w w0 := by rw [← hW0]; exact balloc _ _
  have k1 : Has w0 w.heap.size 3 #[.int .i64 p] := by rw [← hW0]; exact has_new _ _ _
  clear hW0
  refine (colJ_any w0 B w.heap.size A c p l hl (by have := b0.size; omega) (HS.out.later hB b0) (fun x hx => (HV.out x hx).later hB b0) (has_lt k1) (has_cell k1 0 rfl)).mono ?_
  rintro e w1 ⟨rfl, hb1⟩
  go_wp2_with fail
  go_ret
  exact ⟨rfl, bthen b0 hb1⟩

set_option maxRecDepth 100000 in
set_option maxHeartbeats 4000000 in
theorem bofI_any (w : World) (B : Nat) (A : Option Addr) (n c : Nat) (p : Int) (l : List Cl) (hn : n = l.length) (hl : l.length ≤ maxLen) (hB : B ≤ w.heap.size) (hS : KL w B A l) (hV : ∀ x ∈ l, CV w B x) :
    Calls Try.prog 14 #[.slice A n c, .int .i64 p] w (TwoI (bofR l p) w) := by
  subst hn
  have HS := Lib.hid hS; have HV := Lib.hid hV; clear hS hV
  go_enter Try.func14, Try.ntmps14
  go_wp2_with fail
  refine (bankI_any w B A l.length c l rfl hl hB HS.out HV.out).mono ?_
  rintro e w1 ⟨q, rfl, hq, hb1⟩
  have HQ := Lib.hid hq; clear hq
  have hz1 := hb1.size
  cases q
  · go_wp2
    go_ret2
    refine ⟨-1, -1, rfl, .inr ⟨fun k x j y ha => ?_, rfl, rfl⟩, hb1⟩
    have := HQ.out.2 ha.ok
    simp at this
  by_cases hp : p < 1
  · go_wp2
    go_ret2
    refine ⟨-1, -1, rfl, .inr ⟨fun k x j y ha => ?_, rfl, rfl⟩, hb1⟩
    have := fIdx_neg (p := p) (by omega) x.L
    rw [ha.box] at this
    omega
  have HOK := Lib.hid (HQ.out.1 (by simp))
  have hgc : gIdx (hasC p) l 0 = gIdx (hasC0 p) l 0 := gIdx_congr _ _ fun x _ => by unfold hasC hasC0; rw [fIdx_P0 (by omega)]
  have HGC := Lib.hid hgc; clear hgc
  go_wp2_with fail
  refine (colW_any w1 B A l.length c p l rfl hl (by omega) (HS.out.later hB hb1) (fun x hx => (HV.out x hx).later hB hb1)).mono ?_
  rintro e w2 ⟨rfl, hb2⟩
  rw [HGC.out]
  have c2 := bthen hb1 hb2
  have hz2 := hb2.size
  have hgl := gIdx_lt (p := hasC0 p) (l := l)
  generalize hg : gIdx (hasC0 p) l 0 = g at *
  have HG := Lib.hid hg; have HGL := Lib.hid hgl; clear hg hgl HGC
  by_cases hg0 : g < 0
  · go_wp2
    go_ret2
    refine ⟨-1, -1, rfl, .inr ⟨fun k x j y ha => ?_, rfl, rfl⟩, c2⟩
    have := HG.out.symm.trans ha.col
    omega
  · obtain ⟨k, x, hk, hx, hcx⟩ := HGL.out (by omega)
    subst hk
    have hkl : k < l.length := (List.getElem?_eq_some_iff.1 hx).1
    unfold maxLen at hl
    obtain ⟨b, off, x', rfl, hbB, hx', hc0, hc1, hc2⟩ := (HS.out.later hB c2).at_ hkl
    obtain rfl : x = x' := by rw [hx] at hx'; injection hx'
    have hv := (HV.out x (List.mem_of_getElem? hx)).later hB c2
    have hfe := fIdx_P0 (p := p) (by omega) x.L
    have hf0 : 0 ≤ fIdx (hasP0 p) x.L 0 := by unfold hasC0 at hcx; simpa using hcx
    obtain ⟨j, y, hj, hy, _⟩ := fIdx_lt (p := hasP0 p) (l := x.L) hf0
    rw [hj] at hfe
    have hjl : j < x.L.length := (List.getElem?_eq_some_iff.1 hy).1
    have HX := Lib.hid hx; have HVX := Lib.hid hv; have HFE := Lib.hid hfe; have HJ := Lib.hid hj; have HY := Lib.hid hy; clear hx hx' hv hfe hf0 hj hy hcx
    have hlm : x.L.length ≤ 9223372036854775807 := by have := HVX.out.lb; unfold maxLen at this; exact this
    have hbw : b < w2.heap.size := by omega
    go_wp2_with fail
    clear hc0 hc1 hc2
    generalize hW3 : w2.alloc (.cells #[.int .i64 x.z, .slice x.AF x.F.length x.cF, .slice x.AB x.L.length x.cB] 57) = w3
    have b3 : Below w2.heap.size w2 w3 := by rw [← hW3]; exact balloc _ _
    have k3 : Has w3 w2.heap.size 57 #[.int .i64 x.z, .slice x.AF x.F.length x.cF, .slice x.AB x.L.length x.cB] := by rw [← hW3]; exact has_new _ _ _
    clear hW3
    have c3 := bthen c2 b3
    have hz3 := b3.size
    have hv3 := HVX.out.later (by omega) b3
    obtain ⟨b2, off2, y', hAB, hb2B, hy', hq0, hq1, hq2, hq3⟩ := hv3.b.at_ hjl
    obtain rfl : y = y' := by have := HY.out.symm.trans hy'; injection this
    have e0 := has_cell k3 0 rfl
    have e1 := has_cell k3 1 rfl
    have e2 := has_cell k3 2 rfl
    have hkz : w2.heap.size < w3.heap.size := has_lt k3
    have hxl : XL w3 B (some ⟨b2, off2, none⟩) x.L := by rw [← hAB]; exact hv3.b
    rw [hAB] at e2
    have HXL := Lib.hid hxl; have HLB := Lib.hid hv3.lb; clear hv3 hy' hq1 hq2 hq3 k3 hxl hAB
    have S0 : (fun W : World => (W.cell? ⟨w2.heap.size, 0, none⟩ = some (.int .i64 x.z) ∧ W.cell? ⟨w2.heap.size, 1, none⟩ = some (.slice x.AF x.F.length x.cF) ∧ W.cell? ⟨w2.heap.size, 2, none⟩ = some (.slice (some ⟨b2, off2, none⟩) x.L.length x.cB) ∧ W.cell? ⟨b2, off2 + j * 4, none⟩ = some (.int .i64 y.low)) ∧ Below w3.heap.size w3 W) w3.drew := ⟨⟨e0, e1, e2, hq0⟩, (Below.refl _ _).drew⟩
    clear e0 e1 e2 hq0
    have hb2w : b2 < w3.heap.size := by omega
    have hBw : B ≤ w3.drew.heap.size := by simp; omega
    have hj0 : (0 : Int) ≤ (j : Int) := by omega
    have hj1 : (j : Int) < (x.L.length : Int) := by omega
    go_region_held3 (fun W : World => (W.cell? ⟨w2.heap.size, 0, none⟩ = some (.int .i64 x.z) ∧ W.cell? ⟨w2.heap.size, 1, none⟩ = some (.slice x.AF x.F.length x.cF) ∧ W.cell? ⟨w2.heap.size, 2, none⟩ = some (.slice (some ⟨b2, off2, none⟩) x.L.length x.cB) ∧ W.cell? ⟨b2, off2 + j * 4, none⟩ = some (.int .i64 y.low)) ∧ Below w3.heap.size w3 W) (first | assumption) (first
      | (go_at_call 43; go_must (refine (boxI_any w3.drew B x.AF (some ⟨b2, off2, none⟩) x.cF x.cB x.z p x.F.length x.L HLB.out hBw (HXL.out.below (Below.refl _ _).drew)).mono ?_); rintro e w4 ⟨rfl, hb4⟩; rw [HFE.out]; have hb34 : Below w3.heap.size w3 w4 := ((Below.refl w3.heap.size w3).drew).trans hb4; have S4 : (fun W : World => (W.cell? ⟨w2.heap.size, 0, none⟩ = some (.int .i64 x.z) ∧ W.cell? ⟨w2.heap.size, 1, none⟩ = some (.slice x.AF x.F.length x.cF) ∧ W.cell? ⟨w2.heap.size, 2, none⟩ = some (.slice (some ⟨b2, off2, none⟩) x.L.length x.cB) ∧ W.cell? ⟨b2, off2 + j * 4, none⟩ = some (.int .i64 y.low)) ∧ Below w3.heap.size w3 W) w4 := ⟨⟨(bold hb34 _ _ hkz).trans S0.1.1, (bold hb34 _ _ hkz).trans S0.1.2.1, (bold hb34 _ _ hkz).trans S0.1.2.2.1, (bold hb34 _ _ hb2w).trans S0.1.2.2.2⟩, hb34⟩))
    go_wp2_with fail
    go_ret2
    exact ⟨_, _, rfl, .inl ⟨k, x, j, y, ⟨HOK.out, HG.out, HX.out, HJ.out, HY.out⟩, rfl, rfl⟩, bthen c3 hb34⟩
end Go.Proofs.Ythfpjfekemelaaa
namespace Go.Proofs.Ythfpjfekemelaaa
open Go.RowKit
set_option linter.unusedVariables false

theorem BankAt.put {w : World} {lo hi a b k : Nat} {A : Option Addr} {l : List Cl} (h : BankAt w lo hi A l) (hk : k < l.length) (x : Cl) (ha : hi ≤ a) (hab : a ≤ b) (hlo : lo ≤ hi) (h1 : OI w a b 3 x.AF (intV x.F)) (h2 : OI w a b 65 x.AB (boxV x.L)) :
    ∃ (g : Nat) (cur : Array Value), A = some ⟨g, 0, none⟩ ∧ lo ≤ g ∧ g < hi ∧ Has w g 57 cur ∧ k * 3 + 2 < cur.size ∧ BankAt (((w.setCell ⟨g, k * 3, none⟩ (.int .i64 x.z)).setCell ⟨g, k * 3 + 1, none⟩ (.slice x.AF x.F.length x.cF)).setCell ⟨g, k * 3 + 2, none⟩ (.slice x.AB x.L.length x.cB)) lo b A (l.set k x) := by
  obtain ⟨hoi, f, hsep⟩ := h
  rcases hoi with hnil | ⟨g, cur, rfl, hg1, hg2, hH, hc⟩
  · exfalso; have := colV_nil hnil; rw [this] at hk; simp at hk
  · have hcv := colV_at (List.getElem?_eq_getElem hk)
    have hs0 := (Array.getElem?_eq_some_iff.1 (hc _ _ hcv.1)).1
    have hs1 := (Array.getElem?_eq_some_iff.1 (hc _ _ hcv.2.1)).1
    have hs2 := (Array.getElem?_eq_some_iff.1 (hc _ _ hcv.2.2)).1
    have hH0 := has_set hH (k * 3) (.int .i64 x.z)
    have hH1 := has_set hH0 (k * 3 + 1) (.slice x.AF x.F.length x.cF)
    have hH2 := has_set hH1 (k * 3 + 2) (.slice x.AB x.L.length x.cB)
    refine ⟨g, cur, rfl, hg1, hg2, hH, hs2, ⟨.inr ⟨g, _, rfl, hg1, by omega, hH2, fun j u hu => ?_⟩, _, ((((hsep.set (k := k) ha hab hlo h1 h2).other hH (by decide) (by decide) _ _).other hH0 (by decide) (by decide) _ _).other hH1 (by decide) (by decide) _ _)⟩⟩
    rw [colV_set hk] at hu
    have hl := (List.getElem?_eq_some_iff.1 hcv.2.2).1
    by_cases e2 : j = k * 3 + 2
    · subst e2
      rw [List.getElem?_set_self (by simpa using hl)] at hu
      rw [Array.getElem?_setIfInBounds_self_of_lt (by simpa using hs2)]; exact hu
    · rw [List.getElem?_set_ne (fun e => e2 e.symm)] at hu
      rw [Array.getElem?_setIfInBounds_ne (fun e => e2 e.symm)]
      by_cases e1 : j = k * 3 + 1
      · subst e1
        rw [List.getElem?_set_self (by simp; omega)] at hu
        rw [Array.getElem?_setIfInBounds_self_of_lt (by simpa using hs1)]; exact hu
      · rw [List.getElem?_set_ne (fun e => e1 e.symm)] at hu
        rw [Array.getElem?_setIfInBounds_ne (fun e => e1 e.symm)]
        by_cases e0 : j = k * 3
        · subst e0
          rw [List.getElem?_set_self (by omega)] at hu
          rw [Array.getElem?_setIfInBounds_self_of_lt hs0]; exact hu
        · rw [List.getElem?_set_ne (fun e => e0 e.symm)] at hu
          rw [Array.getElem?_setIfInBounds_ne (fun e => e0 e.symm)]
          exact hc _ _ hu
abbrev Cont := Int × List Int × List Bx
def bkTk (l : List Cl) (p : Int) (C : List Cont) (b : Bool) : Prop := ∃ a q, bofR l p a q ∧ ((a < 0 ∧ C = l.map cont ∧ b = false) ∨ ∃ (k : Nat) (x : Cl) (z : Int) (F : List Int) (L : List Bx), a = (k : Int) ∧ l[k]? = some x ∧ takeR x.z x.F x.L p z F L b ∧ C = (l.map cont).set k (z, F, L))
theorem bkTk_det {l : List Cl} {p : Int} {C C' : List Cont} {b b' : Bool} (h : bkTk l p C b) (h' : bkTk l p C' b') : C = C' ∧ b = b' := by
  obtain ⟨a, q, hb, h⟩ := h
  obtain ⟨a', q', hb', h'⟩ := h'
  obtain ⟨rfl, rfl⟩ := bof_det hb hb'
  rcases h with ⟨h1, rfl, rfl⟩ | ⟨k, x, z, F, L, rfl, hx, ht, rfl⟩
  · rcases h' with ⟨_, rfl, rfl⟩ | ⟨k', x', z', F', L', e, _⟩
    · exact ⟨rfl, rfl⟩
    · omega
  · rcases h' with ⟨h1, _⟩ | ⟨k', x', z', F', L', e, hx', ht', rfl⟩
    · omega
    · have hk : k = k' := by omega
      subst hk
      rw [hx] at hx'; injection hx' with hx'; subst hx'
      obtain ⟨rfl, rfl, rfl, rfl⟩ := take_det ht ht'
      exact ⟨rfl, rfl⟩
theorem bkTk_cont {l l' : List Cl} {p : Int} {C : List Cont} {b : Bool} (h : l'.map cont = l.map cont) (hb : bkTk l' p C b) : bkTk l p C b := by
  obtain ⟨a, q, hb, hh⟩ := hb
  refine ⟨a, q, bofR_cont h hb, ?_⟩
  rcases hh with ⟨h1, rfl, rfl⟩ | ⟨k, x, z, F, L, rfl, hx, ht, rfl⟩
  · exact .inl ⟨h1, h, rfl⟩
  · have hk := congrArg (fun y => y[k]?) h
    simp only [List.getElem?_map, hx, Option.map_some] at hk
    cases hx' : l[k]? with
    | none => rw [hx'] at hk; simp at hk
    | some y =>
      rw [hx'] at hk
      simp only [Option.map_some, Option.some.injEq] at hk
      unfold cont at hk
      injection hk with e1 hk; injection hk with e2 e3
      exact .inr ⟨k, y, z, F, L, rfl, hx', by rw [← e1, ← e2, ← e3]; exact ht, by rw [h]⟩
/-- the answer is a bank of the call's own and a flag -/
def BankAnsB (R : List Cont → Bool → Prop) (w : World) (e : Ending) (w' : World) : Prop := ∃ A' c' l' b, e = .returned (.tuple #[.slice A' l'.length c', .bool b]) ∧ R (l'.map cont) b ∧ SmallK l' ∧ BankAt w' w.heap.size w'.heap.size A' l' ∧ Below w.heap.size w w'
theorem small_set {l : List Cl} (h : SmallK l) (k : Nat) {x : Cl} (hx : x.F.length ≤ 1048576 ∧ x.L.length ≤ 1048576) : SmallK (l.set k x) := fun y hy => by
  rcases List.mem_or_eq_of_mem_set hy with h1 | h1
  · exact h y h1
  · subst h1; exact hx

set_option maxRecDepth 100000 in
set_option maxHeartbeats 4000000 in
theorem btkI_any (w : World) (B : Nat) (A : Option Addr) (n c : Nat) (p : Int) (l : List Cl) (hn : n = l.length) (hl : l.length ≤ 1048576) (hsm : SmallK l) (hB : B ≤ w.heap.size) (hS : KL w B A l) (hV : ∀ x ∈ l, CV w B x) :
    Calls Try.prog 15 #[.slice A n c, .int .i64 p] w (BankAnsB (bkTk l p) w) := by
  subst hn
  have hlm : l.length ≤ maxLen := by unfold maxLen; omega
  have HS := Lib.hid hS; have HV := Lib.hid hV; have HSM := Lib.hid hsm; clear hS hV hsm
  go_enter Try.func15, Try.ntmps15
  go_wp2_with fail
  refine (cpyI_any w B A l.length c l rfl hl HSM.out hB HS.out HV.out).mono ?_
  rintro e w1 ⟨A1, c1, l1, rfl, hct1, hba1, hb1⟩
  have hz1 := hb1.size
  have hsm1 := small_cont hct1 HSM.out
  have hl1 : l1.length ≤ l.length ∧ l.length ≤ l1.length := by have := len_cont hct1; omega
  obtain ⟨hl1a, hl1b⟩ := hl1
  have HCT1 := Lib.hid hct1; have HBA1 := Lib.hid hba1; have C1 := Lib.hid hb1; have HSM1 := Lib.hid hsm1; clear hct1 hba1 hsm1 hb1
  go_wp2_with fail
  refine (bofI_any w1 B A l.length c p l rfl hlm (by omega) (HS.out.later hB C1.out) (fun x hx => (HV.out x hx).later hB C1.out)).mono ?_
  rintro e w2 ⟨a, q, rfl, hbo, hb2⟩
  have hz2 := hb2.size
  have HBA2 := Lib.hid (HBA1.out.call hb2); have C2 := Lib.hid (bthen C1.out hb2); have HBO := Lib.hid hbo; clear hb2
  rcases hbo with ⟨k, x, j, y, hat, rfl, rfl⟩ | ⟨hno, rfl, rfl⟩
  · have hx := hat.at_
    have hkl : k < l.length := (List.getElem?_eq_some_iff.1 hx).1
    clear hat
    obtain ⟨b, off, x', rfl, hbB, hx', hc0, hc1, hc2⟩ := (HS.out.later hB C2.out).at_ hkl
    obtain rfl : x = x' := by rw [hx] at hx'; injection hx'
    have hvx := (HV.out x (List.mem_of_getElem? hx)).later hB C2.out
    have hsx := HSM.out x (List.mem_of_getElem? hx)
    have HX := Lib.hid hx; have HVX := Lib.hid hvx; have HSX := Lib.hid hsx; clear hx hx' hvx hsx
    have hbw : b < w2.heap.size := by omega
    have hk0 : (0 : Int) ≤ (k : Int) := by omega
    have hk1 : (k : Int) < (l.length : Int) := by omega
    have t0 : decide ((k : Int) < 0) = false := decide_eq_false (by omega)
    go_wp2_with fail
    refine (takeI_any w2 B x p HSX.out.1 HSX.out.2 (by omega) HVX.out).mono ?_
    rintro e w3 ⟨z', F', L', ob, A2, A3, n2, n3, rfl, htk, hlf, hll, hP, hQ, hb3⟩
    clear hc0 hc1 hc2
    have hz3 := hb3.size
    have HBA3 := Lib.hid (HBA2.out.call hb3); have C3 := Lib.hid (bthen C2.out hb3); have HTK := Lib.hid htk; have HP := Lib.hid (OI.of_or hP); have HQ := Lib.hid (OI.of_or hQ); have HLL := Lib.hid (And.intro hlf hll); clear hb3 htk hP hQ hlf hll
    go_upto_region 6 with (fail)
    generalize hX : w3.alloc (.cells #[.int .i64 z', .slice A2 F'.length n2, .slice A3 L'.length n3] 57) = w4
    have b4 : Below w3.heap.size w3 w4 := by rw [← hX]; exact balloc _ _
    have k4 : Has w4 w3.heap.size 57 #[.int .i64 z', .slice A2 F'.length n2, .slice A3 L'.length n3] := by rw [← hX]; exact has_new _ _ _
    clear hX
    have hz4 := b4.size
    have hk1l : k < l1.length := by omega
    obtain ⟨g, cur, hA1, hg1, hg2, hH, hcs, hput⟩ := (HBA3.out.call b4).put hk1l ⟨z', A2, F', n2, A3, L', n3⟩ hz2 hz3 (by omega) (HP.out.call b4) (HQ.out.call b4)
    dsimp only at hput
    have hbel : Below w.heap.size w (((w4.setCell ⟨g, k * 3, none⟩ (.int .i64 z')).setCell ⟨g, k * 3 + 1, none⟩ (.slice A2 F'.length n2)).setCell ⟨g, k * 3 + 2, none⟩ (.slice A3 L'.length n3)) := (((bthen C3.out b4).setCell (p := ⟨g, k * 3, none⟩) hg1 _).setCell (p := ⟨g, k * 3 + 1, none⟩) hg1 _).setCell (p := ⟨g, k * 3 + 2, none⟩) hg1 _
    have hzf : w3.heap.size ≤ (((w4.setCell ⟨g, k * 3, none⟩ (.int .i64 z')).setCell ⟨g, k * 3 + 1, none⟩ (.slice A2 F'.length n2)).setCell ⟨g, k * 3 + 2, none⟩ (.slice A3 L'.length n3)).heap.size := by simp only [size_set]; omega
    have HPUT := Lib.hid (hput.wider (Nat.le_refl _) hzf); have HBEL := Lib.hid hbel
    have e0 := has_cell k4 0 rfl; have e1 := has_cell k4 1 rfl; have e2 := has_cell k4 2 rfl
    have y0 := has_cell hH (k * 3) (Array.getElem?_eq_getElem (by omega)); have y1 := has_cell hH (k * 3 + 1) (Array.getElem?_eq_getElem (by omega)); have y2 := has_cell hH (k * 3 + 2) (Array.getElem?_eq_getElem (by omega))
    have f0 := has_free hH (k * 3); have f1 := has_free hH (k * 3 + 1); have f2 := has_free hH (k * 3 + 2)
    have hgl := has_lt hH; have hkl4 := has_lt k4
    have hk11 : (k : Int) < (l1.length : Int) := by omega
    clear hput hbel k4 hH b4 hzf
    generalize hu0 : cur[k * 3] = u0 at y0
    generalize hu1 : cur[k * 3 + 1] = u1 at y1
    generalize hu2 : cur[k * 3 + 2] = u2 at y2
    clear hu0 hu1 hu2
    subst hA1
    go_wp2
    go_ret2
    exact ⟨some ⟨g, 0, none⟩, c1, l1.set k ⟨z', A2, F', n2, A3, L', n3⟩, ob, by simp, ⟨_, _, HBO.out, .inr ⟨k, x, z', F', L', rfl, HX.out, HTK.out, by rw [List.map_set, HCT1.out]; rfl⟩⟩, small_set HSM1.out k HLL.out, HPUT.out, HBEL.out⟩
  · clear hno
    go_wp2
    go_ret2
    exact ⟨A1, c1, l1, false, rfl, ⟨_, _, HBO.out, .inl ⟨by omega, HCT1.out, rfl⟩⟩, HSM1.out, HBA2.out.wider (Nat.le_refl _) (by omega), C2.out⟩

end Go.Proofs.Ythfpjfekemelaaa
