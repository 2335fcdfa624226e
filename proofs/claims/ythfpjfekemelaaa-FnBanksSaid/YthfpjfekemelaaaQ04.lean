/- Chapter 2: contract of the program's ColumnOk. -/
import Derived.Test.YthfpjfekemelaaaQ03
import Derived.RangeFuncNested
import Derived.RangeFuncBound
import Derived.RangeFuncCalls
import Derived.RangeFuncLeaves
import Derived.Shelf.Abstract
import Derived.Shelf.RegionOpen
import Derived.OwnWalkIn
import Derived.TacticsInMore
import Derived.LoopNIn
import Derived.LoopIn
import Derived.OrdersIn
import Derived.Deep.RegionHeld3
import Derived.Test.YthfpjfekemelaaaQ02
namespace Go.Proofs.Ythfpjfekemelaaa
open Go.RowKit
set_option linter.unusedVariables false

theorem Cl.one {w : World} {B g : Nat} {x : Cl} (h : Has w g 57 #[.int .i64 x.z, .slice x.AF x.F.length x.cF, .slice x.AB x.L.length x.cB]) (hB : g < B) : KL w B (some ⟨g, 0, none⟩) [x] := by
  refine .inr ⟨g, 0, rfl, hB, fun k y hy => ?_⟩
  have hk : k = 0 := by have := (List.getElem?_eq_some_iff.1 hy).1; simp at this; omega
  subst hk
  simp at hy
  subst hy
  exact ⟨has_cell h 0 rfl, has_cell h 1 rfl, has_cell h 2 rfl⟩
theorem pars_bd {L : List Bx} (h : BoxesTo L L.length) : ∀ b ∈ L, 0 ≤ b.par ∧ b.par ≤ 999 := fun b hb => by
  obtain ⟨k, hk⟩ := List.getElem?_of_mem hb
  have := h k b (List.getElem?_eq_some_iff.1 hk).1 hk
  exact ⟨this.2.2.1, this.2.2.2⟩
theorem col_of {h : Int} {F : List Int} {L : List Bx} (h1 : FixOk h F) (h2 : BoxesW h F L) (h3 : Dis (L.map Bx.par)) : ColOk h F L :=
  ⟨h1, h2.1, h2.2.1, (walls_iff h1 h2.1).1 h2.2.2, h3⟩
theorem of_col {h : Int} {F : List Int} {L : List Bx} (g : ColOk h F L) : FixOk h F ∧ BoxesW h F L ∧ Dis (L.map Bx.par) :=
  ⟨g.fix, ⟨g.box, g.top, (walls_iff g.fix g.box).2 g.wall⟩, g.diff⟩

set_option maxHeartbeats 1000000 in
theorem colI_any (w : World) (B : Nat) (x : Cl) (hB : B ≤ w.heap.size) (hV : CV w B x) :
    Calls Try.prog 37 #[.agg #[.int .i64 x.z, .slice x.AF x.F.length x.cF, .slice x.AB x.L.length x.cB]] w (Tells (ColOk x.z x.F x.L) w) := by
  have HV := Lib.hid hV; clear hV
  go_enter Try.func37, Try.ntmps37
  go_wp2_with fail
  generalize hW0 : w.alloc (.cells #[.int .i64 x.z, .slice x.AF x.F.length x.cF, .slice x.AB x.L.length x.cB] 57) = w0 at *
  have b0 : Below w.heap.size w w0 := by rw [← hW0]; exact balloc _ _
  have k0 : Has w0 w.heap.size 57 #[.int .i64 x.z, .slice x.AF x.F.length x.cF, .slice x.AB x.L.length x.cB] := by rw [← hW0]; exact has_new _ _ _
  clear hW0
  have K0 := Lib.hid k0; clear k0
  have v0 := HV.out.later hB b0
  refine (fixedI_any w0 B x.AF x.cF x.F x.z v0.lf (by have := b0.size; omega) v0.f).mono ?_
  rintro e w1 ⟨b1, rfl, hb1, hw1⟩
  have HB1 := Lib.hid hb1; clear hb1
  have c1 := bthen b0 hw1
  have k1 := has_call K0.out hw1
  have e0 := has_cell k1 0 rfl
  have e1 := has_cell k1 1 rfl
  have e2 := has_cell k1 2 rfl
  have K1 := Lib.hid k1; clear k1
  cases b1
  · go_wp2_with fail
    go_ret
    exact tells_no (fun g => by have := HB1.out.2 (of_col g).1; simp at this) c1
  have hfix := HB1.out.1 rfl
  have v1 := HV.out.later hB c1
  have HFIX := Lib.hid hfix; clear hfix
  go_wp2_with fail
  refine (boxesI_any w1 B x.AF x.AB x.cF x.cB x.z x.F x.L v1.lf v1.lb (by have := c1.size; omega) v1.f v1.b HFIX.out.lo HFIX.out.hi).mono ?_
  rintro e w2 ⟨b2, rfl, hb2, hw2⟩
  have HB2 := Lib.hid hb2; clear hb2
  clear e0 e1 e2
  have c2 := bthen c1 hw2
  have k2 := has_call K1.out hw2
  have e0 := has_cell k2 0 rfl
  have e1 := has_cell k2 1 rfl
  have e2 := has_cell k2 2 rfl
  have K2 := Lib.hid k2; clear k2
  cases b2
  · go_wp2_with fail
    go_ret
    exact tells_no (fun g => by have := HB2.out.2 (of_col g).2.1; simp at this) c2
  have hbox := HB2.out.1 rfl
  have HBOX := Lib.hid hbox; clear hbox
  have hs2 := has_lt K2.out
  go_wp2_with fail
  generalize hW2 : w2.alloc (.cells #[.int .i64 x.z, .slice x.AF x.F.length x.cF, .slice x.AB x.L.length x.cB] 57) = w3 at *
  have b3 : Below w2.heap.size w2 w3 := by rw [← hW2]; exact balloc _ _
  have k3 : Has w3 w2.heap.size 57 #[.int .i64 x.z, .slice x.AF x.F.length x.cF, .slice x.AB x.L.length x.cB] := by rw [← hW2]; exact has_new _ _ _
  clear hW2 e0 e1 e2
  have c3 := bthen c2 b3
  have v3 := (HV.out.later hB c3).more (show B ≤ w3.heap.size by have := c3.size; omega)
  refine (differ_any w3 w3.heap.size (some ⟨w2.heap.size, 0, none⟩) 1 [x] (by unfold maxLen; simp) (Nat.le_refl _) (Cl.one k3 (has_lt k3)) (fun y hy => by rw [List.mem_singleton.1 hy]; exact v3) (fun y hy => by rw [List.mem_singleton.1 hy]; exact pars_bd HBOX.out.1)).mono ?_
  rintro e w4 ⟨b4, rfl, hb4, hw4⟩
  have HB4 := Lib.hid hb4; clear hb4
  have c4 := bthen c3 hw4
  have hap : allPars [x] = x.L.map Bx.par := by simp [allPars, parsOf]
  have HAP := Lib.hid hap; clear hap
  go_wp2_with fail
  go_ret
  refine ⟨b4, rfl, ?_, c4⟩
  have := HB4.out
  rw [HAP.out] at this
  rw [this]
  exact ⟨fun h => col_of HFIX.out HBOX.out h, fun g => g.diff⟩
end Go.Proofs.Ythfpjfekemelaaa
namespace Go.Proofs.Ythfpjfekemelaaa
open Go.RowKit Go.Shelf
set_option linter.unusedVariables false
attribute [local go_sem] Oper.semAt_some

def boxD : Bx := ⟨0, 0, 0, false⟩
def bwF (L : List Bx) (j : Nat) : Nat × Bx := (L.length - 1 - j, (L[L.length - 1 - j]?).getD boxD)
/-- what has come when k rounds are over -/
def bwd (L : List Bx) (k : Nat) : List (Nat × Bx) := (List.range k).map (bwF L)
theorem bwd_succ (L : List Bx) (k : Nat) : bwd L (k + 1) = bwd L k ++ [bwF L k] := by simp [bwd, List.range_succ]
theorem bwd_len (L : List Bx) (k : Nat) : (bwd L k).length = k := by simp [bwd]
def boxA (x : Bx) : Value := .agg #[.int .i64 x.low, .int .i64 x.size, .int .i64 x.par, .bool x.jam]
/-- a round keeps what lay below n₀, and the iterator's own box -/
def KpS (Bs n₀ : Nat) (W W' : World) : Prop := Below n₀ W W' ∧ W'.cell? ⟨Bs, 0, none⟩ = W.cell? ⟨Bs, 0, none⟩
theorem kpS_t {Bs n₀ : Nat} {A B C : World} (h : KpS Bs n₀ A B) (k : KpS Bs n₀ B C) : KpS Bs n₀ A C := ⟨h.1.trans k.1, k.2.trans h.2⟩

set_option maxRecDepth 100000 in
set_option maxHeartbeats 2000000 in
theorem backward1_in (F : Fence) (n : Nat) (h7 : F.fn 88) (hro : F.round = none) (hn : 1 ≤ n) (l Bs n₀ : Nat) (A : Option Addr) (c : Nat) (L : List Bx) (hl : L.length ≤ maxLen) (J Jx : List (Nat × Bx) → World → Prop)
    (hY : ∀ pre x W, J pre W → pre.length < L.length → YieldAt F (n - 1) Try.prog l #[.int .i64 (x.1 : Int), boxA x.2] W fun e W' =>
      (e = .returned (.bool true) ∧ J (pre ++ [x]) W' ∧ KpS Bs n₀ W W') ∨ (e = .returned (.bool false) ∧ Jx (pre ++ [x]) W'))
    (W : World) (hBs : W.cell? ⟨Bs, 0, none⟩ = some (.slice A L.length c)) (hS : XL W n₀ A L) (h0 : J [] W) :
    CallsIn F n Try.prog 88 #[.func (.yield l) #[] #[], .pointer (some ⟨Bs, 0, none⟩)] W fun e W' => (∃ v, e = .returned v) ∧
      ((∃ ys, ys = bwd L L.length ∧ J ys W') ∨ (∃ pre, (∃ k, k ≤ L.length ∧ pre = bwd L k) ∧ Jx pre W')) := by
  unfold maxLen at hl
  have HS := Lib.hid hS; clear hS
  refine callsIn_of_wp Try.func88 rfl h7 ?_ hro
  simp only [Try.ntmps88, List.size_toArray, List.length_cons, List.length_nil, Nat.reduceAdd, Nat.reduceSub, Array.replicate_succ, Array.replicate_zero, List.push_toArray, List.append_toArray, List.nil_append, List.cons_append]
  gi_wp2
  gi_loopw [3] (fun i wr => ∃ k : Nat, k ≤ L.length ∧ i = .int .i64 ((L.length : Int) - 1 - k) ∧ J (bwd L k) wr ∧ KpS Bs n₀ W wr)
    (fun i _ => ((intOf i) + 1).toNat)
  case atStart => exact ⟨0, Nat.zero_le _, by simp, h0, Below.refl _ _, rfl⟩
  case round =>
    obtain ⟨k, hk, rfl, hJs, hkp⟩ := hrel
    have hsl := hkp.2.trans hBs
    have HKP := Lib.hid hkp; clear hkp
    by_cases hlt : k < L.length
    · obtain ⟨m, hm⟩ : ∃ m, m = L.length - 1 - k := ⟨_, rfl⟩
      have hix : (L.length : Int) - 1 - k = (m : Int) := by omega
      have hml : m < L.length := by omega
      have hnx : (m : Int) - 1 = (L.length : Int) - 1 - ((k + 1 : Nat) : Int) := by omega
      rw [hix]
      obtain ⟨b, off, x, hA, hbB, hx, hc0, hc1, hc2, hc3⟩ := (HS.out.below HKP.out.1).at_ hml
      subst hA
      have hf : bwF L k = (m, x) := by unfold bwF; rw [← hm, hx]; rfl
      have hsn := bwd_succ L k
      rw [hf] at hsn
      obtain ⟨fn, tmps, assign, body, hy, hR⟩ := hY _ (m, x) wr hJs (by rw [bwd_len]; exact hlt)
      have HSN := Lib.hid hsn; have HNX := Lib.hid hnx; have HM := Lib.hid hm; have HJS := Lib.hid hJs; have HX := Lib.hid hx; clear hsn hnx hm hJs hf hix hx
      obtain ⟨x0, x1, x2, x3⟩ := x
      dsimp only [boxA] at hc0 hc1 hc2 hc3 hy
      gi_wp2
      refine hR.mono ?_
      rintro e W3 (⟨rfl, hJ3, hk3⟩ | ⟨rfl, hJx3⟩)
      · gi_wp2
        go_roundw
        case rel => exact ⟨k + 1, by omega, by rw [← HNX.out], by rw [HSN.out]; exact hJ3, kpS_t HKP.out hk3⟩
        case measure => simp [intOf]
      · gi_wp2
        refine bodyPost_ret (results_none rfl _ _ _) rfl ?_
        exact ⟨⟨_, rfl⟩, .inr ⟨_, ⟨k + 1, by omega, HSN.out.symm⟩, hJx3⟩⟩
    · obtain rfl : k = L.length := by omega
      gi_wp2
      go_end0
      exact ⟨⟨_, rfl⟩, .inl ⟨_, rfl, hJs⟩⟩

theorem back_stops (F : Fence) (n : Nat) (h7 : F.fn 88) (hro : F.round = none) (hn : 1 ≤ n) (Bs n₀ : Nat) (A : Option Addr) (c : Nat) (L : List Bx) (hl : L.length ≤ maxLen) (w : World) (hBs : Bs < w.heap.size) (hn₀ : n₀ ≤ w.heap.size)
    (hc : w.cell? ⟨Bs, 0, none⟩ = some (.slice A L.length c)) (hS : XL w n₀ A L) :
    SeqStopsK F n Try.prog 88 #[.pointer (some ⟨Bs, 0, none⟩)] (fun x : Nat × Bx => #[.int .i64 (x.1 : Int), boxA x.2]) (KpS Bs n₀) (fun ys => ys = bwd L L.length) (fun pre => ∃ k, k ≤ L.length ∧ pre = bwd L k) L.length w := fun l J Jx W hW _ _ hY h0 => by
  have hc' := (hW.cell (p := ⟨Bs, 0, none⟩) hBs).trans hc
  refine (backward1_in F n h7 hro hn l Bs n₀ A c L hl J Jx hY W hc' (hS.below (hW.mono hn₀)) h0).mono ?_
  rintro e W' ⟨he, ⟨ys, hy, hj⟩ | ⟨pre, hp, hj⟩⟩
  · exact ⟨he, .inl ⟨_, hy, hj⟩⟩
  · exact ⟨he, .inr ⟨_, hp, hj⟩⟩
theorem kpS_b {Bs n₀ : Nat} {w : World} (hn : n₀ ≤ w.heap.size) (hs : Bs < w.heap.size) (W : World) (l : Nat) (o o' : Obj) (hl : w.heap.size ≤ l) (h : W.heap[l]? = some o) (hc : o.isCells = false) (hw : o.isWalk = false) : KpS Bs n₀ W (W.putObj l o') :=
  ⟨belowK_b hn W l o o' hl h hc hw, World.cell?_of_block ((grownBy_putObj' W l o').block Bs (by have := (Array.getElem?_eq_some_iff.1 h).1; omega) (fun e => by injection e; omega))⟩
end Go.Proofs.Ythfpjfekemelaaa
namespace Go.Proofs.Ythfpjfekemelaaa
open Go.RowKit
set_option linter.unusedVariables false
def noDefer (ops : Array Oper) : Bool := ops.all fun o => match o.op with | .defer _ => false | _ => true
theorem noDefer_spec {ops : Array Oper} (h : noDefer ops = true) (i : Nat) (o : Oper) (ho : ops[i]? = some o) (c : Call) : o.op ≠ .defer c := fun hc => by
  unfold noDefer at h
  rw [Array.all_eq_true] at h
  obtain ⟨hi, he⟩ := Array.getElem?_eq_some_iff.1 ho
  have := h i hi
  rw [he, hc] at this
  simp at this
section
variable {l n : Nat} {P : Program} {ops : Array Oper} {md : Region.Mode} {Q : Exit → Act → World → Prop}
theorem wide_room (l n : Nat) : (Fence.wide.inRound l).depth.isSome = true → 1 ≤ n := fun h => by simp [Fence.wide] at h
theorem up_in {o : Oper} {a : Act} {next : Act → World → Prop} {r : Result Next} (h : o.upon P a next Q r) : o.uponIn (Fence.wide.inRound l) n P a next Q r := by
  cases r with
  | ok x w' =>
    cases x with
    | value v => exact h
    | skip => exact h
    | defer d => exact h
    | enter f args => exact ⟨wide_room l n, CallsIn.inRound l (callsIn_wide.2 h)⟩
    | row r args => exact ⟨wide_room l n, fun c cs _ => let ⟨v, w', r, s⟩ := h c cs; ⟨v, w', r, stepsIn_wide.2 s⟩⟩
    | _ => exact h.elim
  | halt x w' => cases x <;> first | exact h | exact h.elim
theorem op_in {o : Oper} {a : Act} {w : World} {K : Act → World → Prop} (hd : ∀ c, o.op ≠ .defer c) (h : o.wp P a w K Q) : o.wpIn (Fence.wide.inRound l) n P a w K Q := by
  refine ⟨fun _ _ => trivial, ?_⟩
  rw [Oper.semAt_eq _ _ _ hd]
  exact up_in h
theorem any_in (hd : ∀ (i : Nat) (o : Oper), ops[i]? = some o → ∀ c, o.op ≠ .defer c) (hQ : ¬ LetsOut Q) : ∀ (fuel : Nat) (listed : Array Bool) (a : Act) (w : World), wpAny P md ops Q fuel listed a w → wpAnyIn (Fence.wide.inRound l) n P md ops Q fuel listed a w
  | 0, _, _, _, h => h
  | fuel + 1, listed, a, w, h => by
    refine ⟨h.1, fun i hi => ?_⟩
    have h2 := h.2 i hi
    unfold wpOp at h2
    unfold wpOpIn
    cases ho : ops[i]? with
    | none => rw [ho] at h2; exact any_in hd hQ fuel _ _ _ h2
    | some o =>
      rw [ho] at h2
      dsimp only at h2 ⊢
      by_cases hw : Region.wanted o (yielded ops a.tmps) = true
      · rw [if_pos hw] at h2 ⊢
        rcases h2 with h2 | h2
        · exact Oper.wpIn_mono (fun a w h => any_in hd hQ fuel _ _ _ h) (op_in (hd i o ho) h2)
        · exact absurd h2.2 hQ
      · rw [if_neg hw] at h2 ⊢
        exact ⟨fun _ _ => trivial, any_in hd hQ fuel _ _ _ h2⟩
theorem region_in {id : Nat} {a : Act} {w : World} {S : World → Prop} (hm : P.follows .mixedOrders = true) (hd : noDefer ops = true) (hQ : ¬ LetsOut Q)
    (h : wpAnyH P .any ops Q S ops.size (Array.replicate ops.size false) a w.drew) : (Code.region id ops true).wpIn (Fence.wide.inRound l) n P Q a w :=
  wpIn_region_any hm (any_in (noDefer_spec hd) hQ _ _ _ _ (wpAny_of_held _ _ _ _ h))
end
end Go.Proofs.Ythfpjfekemelaaa
namespace Go.Proofs.Ythfpjfekemelaaa
open Go.RowKit Go.Shelf
set_option linter.unusedVariables false
attribute [local go_sem] Oper.semAt_some

structure Tr where
  x : Bx
  fx : Bool
def tierC (t : Tr) (q : Option Addr) : Array Value := #[.int .i64 t.x.low, .int .i64 t.x.size, .int .i64 t.x.par, .bool t.x.jam, .bool t.fx, .pointer q]
/-- the tiers lie in these blocks, linked one to the next above -/
def TL (w : World) (lo : Nat) : Option Addr → List Nat → List Tr → Prop
  | p, [], [] => p = none
  | p, g :: gs, t :: r => p = some ⟨g, 0, none⟩ ∧ lo ≤ g ∧ g ∉ gs ∧ ∃ q, Has w g 85 (tierC t q) ∧ TL w lo q gs r
  | _, _, _ => False
theorem TL.kept {w w' : World} {lo : Nat} : ∀ {gs : List Nat} {p : Option Addr} {l : List Tr}, TL w lo p gs l → (∀ g ∈ gs, ∀ cs, Has w g 85 cs → Has w' g 85 cs) → TL w' lo p gs l
  | [], p, [], h, _ => h
  | [], p, t :: r, h, _ => h.elim
  | g :: gs, p, [], h, _ => h.elim
  | g :: gs, p, t :: r, ⟨h1, h2, h3, q, h4, h5⟩, hk => ⟨h1, h2, h3, q, hk g List.mem_cons_self _ h4, h5.kept fun g' hg' => hk g' (List.mem_cons_of_mem _ hg')⟩
theorem TL.lt {w : World} {lo : Nat} : ∀ {gs : List Nat} {p : Option Addr} {l : List Tr}, TL w lo p gs l → ∀ g ∈ gs, lo ≤ g ∧ g < w.heap.size
  | [], p, l, _, g, hg => by cases hg
  | g :: gs, p, [], h, _, _ => h.elim
  | g :: gs, p, t :: r, ⟨h1, h2, h3, q, h4, h5⟩, g', hg' => by
    rcases List.mem_cons.1 hg' with e | e
    · subst e; exact ⟨h2, has_lt h4⟩
    · exact h5.lt g' e
theorem TL.call {w w' : World} {lo : Nat} {gs : List Nat} {p : Option Addr} {l : List Tr} (h : TL w lo p gs l) (hb : Below w.heap.size w w') : TL w' lo p gs l := h.kept fun g hg cs hh => has_call hh hb
theorem TL.far {w : World} {lo : Nat} {gs : List Nat} {p : Option Addr} {l : List Tr} (h : TL w lo p gs l) {a : Addr} (ha : a.block < lo) (v : Value) : TL (w.setCell a v) lo p gs l := h.kept fun g hg cs hh => has_far hh (by have := (h.lt g hg).1; omega) v
theorem TL.own {w w' : World} {lo : Nat} {gs : List Nat} {p : Option Addr} {l : List Tr} {row : Option Nat} (h : TL w lo p gs l) (hg : w.grownBy w' row) (hr : ∀ r, row = some r → ∃ o : Obj, w.heap[r]? = some o ∧ o.isCells = false) : TL w' lo p gs l :=
  h.kept fun g _ cs hh => has_grown' hh hg hr
where has_grown' {w w' : World} {g : Nat} {t : TypeId} {cs : Array Value} {row : Option Nat} (h : Has w g t cs) (hg : w.grownBy w' row) (hr : ∀ r, row = some r → ∃ o : Obj, w.heap[r]? = some o ∧ o.isCells = false) : Has w' g t cs :=
  (hg.block g (has_lt h) (fun e => by
    obtain ⟨o, ho, hc⟩ := hr g e.symm
    have := (show w.heap[g]? = _ from h).symm.trans ho
    injection this with this; subst this
    cases hc)).trans h
theorem has_own {w w' : World} {g : Nat} {t : TypeId} {cs : Array Value} {row : Option Nat} (h : Has w g t cs) (hg : w.grownBy w' row) (hr : ∀ r, row = some r → ∃ o : Obj, w.heap[r]? = some o ∧ o.isCells = false) : Has w' g t cs := TL.own.has_grown' h hg hr
theorem TL.more {w : World} {lo lo' : Nat} : ∀ {gs : List Nat} {p : Option Addr} {l : List Tr}, TL w lo p gs l → lo' ≤ lo → TL w lo' p gs l
  | [], p, [], h, _ => h
  | [], p, t :: r, h, _ => h.elim
  | g :: gs, p, [], h, _ => h.elim
  | g :: gs, p, t :: r, ⟨h1, h2, h3, q, h4, h5⟩, hl => ⟨h1, by omega, h3, q, h4, h5.more hl⟩
theorem ko_below {w w' : World} (h : Below w.heap.size w w') : KeepsOthers w w' := ⟨h.size, fun k o hk _ => (h.block k (Array.getElem?_eq_some_iff.1 hk).1).trans hk⟩
def trOf (F : List Int) (x : Bx) : Tr := ⟨x, F.contains x.low⟩
/-- the tiers that the rounds so far have made, the lowest one first -/
def trs (F : List Int) (pre : List (Nat × Bx)) : List Tr := (pre.map fun y => trOf F y.2).reverse
theorem trs_snoc (F : List Int) (pre : List (Nat × Bx)) (y : Nat × Bx) : trs F (pre ++ [y]) = trOf F y.2 :: trs F pre := by simp [trs]
theorem trs_all (F : List Int) (L : List Bx) : trs F (bwd L L.length) = L.map (trOf F) := by
  unfold trs bwd
  apply List.ext_getElem
  · simp
  · intro i h1 h2
    simp at h1 h2
    simp only [List.getElem_reverse, List.getElem_map, List.getElem_range, List.length_map, List.length_range, bwF]
    have e : L.length - 1 - (L.length - 1 - i) = i := by omega
    rw [e, List.getElem?_eq_getElem h2]
    rfl

theorem back_in (F : Fence) (n : Nat) (h5 : F.fn 79) (hro : F.round = none) (a : Option Addr) (len cap : Nat) (w : World) :
    CallsIn F n Try.prog 79 #[.slice a len cap] w fun e w' => e = .returned (.func (.func 88) #[] #[.pointer (some ⟨w.heap.size, 0, none⟩)]) ∧ w' = w.alloc (.cells #[.slice a len cap] 55) := by
  refine callsIn_of_wp Try.func79 rfl h5 ?_ hro
  simp only [Try.ntmps79, List.size_toArray, List.length_cons, List.length_nil, Nat.reduceAdd, Nat.reduceSub, Array.replicate_succ, Array.replicate_zero, List.push_toArray, List.append_toArray, List.nil_append, List.cons_append]
  gi_wp2
  go_ret
  exact ⟨rfl, rfl⟩

set_option maxRecDepth 100000 in
set_option maxHeartbeats 4000000 in
theorem stack_any (w : World) (B : Nat) (x : Cl) (hB : B ≤ w.heap.size) (hV : CV w B x) :
    Calls Try.prog 56 #[.agg #[.int .i64 x.z, .slice x.AF x.F.length x.cF, .slice x.AB x.L.length x.cB]] w fun e w' => ∃ p gs, e = .returned (.pointer p) ∧ TL w' w.heap.size p gs (x.L.map (trOf x.F)) ∧ Below w.heap.size w w' := by
  have HV := Lib.hid hV; clear hV
  refine (callsIn_wide (n := 6)).1 ?_
  refine callsIn_of_wp_marks Try.func56 rfl trivial ?_ rfl
  simp only [Try.ntmps56, List.size_toArray, List.length_cons, List.length_nil, Nat.reduceAdd, Nat.reduceSub, Array.replicate_succ, Array.replicate_zero, List.push_toArray, List.append_toArray, List.nil_append, List.cons_append]
  gi_wp2_with (refine ⟨trivial, ?_⟩; gi_at_call 79; refine (back_in Fence.wide _ trivial rfl _ _ _ _).mono ?_; rintro e w' ⟨rfl, rfl⟩)
  generalize hW0 : ((w.alloc (.cells #[.int .i64 x.z, .slice x.AF x.F.length x.cF, .slice x.AB x.L.length x.cB] 57)).alloc (.cells #[.pointer none] 82)).alloc (.cells #[.slice x.AB x.L.length x.cB] 55) = W0
  have b0 : Below w.heap.size w W0 := by rw [← hW0]; exact bthen (bthen (balloc _ _) (balloc _ _)) (balloc _ _)
  have k0 : Has W0 w.heap.size 57 #[.int .i64 x.z, .slice x.AF x.F.length x.cF, .slice x.AB x.L.length x.cB] := by rw [← hW0]; exact has_alloc (has_alloc (has_new _ _ _) _) _
  have k1 : Has W0 (w.heap.size + 1) 82 #[.pointer none] := by rw [← hW0]; have := has_alloc (has_new (w.alloc (.cells #[.int .i64 x.z, .slice x.AF x.F.length x.cF, .slice x.AB x.L.length x.cB] 57)) 82 #[.pointer none]) (.cells #[.slice x.AB x.L.length x.cB] 55); simpa using this
  have k2 : Has W0 (w.heap.size + 1 + 1) 55 #[.slice x.AB x.L.length x.cB] := by rw [← hW0]; have := has_new ((w.alloc (.cells #[.int .i64 x.z, .slice x.AF x.F.length x.cF, .slice x.AB x.L.length x.cB] 57)).alloc (.cells #[.pointer none] 82)) 55 #[.slice x.AB x.L.length x.cB]; simpa using this
  have hs0 : W0.heap.size = w.heap.size + 3 := by rw [← hW0]; simp
  clear hW0
  have v0 := HV.out.later hB b0
  have HV0 := Lib.hid v0; clear v0
  refine wpIn_rangeFunc_ownH rfl (by omega) (gf := 88) (lb := #[.pointer (some ⟨w.heap.size + 1 + 1, 0, none⟩)]) rfl trivial (enters_of Try.func88 (by kernel_rfl) rfl)
    (back_stops Fence.wide 5 trivial rfl (by omega) (w.heap.size + 1 + 1) w.heap.size x.AB x.cB x.L HV0.out.lb W0 (by omega) (by omega) (has_cell k2 0 rfl) (HV0.out.b.more hB)) kpS_t (kpS_b (by omega) (by omega)) (Below.refl _ _) (fun _ => rfl)
    (fun pre W => ((Has W w.heap.size 57 #[.int .i64 x.z, .slice x.AF x.F.length x.cF, .slice x.AB x.L.length x.cB] ∧ Has W (w.heap.size + 1 + 1) 55 #[.slice x.AB x.L.length x.cB]) ∧ ∃ p gs, Has W (w.heap.size + 1) 82 #[.pointer p] ∧ TL W (w.heap.size + 3) p gs (trs x.F pre)) ∧ Below w.heap.size w W)
    (fun _ _ _ => False)
    (OwnFrom.and (Own.from (fun s A B row hs hg hr => ⟨⟨has_own hs.1.1 hg hr, has_own hs.1.2 hg hr⟩, by obtain ⟨p, gs, h1, h2⟩ := hs.2; exact ⟨p, gs, has_own h1 hg hr, h2.own hg hr⟩⟩) _) (ownFrom_below (Nat.le_refl _) (by omega)))
    (fun _ _ _ _ _ hs _ _ => hs)
    ⟨⟨⟨k0, k2⟩, none, [], k1, rfl⟩, b0⟩
    (fun y a' W => ∃ Bx, w.heap.size + 3 ≤ Bx ∧ Has W Bx 65 #[.int .i64 y.2.low, .int .i64 y.2.size, .int .i64 y.2.par, .bool y.2.jam] ∧ a' = { tmps := #[.agg #[.int .i64 x.z, .slice x.AF x.F.length x.cF, .slice x.AB x.L.length x.cB], .pointer (some ⟨w.heap.size, 0, none⟩), .pointer none, .pointer (some ⟨w.heap.size + 1, 0, none⟩), undef, .pointer (some ⟨Bx, 0, none⟩), .pointer (some ⟨w.heap.size, 2, none⟩), .slice x.AB x.L.length x.cB, .func (.func 88) #[] #[.pointer (some ⟨w.heap.size + 1 + 1, 0, none⟩)], .int .i64 (y.1 : Int), boxA y.2, undef, undef, undef, undef, undef, undef, undef, undef, undef, undef], defers := [] })
    (fun y a' _ X Y row hs hg hr => by obtain ⟨Bx, h1, h2, h3⟩ := hs; exact ⟨Bx, h1, has_own h2 hg (fun r e => (hr r e).2), h3⟩)
    ?assign ?body ?done ?stop
  case assign =>
    rintro l pre y W K ⟨⟨⟨kA, kB⟩, p, gs, kP, hT⟩, hBl⟩ hK
    obtain ⟨yi, y0, y1, y2, y3⟩ := y
    dsimp only [boxA]
    gi_wp2
    have hsB := hBl.size
    exact hK _ _ ((KeepsOthers.alloc _ _).from _) ⟨(Below.refl _ W).alloc hBl.size _, bold (balloc _ _) _ _ (has_lt kB)⟩ ⟨⟨⟨has_alloc kA _, has_alloc kB _⟩, p, gs, has_alloc kP _, hT.call (balloc _ _)⟩, hBl.alloc hBl.size _⟩ ⟨W.heap.size, has_lt kB, has_new _ _ _, rfl⟩
  case body =>
    rintro l pre y a' W hl ⟨r, hr⟩ ⟨⟨⟨kA, kB⟩, p, gs, kP, hT⟩, hBl⟩ ⟨Bx, hBx, bX, rfl⟩ hlt
    obtain ⟨yi, y0, y1, y2, y3⟩ := y
    dsimp only [boxA] at bX ⊢
    have hsB := hBl.size
    have hBW : B ≤ W.heap.size := by omega
    have hIL : IL W B x.AF x.F := HV.out.f.below (hBl.mono hB)
    have hlf := HV.out.lf
    have HIL := Lib.hid hIL; have HLF := Lib.hid hlf; clear hIL hlf
    have c0 := has_cell bX 0 rfl
    have c1 := has_cell bX 1 rfl
    have c2 := has_cell bX 2 rfl
    have c3 := has_cell bX 3 rfl
    have d1 := has_cell kA 1 rfl
    have p0 := has_cell kP 0 rfl
    have pf := has_free kP 0
    have hlA := has_lt kA
    have hlP := has_lt kP
    have hlX := has_lt bX
    have KA := Lib.hid kA; have KB := Lib.hid kB; have KP := Lib.hid kP; have HT := Lib.hid hT; have KX := Lib.hid bX; have HR := Lib.hid hr; have HBL := Lib.hid hBl; clear kA kB kP hT bX hr hBl
    have hd : 1 ≤ 6 - 1 - 1 := by omega
    have hmx : Try.prog.follows .mixedOrders = true := by kernel_rfl
    gi_wp2
    obtain ⟨fx, hfx⟩ : ∃ fx, fx = x.F.contains y0 := ⟨_, rfl⟩
    have hcon0 := contains_any W.drew B x.AF x.cF x.F y0 HLF.out (show B ≤ W.drew.heap.size from hBW) (HIL.out.below (Below.refl _ _).drew)
    rw [← hfx] at hcon0
    have hcon := Lib.hid hcon0
    have HFX := Lib.hid hfx
    clear hcon0 hfx
    have S0 : (fun W' : World => (W'.cell? ⟨Bx, 0, none⟩ = some (.int .i64 y0) ∧ W'.cell? ⟨Bx, 1, none⟩ = some (.int .i64 y1) ∧ W'.cell? ⟨Bx, 2, none⟩ = some (.int .i64 y2) ∧ W'.cell? ⟨Bx, 3, none⟩ = some (.bool y3) ∧ W'.cell? ⟨w.heap.size, 1, none⟩ = some (.slice x.AF x.F.length x.cF))) W.drew := ⟨c0, c1, c2, c3, d1⟩
    dsimp only at S0
    refine region_in (S := (fun W' : World => (W'.cell? ⟨Bx, 0, none⟩ = some (.int .i64 y0) ∧ W'.cell? ⟨Bx, 1, none⟩ = some (.int .i64 y1) ∧ W'.cell? ⟨Bx, 2, none⟩ = some (.int .i64 y2) ∧ W'.cell? ⟨Bx, 3, none⟩ = some (.bool y3) ∧ W'.cell? ⟨w.heap.size, 1, none⟩ = some (.slice x.AF x.F.length x.cF)))) hmx (by kernel_rfl) (fun ⟨_, _, h⟩ => h) ?_
    refine wpAnyH_take (i := 1) (v := .pointer (some ⟨w.heap.size, 1, none⟩)) rfl (by kernel_rfl) (by kernel_rfl) (by kernel_rfl) (fun _ _ _ h => h) (Or.inl ⟨by rfl, (by intro w hSw; (try dsimp only at hSw); go_simp)⟩) S0 ?_
    simp only [Act.put, List.setIfInBounds_toArray, List.set_cons_zero, List.set_cons_succ]
    refine wpAnyH_take (i := 3) (v := .pointer (some ⟨Bx, 0, none⟩)) rfl (by kernel_rfl) (by kernel_rfl) (by kernel_rfl) (fun _ _ _ h => h) (Or.inl ⟨by rfl, (by intro w hSw; (try dsimp only at hSw); go_simp)⟩) S0 ?_
    simp only [Act.put, List.setIfInBounds_toArray, List.set_cons_zero, List.set_cons_succ]
    refine wpAnyH_take (i := 0) (v := .agg #[.int .i64 y0, .int .i64 y1, .int .i64 y2, .bool y3]) rfl (by kernel_rfl) (by kernel_rfl) (by kernel_rfl) (fun _ _ _ h => h) (Or.inl ⟨by rfl, (by intro w hSw; (try dsimp only at hSw); go_simp)⟩) S0 ?_
    simp only [Act.put, List.setIfInBounds_toArray, List.set_cons_zero, List.set_cons_succ]
    refine wpAnyH_take (i := 2) (v := .slice x.AF x.F.length x.cF) rfl (by kernel_rfl) (by kernel_rfl) (by kernel_rfl) (fun _ _ _ h => h) (Or.inl ⟨by rfl, (by intro w hSw; (try dsimp only at hSw); go_simp)⟩) S0 ?_
    simp only [Act.put, List.setIfInBounds_toArray, List.set_cons_zero, List.set_cons_succ]
    refine wpAnyH_take (i := 4) (v := .int .i64 y0) rfl (by kernel_rfl) (by kernel_rfl) (by kernel_rfl) (fun _ _ _ h => h) (Or.inl ⟨by rfl, (by intro w hSw; (try dsimp only at hSw); go_simp)⟩) S0 ?_
    simp only [Act.put, List.setIfInBounds_toArray, List.set_cons_zero, List.set_cons_succ]
    refine wpAnyH_ready (rs := [5, 6]) (by kernel_rfl) (by simp) ?_
    refine AllReadyH.cons rfl (fun K hK => ?_) (AllReadyH.cons rfl (fun K hK => ?_) AllReadyH.nil)
    · go_simp
      refine hcon.out.mono ?_
      rintro e w2 ⟨rfl, hb⟩
      have kP2 := has_call (has_drew KP.out) hb
      have bX2 := has_call (has_drew KX.out) hb
      have kA2 := has_call (has_drew KA.out) hb
      have kB2 := has_call (has_drew KB.out) hb
      have p02 := has_cell kP2 0 rfl
      have pf2 := has_free kP2 0
      have S2 := And.intro (has_cell bX2 0 rfl) (And.intro (has_cell bX2 1 rfl) (And.intro (has_cell bX2 2 rfl) (And.intro (has_cell bX2 3 rfl) (has_cell kA2 1 rfl))))
      refine hK.out _ _ S2 (fun _ => ?_)
      refine wpAnyH_ready (rs := [6]) (by kernel_rfl) (by simp) ?_
      refine AllReadyH.cons rfl (fun K6 hK6 => ?_) AllReadyH.nil
      go_simp
      refine hK6.out _ _ S2 (fun _ => ?_)
      refine wpAnyH_take (i := 7) (v := .agg #[.int .i64 y0, .int .i64 y1, .int .i64 y2, .bool y3, .bool fx, .pointer p]) rfl (by kernel_rfl) (by kernel_rfl) (by kernel_rfl) (fun _ _ _ h => h) (Or.inl ⟨by rfl, (by intro w hSw; (try dsimp only at hSw); go_simp)⟩) S2 ?_
      simp only [Act.put, List.setIfInBounds_toArray, List.set_cons_zero, List.set_cons_succ]
      refine wpAnyH_ready (rs := [8]) (by kernel_rfl) (by simp) ?_
      refine AllReadyH.cons rfl (fun K8 hK8 => ?_) AllReadyH.nil
      go_simp
      generalize hX : w2.alloc (.cells #[.int .i64 y0, .int .i64 y1, .int .i64 y2, .bool y3, .bool fx, .pointer p] 85) = w3
      have b3 : Below w2.heap.size w2 w3 := by rw [← hX]; exact balloc _ _
      have kT := (show Has w3 w2.heap.size 85 (tierC (trOf x.F ⟨y0, y1, y2, y3⟩) p) by rw [← hX]; unfold tierC trOf; rw [← HFX.out]; exact has_new _ _ _)
      clear hX
      have kP3 := has_call kP2 b3
      have bX3 := has_call bX2 b3
      have kA3 := has_call kA2 b3
      have kB3 := has_call kB2 b3
      have p03 := has_cell kP3 0 rfl
      have pf3 := has_free kP3 0
      have S3 := And.intro (has_cell bX3 0 rfl) (And.intro (has_cell bX3 1 rfl) (And.intro (has_cell bX3 2 rfl) (And.intro (has_cell bX3 3 rfl) (has_cell kA3 1 rfl))))
      refine hK8.out _ _ S3 (fun _ => ?_)
      refine wpAnyH_ready (rs := [9]) (by kernel_rfl) (by simp) ?_
      refine AllReadyH.cons rfl (fun K9 hK9 => ?_) AllReadyH.nil
      go_simp
      have hz2 := hb.size
      have hz3 := b3.size
      have hzd : W.drew.heap.size = W.heap.size := rfl
      have bW2 : Below w.heap.size W w2 := ((Below.refl w.heap.size W).drew).trans (hb.mono (by omega))
      have bW3 : Below w.heap.size W w3 := bW2.trans (b3.mono (by omega))
      have bX4 := has_far bX3 (p := ⟨w.heap.size + 1, 0, none⟩) (by show Bx ≠ w.heap.size + 1; omega) (.pointer (some ⟨w2.heap.size, 0, none⟩))
      have kA4 := has_far kA3 (p := ⟨w.heap.size + 1, 0, none⟩) (by show w.heap.size ≠ w.heap.size + 1; omega) (.pointer (some ⟨w2.heap.size, 0, none⟩))
      have kB4 := has_far kB3 (p := ⟨w.heap.size + 1, 0, none⟩) (by show w.heap.size + 1 + 1 ≠ w.heap.size + 1; omega) (.pointer (some ⟨w2.heap.size, 0, none⟩))
      have kT4 := has_far kT (p := ⟨w.heap.size + 1, 0, none⟩) (by show w2.heap.size ≠ w.heap.size + 1; omega) (.pointer (some ⟨w2.heap.size, 0, none⟩))
      have kP4 := has_set kP3 0 (.pointer (some ⟨w2.heap.size, 0, none⟩))
      simp only [List.setIfInBounds_toArray, List.set_cons_zero] at kP4
      have hT2 : TL w2 (w.heap.size + 3) p gs (trs x.F pre) := (HT.out.kept (w' := W.drew) fun g _ cs hh => hh).call hb
      have hT4 : TL (w3.setCell ⟨w.heap.size + 1, 0, none⟩ (.pointer (some ⟨w2.heap.size, 0, none⟩))) (w.heap.size + 3) p gs (trs x.F pre) := (hT2.call b3).far (by show w.heap.size + 1 < _; omega) _
      have hni : w2.heap.size ∉ gs := fun hm => by have := (hT2.lt _ hm).2; omega
      refine hK9.out _ _ ⟨has_cell bX4 0 rfl, has_cell bX4 1 rfl, has_cell bX4 2 rfl, has_cell bX4 3 rfl, has_cell kA4 1 rfl⟩ (fun _ => wpAnyH_done (by kernel_rfl) ?_ _)
      refine ⟨((((KeepsOthers.drew W).trans (ko_below hb)).trans (ko_below b3)).trans (KeepsOthers.setCell _ _ _)).from _, ⟨bW3.setCell (p := ⟨w.heap.size + 1, 0, none⟩) (by show w.heap.size ≤ w.heap.size + 1; omega) _, (has_cell kB4 0 rfl).trans (has_cell KB.out 0 rfl).symm⟩, ⟨⟨kA4, kB4⟩, some ⟨w2.heap.size, 0, none⟩, w2.heap.size :: gs, kP4, ?_⟩, (HBL.out.trans bW3).setCell (p := ⟨w.heap.size + 1, 0, none⟩) (by show w.heap.size ≤ w.heap.size + 1; omega) _⟩
      rw [trs_snoc]
      exact ⟨rfl, by omega, hni, p, kT4, hT4⟩
    · go_simp
      refine hK.out _ _ S0 (fun _ => ?_)
      refine wpAnyH_ready (rs := [5]) (by kernel_rfl) (by simp) ?_
      refine AllReadyH.cons rfl (fun K5 hK5 => ?_) AllReadyH.nil
      go_simp
      refine hcon.out.mono ?_
      rintro e w2 ⟨rfl, hb⟩
      have kP2 := has_call (has_drew KP.out) hb
      have bX2 := has_call (has_drew KX.out) hb
      have kA2 := has_call (has_drew KA.out) hb
      have kB2 := has_call (has_drew KB.out) hb
      have p02 := has_cell kP2 0 rfl
      have pf2 := has_free kP2 0
      have S2 := And.intro (has_cell bX2 0 rfl) (And.intro (has_cell bX2 1 rfl) (And.intro (has_cell bX2 2 rfl) (And.intro (has_cell bX2 3 rfl) (has_cell kA2 1 rfl))))
      refine hK5.out _ _ S2 (fun _ => ?_)
      refine wpAnyH_take (i := 7) (v := .agg #[.int .i64 y0, .int .i64 y1, .int .i64 y2, .bool y3, .bool fx, .pointer p]) rfl (by kernel_rfl) (by kernel_rfl) (by kernel_rfl) (fun _ _ _ h => h) (Or.inl ⟨by rfl, (by intro w hSw; (try dsimp only at hSw); go_simp)⟩) S2 ?_
      simp only [Act.put, List.setIfInBounds_toArray, List.set_cons_zero, List.set_cons_succ]
      refine wpAnyH_ready (rs := [8]) (by kernel_rfl) (by simp) ?_
      refine AllReadyH.cons rfl (fun K8 hK8 => ?_) AllReadyH.nil
      go_simp
      generalize hX : w2.alloc (.cells #[.int .i64 y0, .int .i64 y1, .int .i64 y2, .bool y3, .bool fx, .pointer p] 85) = w3
      have b3 : Below w2.heap.size w2 w3 := by rw [← hX]; exact balloc _ _
      have kT := (show Has w3 w2.heap.size 85 (tierC (trOf x.F ⟨y0, y1, y2, y3⟩) p) by rw [← hX]; unfold tierC trOf; rw [← HFX.out]; exact has_new _ _ _)
      clear hX
      have kP3 := has_call kP2 b3
      have bX3 := has_call bX2 b3
      have kA3 := has_call kA2 b3
      have kB3 := has_call kB2 b3
      have p03 := has_cell kP3 0 rfl
      have pf3 := has_free kP3 0
      have S3 := And.intro (has_cell bX3 0 rfl) (And.intro (has_cell bX3 1 rfl) (And.intro (has_cell bX3 2 rfl) (And.intro (has_cell bX3 3 rfl) (has_cell kA3 1 rfl))))
      refine hK8.out _ _ S3 (fun _ => ?_)
      refine wpAnyH_ready (rs := [9]) (by kernel_rfl) (by simp) ?_
      refine AllReadyH.cons rfl (fun K9 hK9 => ?_) AllReadyH.nil
      go_simp
      have hz2 := hb.size
      have hz3 := b3.size
      have hzd : W.drew.heap.size = W.heap.size := rfl
      have bW2 : Below w.heap.size W w2 := ((Below.refl w.heap.size W).drew).trans (hb.mono (by omega))
      have bW3 : Below w.heap.size W w3 := bW2.trans (b3.mono (by omega))
      have bX4 := has_far bX3 (p := ⟨w.heap.size + 1, 0, none⟩) (by show Bx ≠ w.heap.size + 1; omega) (.pointer (some ⟨w2.heap.size, 0, none⟩))
      have kA4 := has_far kA3 (p := ⟨w.heap.size + 1, 0, none⟩) (by show w.heap.size ≠ w.heap.size + 1; omega) (.pointer (some ⟨w2.heap.size, 0, none⟩))
      have kB4 := has_far kB3 (p := ⟨w.heap.size + 1, 0, none⟩) (by show w.heap.size + 1 + 1 ≠ w.heap.size + 1; omega) (.pointer (some ⟨w2.heap.size, 0, none⟩))
      have kT4 := has_far kT (p := ⟨w.heap.size + 1, 0, none⟩) (by show w2.heap.size ≠ w.heap.size + 1; omega) (.pointer (some ⟨w2.heap.size, 0, none⟩))
      have kP4 := has_set kP3 0 (.pointer (some ⟨w2.heap.size, 0, none⟩))
      simp only [List.setIfInBounds_toArray, List.set_cons_zero] at kP4
      have hT2 : TL w2 (w.heap.size + 3) p gs (trs x.F pre) := (HT.out.kept (w' := W.drew) fun g _ cs hh => hh).call hb
      have hT4 : TL (w3.setCell ⟨w.heap.size + 1, 0, none⟩ (.pointer (some ⟨w2.heap.size, 0, none⟩))) (w.heap.size + 3) p gs (trs x.F pre) := (hT2.call b3).far (by show w.heap.size + 1 < _; omega) _
      have hni : w2.heap.size ∉ gs := fun hm => by have := (hT2.lt _ hm).2; omega
      refine hK9.out _ _ ⟨has_cell bX4 0 rfl, has_cell bX4 1 rfl, has_cell bX4 2 rfl, has_cell bX4 3 rfl, has_cell kA4 1 rfl⟩ (fun _ => wpAnyH_done (by kernel_rfl) ?_ _)
      refine ⟨((((KeepsOthers.drew W).trans (ko_below hb)).trans (ko_below b3)).trans (KeepsOthers.setCell _ _ _)).from _, ⟨bW3.setCell (p := ⟨w.heap.size + 1, 0, none⟩) (by show w.heap.size ≤ w.heap.size + 1; omega) _, (has_cell kB4 0 rfl).trans (has_cell KB.out 0 rfl).symm⟩, ⟨⟨kA4, kB4⟩, some ⟨w2.heap.size, 0, none⟩, w2.heap.size :: gs, kP4, ?_⟩, (HBL.out.trans bW3).setCell (p := ⟨w.heap.size + 1, 0, none⟩) (by show w.heap.size ≤ w.heap.size + 1; omega) _⟩
      rw [trs_snoc]
      exact ⟨rfl, by omega, hni, p, kT4, hT4⟩
  case done =>
    rintro D zs W hD rfl ⟨⟨⟨kA, kB⟩, p, gs, kP, hT⟩, hBl⟩ hK
    have p0 := has_cell kP 0 rfl
    gi_wp2
    refine ⟨by simp, .inl ⟨_, _, rfl, run_takeDeferred hK, ?_⟩⟩
    refine ⟨_, results_tmp rfl _ _ _, p, gs, rfl, ?_, hBl.trans (belowK_b (w := w) (Nat.le_refl _) W D _ _ (by omega) hK rfl rfl)⟩
    rw [trs_all] at hT
    exact (hT.own (grownBy_putObj' W D (.deferred none)) (fun r e => by cases e; exact ⟨_, hK, rfl⟩)).more (by omega)
  case stop =>
    rintro D c pre W _ _ h _
    exact h.elim
end Go.Proofs.Ythfpjfekemelaaa
