/- Chapter 7: bestOf over tours (gen_txc.py). -/
import Derived.Test.YtfimdhbcifjioaaTxB
import Derived.Deep.RegionHeld3
import Derived.Deep.DeepMust
import Derived.WalkLawsBesides
import Derived.OrdersIn
import Derived.Deep.RegionHeld3
import Derived.RangeFuncNested
import Derived.RangeFuncBound
import Derived.RangeFuncCalls
import Derived.RangeFuncLeaves
import Derived.Shelf.Abstract
import Derived.Shelf.RegionOpen
import Derived.OwnWalkIn
import Derived.TacticsInMore
import Derived.LoopNIn
import Derived.LoopIn
namespace Go.Proofs.Ytfimdhbcifjioaa
open Go.RowKit
set_option linter.unusedVariables false

open Go.Shelf
attribute [local go_sem] Oper.semAt_some
def noDeferT (ops : Array Oper) : Bool := ops.all fun o => match o.op with | .defer _ => false | _ => true
theorem noDeferT_spec {ops : Array Oper} (h : noDeferT ops = true) (i : Nat) (o : Oper) (ho : ops[i]? = some o) (c : Call) : o.op ≠ .defer c := fun hc => by
  unfold noDeferT at h
  rw [Array.all_eq_true] at h
  obtain ⟨hi, he⟩ := Array.getElem?_eq_some_iff.1 ho
  have := h i hi
  rw [he, hc] at this
  simp at this
section
variable {n : Nat} {P : Program} {ops : Array Oper} {md : Region.Mode} {Q : Exit → Act → World → Prop}
theorem wide_roomT (n : Nat) : Fence.wide.depth.isSome = true → 1 ≤ n := fun h => by simp [Fence.wide] at h
theorem up_inT {o : Oper} {a : Act} {next : Act → World → Prop} {r : Result Next} (h : o.upon P a next Q r) : o.uponIn Fence.wide n P a next Q r := by
  cases r with
  | ok x w' =>
    cases x with
    | value v => exact h
    | skip => exact h
    | defer d => exact h
    | enter f args => exact ⟨wide_roomT n, callsIn_wide.2 h⟩
    | row r args => exact ⟨wide_roomT n, fun c cs _ => let ⟨v, w', r, s⟩ := h c cs; ⟨v, w', r, stepsIn_wide.2 s⟩⟩
    | _ => exact h.elim
  | halt x w' => cases x <;> first | exact h | exact h.elim
theorem op_inT {o : Oper} {a : Act} {w : World} {K : Act → World → Prop} (hd : ∀ c, o.op ≠ .defer c) (h : o.wp P a w K Q) : o.wpIn Fence.wide n P a w K Q := by
  refine ⟨fun _ _ => trivial, ?_⟩
  rw [Oper.semAt_eq _ _ _ hd]
  exact up_inT h
theorem any_inT (hd : ∀ (i : Nat) (o : Oper), ops[i]? = some o → ∀ c, o.op ≠ .defer c) (hQ : ¬ LetsOut Q) : ∀ (fuel : Nat) (listed : Array Bool) (a : Act) (w : World), wpAny P md ops Q fuel listed a w → wpAnyIn Fence.wide n P md ops Q fuel listed a w
  | 0, _, _, _, h => h
  | fuel + 1, listed, a, w, h => by
    refine ⟨h.1, fun i hi => ?_⟩
    have h2 := h.2 i hi
    unfold wpOp at h2
    unfold wpOpIn
    cases ho : ops[i]? with
    | none => rw [ho] at h2; exact any_inT hd hQ fuel _ _ _ h2
    | some o =>
      rw [ho] at h2
      dsimp only at h2 ⊢
      by_cases hw : Region.wanted o (yielded ops a.tmps) = true
      · rw [if_pos hw] at h2 ⊢
        rcases h2 with h2 | h2
        · exact Oper.wpIn_mono (fun a w h => any_inT hd hQ fuel _ _ _ h) (op_inT (hd i o ho) h2)
        · exact absurd h2.2 hQ
      · rw [if_neg hw] at h2 ⊢
        exact ⟨fun _ _ => trivial, any_inT hd hQ fuel _ _ _ h2⟩
theorem region_inT {id : Nat} {a : Act} {w : World} {S : World → Prop} (hm : P.follows .mixedOrders = true) (hd : noDeferT ops = true) (hQ : ¬ LetsOut Q)
    (h : wpAnyH P .any ops Q S ops.size (Array.replicate ops.size false) a w.drew) : (Code.region id ops true).wpIn Fence.wide n P Q a w :=
  wpIn_region_any hm (any_inT (noDeferT_spec hd) hQ _ _ _ _ (wpAny_of_held _ _ _ _ h))
end
def Bet (bf : FuncId) (bet : Nat → Nat → Int → Int → Bool) : Prop := ∀ (w : World) (A A2 B B2 : Option Addr) (n c n2 c2 m e m2 e2 : Nat) (f p q g s t : Int), Calls Try.prog bf #[.agg #[.slice A n c, .slice A2 n2 c2, .int .i64 f, .int .i64 p, .int .i64 q], .agg #[.slice B m e, .slice B2 m2 e2, .int .i64 g, .int .i64 s, .int .i64 t]] w fun x w' => x = .returned (.bool (bet n m f g)) ∧ Below w.heap.size w w'
def bstepI (bet : Nat → Nat → Int → Int → Bool) (acc : Option (List Int × Int)) (y : List Int × Int) : Option (List Int × Int) := match acc with
  | none => some y
  | some z => if bet y.1.length z.1.length y.2 z.2 then some y else some z
def accI (g : Bool) (x : To) : Option (List Int × Int) := if g then some (toKey x) else none
theorem bstepI_snoc (bet : Nat → Nat → Int → Int → Bool) (ts : List To) (y : To) : ((ts ++ [y]).map toKey).foldl (bstepI bet) none = bstepI bet ((ts.map toKey).foldl (bstepI bet) none) (toKey y) := by simp
def ToHas (W : World) (g : Nat) (x : To) : Prop := Has W g 40 #[.slice x.A x.l.length x.cA, .slice x.A2 x.l.length x.c2, .int .i64 x.d.fin, .int .i64 x.d.peak, .int .i64 x.d.wait]
def zeroTo : To := ⟨none, 0, [], none, 0, ⟨[], 0, 0, 0, 0, 0⟩⟩
def BestOfA (bet : Nat → Nat → Int → Int → Bool) (X : List (List Int × Int)) (w : World) (e : Ending) (w' : World) : Prop := ∃ (g : Bool) (x : To), e = .returned (.tuple #[.agg #[.slice x.A x.l.length x.cA, .slice x.A2 x.l.length x.c2, .int .i64 x.d.fin, .int .i64 x.d.peak, .int .i64 x.d.wait], .bool g]) ∧ X.foldl (bstepI bet) none = accI g x ∧ (g = false → x = zeroTo) ∧ OR w' w.heap.size 3 x.A (intV x.l) ∧ x.l.length ≤ 6 ∧ Below w.heap.size w w'
/-- what holds between two rounds -/
def BoI (bet : Nat → Nat → Int → Int → Bool) (bf : FuncId) (w : World) (pre : List To) (W : World) : Prop := (∃ (g : Bool) (x : To), ((pre.map toKey).foldl (bstepI bet) none = accI g x) ∧ (g = false → x = zeroTo) ∧ ToHas W (w.heap.size + 2) x ∧ Has W (w.heap.size + 3) 4 #[.bool g] ∧ OR W w.heap.size 3 x.A (intV x.l) ∧ x.l.length ≤ 6) ∧ Has W w.heap.size 46 #[.func (.func bf) #[] #[]] ∧ Has W (w.heap.size + 1) 40 #[.slice none 0 0, .slice none 0 0, .int .i64 0, .int .i64 0, .int .i64 0] ∧ Below w.heap.size w W
theorem boI_own {bet : Nat → Nat → Int → Int → Bool} {bf : FuncId} {w : World} {B : Nat} (hB : w.heap.size ≤ B) : OwnFrom B (BoI bet bf w) := fun s A A' row hs hg hr => by
  have hc : ∀ q, row = some q → ∃ ob : Obj, A.heap[q]? = some ob ∧ ob.isCells = false := fun q e => (hr q e).2
  obtain ⟨⟨g, x, h1, h2, h3, h4, h5, h6⟩, h7, h8, h9⟩ := hs
  exact ⟨⟨g, x, h1, h2, has_ownT h3 hg hc, has_ownT h4 hg hc, or_ownT h5 hg hc, h6⟩, has_ownT h7 hg hc, has_ownT h8 hg hc, h9.grown hg h9.size (fun q e => Nat.le_trans hB (hr q e).1)⟩
def BoAx (bf : FuncId) (Br Bf : Nat) (D : Nat) (w : World) (x : To) (a' : Act) (W : World) : Prop := ∃ Bx, D ≤ Bx ∧ ToHas W Bx x ∧ toV w.heap.size x W ∧ a' = { tmps := #[.func (.func 30) #[] #[.pointer (some ⟨Br, 0, none⟩), .pointer (some ⟨Bf, 0, none⟩)], .func (.func bf) #[] #[], undef, .pointer (some ⟨w.heap.size, 0, none⟩), .pointer (some ⟨w.heap.size + 1, 0, none⟩), .bool false, .pointer (some ⟨w.heap.size + 2, 0, none⟩), .pointer (some ⟨w.heap.size + 3, 0, none⟩), .pointer (some ⟨Bx, 0, none⟩), .func (.func 30) #[] #[.pointer (some ⟨Br, 0, none⟩), .pointer (some ⟨Bf, 0, none⟩)], .agg #[.slice x.A x.l.length x.cA, .slice x.A2 x.l.length x.c2, .int .i64 x.d.fin, .int .i64 x.d.peak, .int .i64 x.d.wait], undef, undef, undef, undef, undef, undef, undef, undef, undef, undef, undef], defers := [] }
theorem bo_put {bet : Nat → Nat → Int → Int → Bool} {bf : FuncId} {w W' : World} {pre : List To} {x : To} {D : Nat} (hD : w.heap.size + 4 ≤ D) (h : BoI bet bf w pre W') (hx : OR W' w.heap.size 3 x.A (intV x.l) ∧ x.l.length ≤ 6) (hfold : ((pre ++ [x]).map toKey).foldl (bstepI bet) none = some (toKey x)) :
    KeepsFrom D W' ((((((W'.setCell ⟨w.heap.size + 2, 0, none⟩ (.slice x.A x.l.length x.cA)).setCell ⟨w.heap.size + 2, 1, none⟩ (.slice x.A2 x.l.length x.c2)).setCell ⟨w.heap.size + 2, 2, none⟩ (.int .i64 x.d.fin)).setCell ⟨w.heap.size + 2, 3, none⟩ (.int .i64 x.d.peak)).setCell ⟨w.heap.size + 2, 4, none⟩ (.int .i64 x.d.wait)).setCell ⟨w.heap.size + 3, 0, none⟩ (.bool true)) ∧ KpT w.heap.size (D + 2) W' ((((((W'.setCell ⟨w.heap.size + 2, 0, none⟩ (.slice x.A x.l.length x.cA)).setCell ⟨w.heap.size + 2, 1, none⟩ (.slice x.A2 x.l.length x.c2)).setCell ⟨w.heap.size + 2, 2, none⟩ (.int .i64 x.d.fin)).setCell ⟨w.heap.size + 2, 3, none⟩ (.int .i64 x.d.peak)).setCell ⟨w.heap.size + 2, 4, none⟩ (.int .i64 x.d.wait)).setCell ⟨w.heap.size + 3, 0, none⟩ (.bool true)) ∧ BoI bet bf w (pre ++ [x]) ((((((W'.setCell ⟨w.heap.size + 2, 0, none⟩ (.slice x.A x.l.length x.cA)).setCell ⟨w.heap.size + 2, 1, none⟩ (.slice x.A2 x.l.length x.c2)).setCell ⟨w.heap.size + 2, 2, none⟩ (.int .i64 x.d.fin)).setCell ⟨w.heap.size + 2, 3, none⟩ (.int .i64 x.d.peak)).setCell ⟨w.heap.size + 2, 4, none⟩ (.int .i64 x.d.wait)).setCell ⟨w.heap.size + 3, 0, none⟩ (.bool true)) := by
  obtain ⟨⟨g, y, h1, h2, h3, h4, h5, h6⟩, h7, h8, h9⟩ := h
  obtain ⟨Wm, hm⟩ : ∃ Wm, (((((W'.setCell ⟨w.heap.size + 2, 0, none⟩ (.slice x.A x.l.length x.cA)).setCell ⟨w.heap.size + 2, 1, none⟩ (.slice x.A2 x.l.length x.c2)).setCell ⟨w.heap.size + 2, 2, none⟩ (.int .i64 x.d.fin)).setCell ⟨w.heap.size + 2, 3, none⟩ (.int .i64 x.d.peak)).setCell ⟨w.heap.size + 2, 4, none⟩ (.int .i64 x.d.wait)) = Wm := ⟨_, rfl⟩
  have ho1 : Only W' (w.heap.size + 2) Wm := by rw [← hm]; exact only_set5 _ _ _ _ _ _ _
  have kX : Has Wm (w.heap.size + 2) 40 #[.slice x.A x.l.length x.cA, .slice x.A2 x.l.length x.c2, .int .i64 x.d.fin, .int .i64 x.d.peak, .int .i64 x.d.wait] := by rw [← hm]; simpa using has_set (has_set (has_set (has_set (has_set h3 0 (.slice x.A x.l.length x.cA)) 1 (.slice x.A2 x.l.length x.c2)) 2 (.int .i64 x.d.fin)) 3 (.int .i64 x.d.peak)) 4 (.int .i64 x.d.wait)
  rw [hm]
  have kF1 := has_onl h4 ho1 (by omega)
  obtain ⟨W9, h9'⟩ : ∃ W9, Wm.setCell ⟨w.heap.size + 3, 0, none⟩ (.bool true) = W9 := ⟨_, rfl⟩
  have ho2 : Only Wm (w.heap.size + 3) W9 := by rw [← h9']; exact only_set (only_refl _ _) _ _
  have kF : Has W9 (w.heap.size + 3) 4 #[.bool true] := by rw [← h9']; simpa using has_set kF1 0 (.bool true)
  rw [h9']
  have hsz := h9.size
  have hlF := has_lt h4
  have keep : ∀ (q : Nat) (ob : Obj), q ≠ w.heap.size + 2 → q ≠ w.heap.size + 3 → W'.heap[q]? = some ob → W9.heap[q]? = some ob := fun q ob n1 n2 ho => by
    have hl := (Array.getElem?_eq_some_iff.1 ho).1
    exact (ho2.block q (Nat.lt_of_lt_of_le hl ho1.size) (fun e => n2 (by injection e))).trans ((ho1.block q hl (fun e => n1 (by injection e))).trans ho)
  have hlow : Below w.heap.size W' W9 := (only_below ho1 (by omega) (by omega)).trans (only_below ho2 (by have := ho1.size; omega) (by omega))
  have hints : KpI W' W9 := ⟨Nat.le_trans ho1.size ho2.size, fun q cs hq => keep q _ (has_ne hq h3 (by decide)) (has_ne hq h4 (by decide)) hq⟩
  refine ⟨⟨hints.size, fun q ob hq ho _ => keep q ob (by omega) (by omega) ho⟩, ⟨hints, hlow, fun q ob hq ho => keep q ob (by omega) (by omega) ho⟩, ⟨true, x, by rw [hfold]; rfl, (fun hh => by cases hh), has_onl kX ho2 (by omega), kF, or_ki hx.1 hints, hx.2⟩, keep _ _ (by omega) (by omega) h7, keep _ _ (by omega) (by omega) h8, h9.trans hlow⟩
set_option maxRecDepth 100000 in
set_option maxHeartbeats 4000000 in
theorem bestOf_ends (bet : Nat → Nat → Int → Int → Bool) (hbet : Bet 19 bet) (Br Bf least : Nat) (b r : Int) (AL AS : Option Addr) (cL cS : Nat) (R : List Rw) (S : List Sp) (w : World) (hR : RdIn w w.heap.size AL R AS S) (hBr : Br < w.heap.size) (hBf : Bf < w.heap.size)
    (hr : ∀ i v, #[Value.int .i64 b, .int .i64 r, .slice AL R.length cL, .slice AS S.length cS][i]? = some v → w.cell? ⟨Br, i, none⟩ = some v) (hf : w.cell? ⟨Bf, 0, none⟩ = some (.int .i64 (least : Int))) :
    Calls Try.prog 17 #[.func (.func 30) #[] #[.pointer (some ⟨Br, 0, none⟩), .pointer (some ⟨Bf, 0, none⟩)], .func (.func 19) #[] #[]] w (BestOfA bet (if roundB b r (gOf R) S then (ordsT S.length S.length []).filterMap (tourF b r (gOf R) S least) else []) w) := by
  obtain ⟨X, hX⟩ : ∃ X, (if roundB b r (gOf R) S then (ordsT S.length S.length []).filterMap (tourF b r (gOf R) S least) else []) = X := ⟨_, rfl⟩
  rw [hX]
  refine (callsIn_wide (n := 6)).1 ?_
  refine callsIn_of_wp_marks Try.func17 rfl trivial ?_ rfl
  simp only [Try.ntmps17, List.size_toArray, List.length_cons, List.length_nil, Nat.reduceAdd, Nat.reduceSub, Array.replicate_succ, Array.replicate_zero, List.push_toArray, List.append_toArray, List.nil_append, List.cons_append]
  gi_wp2
  generalize hW0 : ((((w.alloc (.cells #[.func (.func 19) #[] #[]] 46)).alloc (.cells #[.slice none 0 0, .slice none 0 0, .int .i64 0, .int .i64 0, .int .i64 0] 40)).alloc (.cells #[.slice none 0 0, .slice none 0 0, .int .i64 0, .int .i64 0, .int .i64 0] 40)).alloc (.cells #[.bool false] 4)) = W0
  have hs0 : W0.heap.size = w.heap.size + 4 := by rw [← hW0]; simp
  have hb0 : Below w.heap.size w W0 := by rw [← hW0]; exact bthen (bthen (bthen (balloc _ _) (balloc _ _)) (balloc _ _)) (balloc _ _)
  have kB : Has W0 w.heap.size 46 #[.func (.func 19) #[] #[]] := by rw [← hW0]; exact has_alloc (has_alloc (has_alloc (has_new _ _ _) _) _) _
  have kR : Has W0 (w.heap.size + 1) 40 #[.slice none 0 0, .slice none 0 0, .int .i64 0, .int .i64 0, .int .i64 0] := by rw [← hW0]; have := has_alloc (has_alloc (has_new (w.alloc (.cells #[.func (.func 19) #[] #[]] 46)) 40 #[.slice none 0 0, .slice none 0 0, .int .i64 0, .int .i64 0, .int .i64 0]) (.cells #[.slice none 0 0, .slice none 0 0, .int .i64 0, .int .i64 0, .int .i64 0] 40)) (.cells #[.bool false] 4); simpa using this
  have kX : Has W0 (w.heap.size + 2) 40 #[.slice none 0 0, .slice none 0 0, .int .i64 0, .int .i64 0, .int .i64 0] := by rw [← hW0]; have := has_alloc (has_new ((w.alloc (.cells #[.func (.func 19) #[] #[]] 46)).alloc (.cells #[.slice none 0 0, .slice none 0 0, .int .i64 0, .int .i64 0, .int .i64 0] 40)) 40 #[.slice none 0 0, .slice none 0 0, .int .i64 0, .int .i64 0, .int .i64 0]) (.cells #[.bool false] 4); simpa using this
  have kF : Has W0 (w.heap.size + 3) 4 #[.bool false] := by rw [← hW0]; have := has_new (((w.alloc (.cells #[.func (.func 19) #[] #[]] 46)).alloc (.cells #[.slice none 0 0, .slice none 0 0, .int .i64 0, .int .i64 0, .int .i64 0] 40)).alloc (.cells #[.slice none 0 0, .slice none 0 0, .int .i64 0, .int .i64 0, .int .i64 0] 40)) 4 #[.bool false]; simpa using this
  clear hW0
  have HI0 := Lib.hid (show BoI bet 19 w [] W0 from ⟨⟨false, zeroTo, rfl, fun _ => rfl, kX, kF, .inl rfl, by simp [zeroTo]⟩, kB, kR, hb0⟩)
  clear kB kR kX kF
  have hD : w.heap.size ≤ W0.heap.size := by omega
  refine range_goes (k := 4) (gf := 30) (lb := #[.pointer (some ⟨Br, 0, none⟩), .pointer (some ⟨Bf, 0, none⟩)]) rfl (enters_of Try.func30 (by kernel_rfl) rfl) (fun _ => rfl)
    (tours_goes 2 w.heap.size Br Bf w.heap.size least b r AL AS cL cS R S w W0 hR hb0 hD hD hBr hBf hr hf)
    (fun h1 h2 => ⟨h1.ints.trans h2.ints, h1.low.trans h2.low, fun q ob hq ho => h2.held q ob hq (h1.held q ob hq ho)⟩)
    (fun W' l' o1 o2 h1 h2 h3 h4 h5 => ⟨⟨by simp, fun g cs hh => (World.putObj_heap_other (fun e => by subst e; have := h3.symm.trans (show W'.heap[g]? = _ from hh); injection this with this; subst this; cases h4)).trans hh⟩, (Below.refl _ W').grown (grownBy_putObj' W' l' o2) (Nat.le_trans hD (Nat.le_trans h1 (Nat.le_of_lt (Array.getElem?_eq_some_iff.1 h3).1))) (fun q e => by cases e; exact Nat.le_trans hD h1), fun q ob hq ho => (World.putObj_heap_other (by omega)).trans ho⟩)
    (I := BoI bet 19 w) (boI_own hD) HI0.out (Ax := BoAx 19 Br Bf W0.heap.size w)
    (fun x a' s A A' row hs hg hr2 => by
      obtain ⟨Bx, h1, h2, h3, h4⟩ := hs
      exact ⟨Bx, h1, has_ownT h2 hg (fun q e => (hr2 q e).2), ⟨or_ownT h3.1 hg (fun q e => (hr2 q e).2), h3.2⟩, h4⟩)
    ?assign ?body ?done
  case assign =>
    intro l' pre x W' K hI hV hK
    simp only [toE]
    have hzz := hI.2.2.2.size
    have hla := has_lt hI.1.choose_spec.choose_spec.2.2.2.1
    gi_wp2
    refine hK _ _ (kf_below (balloc _ _)) ⟨KpI.bel (balloc _ _), (balloc W' _).mono hzz, fun q ob _ ho => ((balloc W' _).block q (Array.getElem?_eq_some_iff.1 ho).1).trans ho⟩ ((boI_own (Nat.le_refl _)).alloc _ hI) ⟨W'.heap.size, ?_, has_new _ _ _, ⟨or_ki hV.1 (KpI.bel (balloc _ _)), hV.2⟩, rfl⟩
    omega
  case body =>
    rintro l' pre x a' W' hl' hI ⟨Bx, hBx, hTx, hV, rfl⟩
    have HII := Lib.hid hI; have HV := Lib.hid hV
    obtain ⟨⟨g, y, h1, h2, h3, h4, h5, h6⟩, h7, h8, h9⟩ := hI
    have x0 := has_cell (show Has W' Bx 40 #[.slice x.A x.l.length x.cA, .slice x.A2 x.l.length x.c2, .int .i64 x.d.fin, .int .i64 x.d.peak, .int .i64 x.d.wait] from hTx) 0 rfl; have x1 := has_cell (show Has W' Bx 40 #[.slice x.A x.l.length x.cA, .slice x.A2 x.l.length x.c2, .int .i64 x.d.fin, .int .i64 x.d.peak, .int .i64 x.d.wait] from hTx) 1 rfl; have x2 := has_cell (show Has W' Bx 40 #[.slice x.A x.l.length x.cA, .slice x.A2 x.l.length x.c2, .int .i64 x.d.fin, .int .i64 x.d.peak, .int .i64 x.d.wait] from hTx) 2 rfl; have x3 := has_cell (show Has W' Bx 40 #[.slice x.A x.l.length x.cA, .slice x.A2 x.l.length x.c2, .int .i64 x.d.fin, .int .i64 x.d.peak, .int .i64 x.d.wait] from hTx) 3 rfl; have x4 := has_cell (show Has W' Bx 40 #[.slice x.A x.l.length x.cA, .slice x.A2 x.l.length x.c2, .int .i64 x.d.fin, .int .i64 x.d.peak, .int .i64 x.d.wait] from hTx) 4 rfl
    have HY3 := Lib.hid h3; have HF4 := Lib.hid h4; have HX := Lib.hid (show Has W' Bx 40 #[.slice x.A x.l.length x.cA, .slice x.A2 x.l.length x.c2, .int .i64 x.d.fin, .int .i64 x.d.peak, .int .i64 x.d.wait] from hTx)
    have b0 := has_cell h7 0 rfl; have f0 := has_cell h4 0 rfl; have ff := has_free h4 0
    have y0 := has_cell HY3.out 0 rfl; have y1 := has_cell HY3.out 1 rfl; have y2 := has_cell HY3.out 2 rfl; have y3 := has_cell HY3.out 3 rfl; have y4 := has_cell HY3.out 4 rfl
    have z0 := has_free HY3.out 0; have z1 := has_free HY3.out 1; have z2 := has_free HY3.out 2; have z3 := has_free HY3.out 3; have z4 := has_free HY3.out 4
    have hlF := has_lt h4; have hlX := has_lt HX.out
    have H1 := Lib.hid h1; have HOY := Lib.hid h5; have HLY := Lib.hid h6
    clear h1 h2 h3 h4 h5 h6 h7 h8 h9 hTx hV
    cases g
    · have HFO := Lib.hid (show ((pre ++ [x]).map toKey).foldl (bstepI bet) none = some (toKey x) by rw [bstepI_snoc, H1.out]; rfl)
      gi_wp2
      refine ⟨fun _ h => (by cases h), ?_⟩
      gi_wp2
      exact bo_put (Nat.le_refl _) HII.out ⟨HV.out.1, HV.out.2⟩ HFO.out
    · obtain ⟨v, hv⟩ : ∃ v, bet x.l.length y.l.length x.d.fin y.d.fin = v := ⟨_, rfl⟩
      have HVV := Lib.hid hv; clear hv
      gi_wp2_with (refine ⟨trivial, ?_⟩; gi_at_call 19; refine (CallsIn.inRound l' (callsIn_wide.2 (hbet W' x.A x.A2 y.A y.A2 x.l.length x.cA x.l.length x.c2 y.l.length y.cA y.l.length y.c2 x.d.fin x.d.peak x.d.wait y.d.fin y.d.peak y.d.wait))).mono ?_)
      rintro e w5 ⟨rfl, hb5⟩
      rw [HVV.out]
      have HI5 := Lib.hid (ab_bel (boI_own (Nat.le_refl _)) HII.out hb5)
      have HB5 := Lib.hid hb5
      have hx5 := has_call HX.out hb5
      have x0' := has_cell hx5 0 rfl; have x1' := has_cell hx5 1 rfl; have x2' := has_cell hx5 2 rfl; have x3' := has_cell hx5 3 rfl; have x4' := has_cell hx5 4 rfl
      have hf5 := has_call HF4.out hb5
      have f0' := has_cell hf5 0 rfl; have ff' := has_free hf5 0
      have hy5 := has_call (show Has W' (w.heap.size + 2) 40 _ from HY3.out) hb5
      have y0' := has_cell hy5 0 rfl; have y1' := has_cell hy5 1 rfl; have y2' := has_cell hy5 2 rfl; have y3' := has_cell hy5 3 rfl; have y4' := has_cell hy5 4 rfl
      have z0' := has_free hy5 0; have z1' := has_free hy5 1; have z2' := has_free hy5 2; have z3' := has_free hy5 3; have z4' := has_free hy5 4
      have hlF' := has_lt hf5
      have HKF := Lib.hid (kf_below (B := w.heap.size + 4) hb5)
      have HKT := Lib.hid (show KpT w.heap.size (w.heap.size + 4 + 2) W' w5 from ⟨KpI.bel hb5, hb5.mono (by omega), fun q ob _ ho => (hb5.block q (Array.getElem?_eq_some_iff.1 ho).1).trans ho⟩)
      have HVO := Lib.hid (or_ki HV.out.1 (KpI.bel hb5))
      clear hb5 hx5 hf5 hy5 b0 f0 ff x0 x1 x2 x3 x4 y0 y1 y2 y3 y4 z0 z1 z2 z3 z4
      cases v
      · have HFO := Lib.hid (show ((pre ++ [x]).map toKey).foldl (bstepI bet) none = accI true y by rw [bstepI_snoc, H1.out]; simp [accI, bstepI, toKey, HVV.out])
        gi_wp2
        obtain ⟨⟨g9, y9, q1, q2, q3, q4, q5, q6⟩, q7, q8, q9⟩ := HI5.out
        exact ⟨HKF.out, HKT.out, ⟨true, y, HFO.out, (fun hh => by cases hh), (has_call (show Has W' (w.heap.size + 2) 40 _ from HY3.out) HB5.out), has_call HF4.out HB5.out, or_ki HOY.out (KpI.bel HB5.out), HLY.out⟩, q7, q8, q9⟩
      · have HFO := Lib.hid (show ((pre ++ [x]).map toKey).foldl (bstepI bet) none = some (toKey x) by rw [bstepI_snoc, H1.out]; simp [accI, bstepI, toKey, HVV.out])
        gi_wp2
        obtain ⟨p1, p2, p3⟩ := bo_put (Nat.le_refl _) HI5.out ⟨HVO.out, HV.out.2⟩ HFO.out
        exact ⟨HKF.out.trans p1, ⟨HKT.out.ints.trans p2.ints, HKT.out.low.trans p2.low, fun q ob hq ho => p2.held q ob hq (HKT.out.held q ob hq ho)⟩, p3⟩
  case done =>
    rintro D' xs W' hD' hS ⟨⟨g, y, h1, h2, h3, h4, h5, h6⟩, h7, h8, h9⟩ hK
    have HS2 := Lib.hid (show xs.map toKey = X from hS.trans hX)
    have y0 := has_cell (show Has W' (w.heap.size + 2) 40 _ from h3) 0 rfl; have y1 := has_cell (show Has W' (w.heap.size + 2) 40 _ from h3) 1 rfl; have y2 := has_cell (show Has W' (w.heap.size + 2) 40 _ from h3) 2 rfl; have y3 := has_cell (show Has W' (w.heap.size + 2) 40 _ from h3) 3 rfl; have y4 := has_cell (show Has W' (w.heap.size + 2) 40 _ from h3) 4 rfl
    have f0 := has_cell h4 0 rfl
    have r0 := has_cell h8 0 rfl; have r1 := has_cell h8 1 rfl; have r2 := has_cell h8 2 rfl; have r3 := has_cell h8 3 rfl; have r4 := has_cell h8 4 rfl
    have z0 := has_free h8 0; have z1 := has_free h8 1; have z2 := has_free h8 2; have z3 := has_free h8 3; have z4 := has_free h8 4
    have hl8 := has_lt h8
    have H1 := Lib.hid h1; have H2 := Lib.hid h2; have H5 := Lib.hid h5; have H8 := Lib.hid h8; have H9 := Lib.hid h9; have H6 := Lib.hid h6; have HKD := Lib.hid hK
    have hmx : Try.prog.follows .mixedOrders = true := by kernel_rfl
    clear h1 h2 h3 h4 h5 h6 h7 h8 h9 hS
    obtain ⟨W5, hW5⟩ : ∃ W5, (((((W'.setCell ⟨w.heap.size + 1, 0, none⟩ (.slice y.A y.l.length y.cA)).setCell ⟨w.heap.size + 1, 1, none⟩ (.slice y.A2 y.l.length y.c2)).setCell ⟨w.heap.size + 1, 2, none⟩ (.int .i64 y.d.fin)).setCell ⟨w.heap.size + 1, 3, none⟩ (.int .i64 y.d.peak)).setCell ⟨w.heap.size + 1, 4, none⟩ (.int .i64 y.d.wait)) = W5 := ⟨_, rfl⟩
    have ho1 : Only W' (w.heap.size + 1) W5 := by rw [← hW5]; exact only_set5 _ _ _ _ _ _ _
    have kX : Has W5 (w.heap.size + 1) 40 #[.slice y.A y.l.length y.cA, .slice y.A2 y.l.length y.c2, .int .i64 y.d.fin, .int .i64 y.d.peak, .int .i64 y.d.wait] := by rw [← hW5]; simpa using has_set (has_set (has_set (has_set (has_set H8.out 0 (.slice y.A y.l.length y.cA)) 1 (.slice y.A2 y.l.length y.c2)) 2 (.int .i64 y.d.fin)) 3 (.int .i64 y.d.peak)) 4 (.int .i64 y.d.wait)
    have hne : D' ≠ w.heap.size + 1 := by omega
    have kD : W5.heap[D']? = some (.deferred (some [])) := (ho1.block D' (Array.getElem?_eq_some_iff.1 HKD.out).1 (fun e => hne (by injection e))).trans HKD.out
    have hOR5 : OR W5 w.heap.size 3 y.A (intV y.l) := or_ki H5.out ⟨ho1.size, fun q cs hq => (ho1.block q (has_lt hq) (fun e => (has_ne hq H8.out (by decide)) (by injection e))).trans hq⟩
    have hB5 : Below w.heap.size w W5 := H9.out.trans (only_below ho1 (by omega) (by omega))
    have hOP : OR (W5.putObj D' (.deferred none)) w.heap.size 3 y.A (intV y.l) := or_ki hOR5 ⟨by simp, fun g cs hh => (World.putObj_heap_other (fun e => by subst e; have := kD.symm.trans (show W5.heap[g]? = _ from hh); injection this with this; cases this)).trans hh⟩
    have hBP : Below w.heap.size w (W5.drew.putObj D' (.deferred none)) := hB5.drew.trans ((Below.refl _ W5.drew).grown (grownBy_putObj' W5.drew D' _) (show w.heap.size ≤ W5.heap.size by have := hB5.size; omega) (fun q e => by cases e; exact Nat.le_trans hD hD'))
    have kP : Has (W5.putObj D' (.deferred none)) (w.heap.size + 1) 40 #[.slice y.A y.l.length y.cA, .slice y.A2 y.l.length y.c2, .int .i64 y.d.fin, .int .i64 y.d.peak, .int .i64 y.d.wait] := (World.putObj_heap_other hne.symm).trans kX
    have HKDZ := Lib.hid kD; have HOP := Lib.hid hOP; have HBP := Lib.hid hBP; have HKP := Lib.hid kP; have HW5 := Lib.hid hW5
    clear hW5 ho1 kX kD hOR5 hB5 hOP hBP kP
    gi_wp2
    refine region_inT (S := fun _ => True) hmx (by kernel_rfl) (fun ⟨_, _, _, _, h, _⟩ => by cases h) ?_
    refine wpAnyH_ready (rs := [0, 1]) (by kernel_rfl) (by simp) ?_
    refine (AllReadyH.cons rfl (fun K hK => ?_) (AllReadyH.cons rfl (fun K hK => ?_) AllReadyH.nil))
    · skip
      go_simp
      refine hK.out _ _ trivial (fun _ => ?_)
      clear hK K
      try simp only [Act.put, List.setIfInBounds_toArray, List.set_cons_zero, List.set_cons_succ]
      refine wpAnyH_ready (rs := [1, 2]) (by kernel_rfl) (by simp) ?_
      refine (AllReadyH.cons rfl (fun K hK => ?_) (AllReadyH.cons rfl (fun K hK => ?_) AllReadyH.nil))
      · skip
        go_simp
        refine hK.out _ _ trivial (fun _ => ?_)
        clear hK K
        try simp only [Act.put, List.setIfInBounds_toArray, List.set_cons_zero, List.set_cons_succ]
        refine wpAnyH_ready (rs := [2]) (by kernel_rfl) (by simp) ?_
        refine (AllReadyH.cons rfl (fun K hK => ?_) AllReadyH.nil)
        go_simp
        refine hK.out _ _ trivial (fun _ => ?_)
        clear hK K
        try simp only [Act.put, List.setIfInBounds_toArray, List.set_cons_zero, List.set_cons_succ]
        refine wpAnyH_ready (rs := [3]) (by kernel_rfl) (by simp) ?_
        refine (AllReadyH.cons rfl (fun K hK => ?_) AllReadyH.nil)
        go_simp
        refine hK.out _ _ trivial (fun _ => ?_)
        clear hK K
        try simp only [Act.put, List.setIfInBounds_toArray, List.set_cons_zero, List.set_cons_succ]
        refine wpAnyH_done (by kernel_rfl) ?_ _
        gi_wp2
        rw [HW5.out]
        refine ⟨by simp, .inl ⟨_, _, rfl, run_takeDeferred (show W5.drew.heap[D']? = _ from HKDZ.out), ?_⟩⟩
        have q0 := has_cell (show Has (W5.drew.putObj D' (.deferred none)) (w.heap.size + 1) 40 _ from HKP.out) 0 rfl; have q1 := has_cell (show Has (W5.drew.putObj D' (.deferred none)) (w.heap.size + 1) 40 _ from HKP.out) 1 rfl; have q2 := has_cell (show Has (W5.drew.putObj D' (.deferred none)) (w.heap.size + 1) 40 _ from HKP.out) 2 rfl; have q3 := has_cell (show Has (W5.drew.putObj D' (.deferred none)) (w.heap.size + 1) 40 _ from HKP.out) 3 rfl; have q4 := has_cell (show Has (W5.drew.putObj D' (.deferred none)) (w.heap.size + 1) 40 _ from HKP.out) 4 rfl
        exact ⟨_, by simp [results, Try.results17, go_sem, q0, q1, q2, q3, q4], g, y, rfl, by rw [← HS2.out]; exact H1.out, H2.out, HOP.out, H6.out, HBP.out⟩
      · skip
        go_simp
        refine hK.out _ _ trivial (fun _ => ?_)
        clear hK K
        try simp only [Act.put, List.setIfInBounds_toArray, List.set_cons_zero, List.set_cons_succ]
        refine wpAnyH_ready (rs := [1]) (by kernel_rfl) (by simp) ?_
        refine (AllReadyH.cons rfl (fun K hK => ?_) AllReadyH.nil)
        go_simp
        refine hK.out _ _ trivial (fun _ => ?_)
        clear hK K
        try simp only [Act.put, List.setIfInBounds_toArray, List.set_cons_zero, List.set_cons_succ]
        refine wpAnyH_ready (rs := [3]) (by kernel_rfl) (by simp) ?_
        refine (AllReadyH.cons rfl (fun K hK => ?_) AllReadyH.nil)
        go_simp
        refine hK.out _ _ trivial (fun _ => ?_)
        clear hK K
        try simp only [Act.put, List.setIfInBounds_toArray, List.set_cons_zero, List.set_cons_succ]
        refine wpAnyH_done (by kernel_rfl) ?_ _
        gi_wp2
        rw [HW5.out]
        refine ⟨by simp, .inl ⟨_, _, rfl, run_takeDeferred (show W5.drew.heap[D']? = _ from HKDZ.out), ?_⟩⟩
        have q0 := has_cell (show Has (W5.drew.putObj D' (.deferred none)) (w.heap.size + 1) 40 _ from HKP.out) 0 rfl; have q1 := has_cell (show Has (W5.drew.putObj D' (.deferred none)) (w.heap.size + 1) 40 _ from HKP.out) 1 rfl; have q2 := has_cell (show Has (W5.drew.putObj D' (.deferred none)) (w.heap.size + 1) 40 _ from HKP.out) 2 rfl; have q3 := has_cell (show Has (W5.drew.putObj D' (.deferred none)) (w.heap.size + 1) 40 _ from HKP.out) 3 rfl; have q4 := has_cell (show Has (W5.drew.putObj D' (.deferred none)) (w.heap.size + 1) 40 _ from HKP.out) 4 rfl
        exact ⟨_, by simp [results, Try.results17, go_sem, q0, q1, q2, q3, q4], g, y, rfl, by rw [← HS2.out]; exact H1.out, H2.out, HOP.out, H6.out, HBP.out⟩
    · skip
      go_simp
      refine hK.out _ _ trivial (fun _ => ?_)
      clear hK K
      try simp only [Act.put, List.setIfInBounds_toArray, List.set_cons_zero, List.set_cons_succ]
      refine wpAnyH_ready (rs := [0]) (by kernel_rfl) (by simp) ?_
      refine (AllReadyH.cons rfl (fun K hK => ?_) AllReadyH.nil)
      go_simp
      refine hK.out _ _ trivial (fun _ => ?_)
      clear hK K
      try simp only [Act.put, List.setIfInBounds_toArray, List.set_cons_zero, List.set_cons_succ]
      refine wpAnyH_ready (rs := [2]) (by kernel_rfl) (by simp) ?_
      refine (AllReadyH.cons rfl (fun K hK => ?_) AllReadyH.nil)
      go_simp
      refine hK.out _ _ trivial (fun _ => ?_)
      clear hK K
      try simp only [Act.put, List.setIfInBounds_toArray, List.set_cons_zero, List.set_cons_succ]
      refine wpAnyH_ready (rs := [3]) (by kernel_rfl) (by simp) ?_
      refine (AllReadyH.cons rfl (fun K hK => ?_) AllReadyH.nil)
      go_simp
      refine hK.out _ _ trivial (fun _ => ?_)
      clear hK K
      try simp only [Act.put, List.setIfInBounds_toArray, List.set_cons_zero, List.set_cons_succ]
      refine wpAnyH_done (by kernel_rfl) ?_ _
      gi_wp2
      rw [HW5.out]
      refine ⟨by simp, .inl ⟨_, _, rfl, run_takeDeferred (show W5.drew.heap[D']? = _ from HKDZ.out), ?_⟩⟩
      have q0 := has_cell (show Has (W5.drew.putObj D' (.deferred none)) (w.heap.size + 1) 40 _ from HKP.out) 0 rfl; have q1 := has_cell (show Has (W5.drew.putObj D' (.deferred none)) (w.heap.size + 1) 40 _ from HKP.out) 1 rfl; have q2 := has_cell (show Has (W5.drew.putObj D' (.deferred none)) (w.heap.size + 1) 40 _ from HKP.out) 2 rfl; have q3 := has_cell (show Has (W5.drew.putObj D' (.deferred none)) (w.heap.size + 1) 40 _ from HKP.out) 3 rfl; have q4 := has_cell (show Has (W5.drew.putObj D' (.deferred none)) (w.heap.size + 1) 40 _ from HKP.out) 4 rfl
      exact ⟨_, by simp [results, Try.results17, go_sem, q0, q1, q2, q3, q4], g, y, rfl, by rw [← HS2.out]; exact H1.out, H2.out, HOP.out, H6.out, HBP.out⟩

set_option maxRecDepth 100000 in
set_option maxHeartbeats 4000000 in
theorem bestOf_more (bet : Nat → Nat → Int → Int → Bool) (hbet : Bet 21 bet) (Br Bf least : Nat) (b r : Int) (AL AS : Option Addr) (cL cS : Nat) (R : List Rw) (S : List Sp) (w : World) (hR : RdIn w w.heap.size AL R AS S) (hBr : Br < w.heap.size) (hBf : Bf < w.heap.size)
    (hr : ∀ i v, #[Value.int .i64 b, .int .i64 r, .slice AL R.length cL, .slice AS S.length cS][i]? = some v → w.cell? ⟨Br, i, none⟩ = some v) (hf : w.cell? ⟨Bf, 0, none⟩ = some (.int .i64 (least : Int))) :
    Calls Try.prog 17 #[.func (.func 30) #[] #[.pointer (some ⟨Br, 0, none⟩), .pointer (some ⟨Bf, 0, none⟩)], .func (.func 21) #[] #[]] w (BestOfA bet (if roundB b r (gOf R) S then (ordsT S.length S.length []).filterMap (tourF b r (gOf R) S least) else []) w) := by
  obtain ⟨X, hX⟩ : ∃ X, (if roundB b r (gOf R) S then (ordsT S.length S.length []).filterMap (tourF b r (gOf R) S least) else []) = X := ⟨_, rfl⟩
  rw [hX]
  refine (callsIn_wide (n := 6)).1 ?_
  refine callsIn_of_wp_marks Try.func17 rfl trivial ?_ rfl
  simp only [Try.ntmps17, List.size_toArray, List.length_cons, List.length_nil, Nat.reduceAdd, Nat.reduceSub, Array.replicate_succ, Array.replicate_zero, List.push_toArray, List.append_toArray, List.nil_append, List.cons_append]
  gi_wp2
  generalize hW0 : ((((w.alloc (.cells #[.func (.func 21) #[] #[]] 46)).alloc (.cells #[.slice none 0 0, .slice none 0 0, .int .i64 0, .int .i64 0, .int .i64 0] 40)).alloc (.cells #[.slice none 0 0, .slice none 0 0, .int .i64 0, .int .i64 0, .int .i64 0] 40)).alloc (.cells #[.bool false] 4)) = W0
  have hs0 : W0.heap.size = w.heap.size + 4 := by rw [← hW0]; simp
  have hb0 : Below w.heap.size w W0 := by rw [← hW0]; exact bthen (bthen (bthen (balloc _ _) (balloc _ _)) (balloc _ _)) (balloc _ _)
  have kB : Has W0 w.heap.size 46 #[.func (.func 21) #[] #[]] := by rw [← hW0]; exact has_alloc (has_alloc (has_alloc (has_new _ _ _) _) _) _
  have kR : Has W0 (w.heap.size + 1) 40 #[.slice none 0 0, .slice none 0 0, .int .i64 0, .int .i64 0, .int .i64 0] := by rw [← hW0]; have := has_alloc (has_alloc (has_new (w.alloc (.cells #[.func (.func 21) #[] #[]] 46)) 40 #[.slice none 0 0, .slice none 0 0, .int .i64 0, .int .i64 0, .int .i64 0]) (.cells #[.slice none 0 0, .slice none 0 0, .int .i64 0, .int .i64 0, .int .i64 0] 40)) (.cells #[.bool false] 4); simpa using this
  have kX : Has W0 (w.heap.size + 2) 40 #[.slice none 0 0, .slice none 0 0, .int .i64 0, .int .i64 0, .int .i64 0] := by rw [← hW0]; have := has_alloc (has_new ((w.alloc (.cells #[.func (.func 21) #[] #[]] 46)).alloc (.cells #[.slice none 0 0, .slice none 0 0, .int .i64 0, .int .i64 0, .int .i64 0] 40)) 40 #[.slice none 0 0, .slice none 0 0, .int .i64 0, .int .i64 0, .int .i64 0]) (.cells #[.bool false] 4); simpa using this
  have kF : Has W0 (w.heap.size + 3) 4 #[.bool false] := by rw [← hW0]; have := has_new (((w.alloc (.cells #[.func (.func 21) #[] #[]] 46)).alloc (.cells #[.slice none 0 0, .slice none 0 0, .int .i64 0, .int .i64 0, .int .i64 0] 40)).alloc (.cells #[.slice none 0 0, .slice none 0 0, .int .i64 0, .int .i64 0, .int .i64 0] 40)) 4 #[.bool false]; simpa using this
  clear hW0
  have HI0 := Lib.hid (show BoI bet 21 w [] W0 from ⟨⟨false, zeroTo, rfl, fun _ => rfl, kX, kF, .inl rfl, by simp [zeroTo]⟩, kB, kR, hb0⟩)
  clear kB kR kX kF
  have hD : w.heap.size ≤ W0.heap.size := by omega
  refine range_goes (k := 4) (gf := 30) (lb := #[.pointer (some ⟨Br, 0, none⟩), .pointer (some ⟨Bf, 0, none⟩)]) rfl (enters_of Try.func30 (by kernel_rfl) rfl) (fun _ => rfl)
    (tours_goes 2 w.heap.size Br Bf w.heap.size least b r AL AS cL cS R S w W0 hR hb0 hD hD hBr hBf hr hf)
    (fun h1 h2 => ⟨h1.ints.trans h2.ints, h1.low.trans h2.low, fun q ob hq ho => h2.held q ob hq (h1.held q ob hq ho)⟩)
    (fun W' l' o1 o2 h1 h2 h3 h4 h5 => ⟨⟨by simp, fun g cs hh => (World.putObj_heap_other (fun e => by subst e; have := h3.symm.trans (show W'.heap[g]? = _ from hh); injection this with this; subst this; cases h4)).trans hh⟩, (Below.refl _ W').grown (grownBy_putObj' W' l' o2) (Nat.le_trans hD (Nat.le_trans h1 (Nat.le_of_lt (Array.getElem?_eq_some_iff.1 h3).1))) (fun q e => by cases e; exact Nat.le_trans hD h1), fun q ob hq ho => (World.putObj_heap_other (by omega)).trans ho⟩)
    (I := BoI bet 21 w) (boI_own hD) HI0.out (Ax := BoAx 21 Br Bf W0.heap.size w)
    (fun x a' s A A' row hs hg hr2 => by
      obtain ⟨Bx, h1, h2, h3, h4⟩ := hs
      exact ⟨Bx, h1, has_ownT h2 hg (fun q e => (hr2 q e).2), ⟨or_ownT h3.1 hg (fun q e => (hr2 q e).2), h3.2⟩, h4⟩)
    ?assign ?body ?done
  case assign =>
    intro l' pre x W' K hI hV hK
    simp only [toE]
    have hzz := hI.2.2.2.size
    have hla := has_lt hI.1.choose_spec.choose_spec.2.2.2.1
    gi_wp2
    refine hK _ _ (kf_below (balloc _ _)) ⟨KpI.bel (balloc _ _), (balloc W' _).mono hzz, fun q ob _ ho => ((balloc W' _).block q (Array.getElem?_eq_some_iff.1 ho).1).trans ho⟩ ((boI_own (Nat.le_refl _)).alloc _ hI) ⟨W'.heap.size, ?_, has_new _ _ _, ⟨or_ki hV.1 (KpI.bel (balloc _ _)), hV.2⟩, rfl⟩
    omega
  case body =>
    rintro l' pre x a' W' hl' hI ⟨Bx, hBx, hTx, hV, rfl⟩
    have HII := Lib.hid hI; have HV := Lib.hid hV
    obtain ⟨⟨g, y, h1, h2, h3, h4, h5, h6⟩, h7, h8, h9⟩ := hI
    have x0 := has_cell (show Has W' Bx 40 #[.slice x.A x.l.length x.cA, .slice x.A2 x.l.length x.c2, .int .i64 x.d.fin, .int .i64 x.d.peak, .int .i64 x.d.wait] from hTx) 0 rfl; have x1 := has_cell (show Has W' Bx 40 #[.slice x.A x.l.length x.cA, .slice x.A2 x.l.length x.c2, .int .i64 x.d.fin, .int .i64 x.d.peak, .int .i64 x.d.wait] from hTx) 1 rfl; have x2 := has_cell (show Has W' Bx 40 #[.slice x.A x.l.length x.cA, .slice x.A2 x.l.length x.c2, .int .i64 x.d.fin, .int .i64 x.d.peak, .int .i64 x.d.wait] from hTx) 2 rfl; have x3 := has_cell (show Has W' Bx 40 #[.slice x.A x.l.length x.cA, .slice x.A2 x.l.length x.c2, .int .i64 x.d.fin, .int .i64 x.d.peak, .int .i64 x.d.wait] from hTx) 3 rfl; have x4 := has_cell (show Has W' Bx 40 #[.slice x.A x.l.length x.cA, .slice x.A2 x.l.length x.c2, .int .i64 x.d.fin, .int .i64 x.d.peak, .int .i64 x.d.wait] from hTx) 4 rfl
    have HY3 := Lib.hid h3; have HF4 := Lib.hid h4; have HX := Lib.hid (show Has W' Bx 40 #[.slice x.A x.l.length x.cA, .slice x.A2 x.l.length x.c2, .int .i64 x.d.fin, .int .i64 x.d.peak, .int .i64 x.d.wait] from hTx)
    have b0 := has_cell h7 0 rfl; have f0 := has_cell h4 0 rfl; have ff := has_free h4 0
    have y0 := has_cell HY3.out 0 rfl; have y1 := has_cell HY3.out 1 rfl; have y2 := has_cell HY3.out 2 rfl; have y3 := has_cell HY3.out 3 rfl; have y4 := has_cell HY3.out 4 rfl
    have z0 := has_free HY3.out 0; have z1 := has_free HY3.out 1; have z2 := has_free HY3.out 2; have z3 := has_free HY3.out 3; have z4 := has_free HY3.out 4
    have hlF := has_lt h4; have hlX := has_lt HX.out
    have H1 := Lib.hid h1; have HOY := Lib.hid h5; have HLY := Lib.hid h6
    clear h1 h2 h3 h4 h5 h6 h7 h8 h9 hTx hV
    cases g
    · have HFO := Lib.hid (show ((pre ++ [x]).map toKey).foldl (bstepI bet) none = some (toKey x) by rw [bstepI_snoc, H1.out]; rfl)
      gi_wp2
      refine ⟨fun _ h => (by cases h), ?_⟩
      gi_wp2
      exact bo_put (Nat.le_refl _) HII.out ⟨HV.out.1, HV.out.2⟩ HFO.out
    · obtain ⟨v, hv⟩ : ∃ v, bet x.l.length y.l.length x.d.fin y.d.fin = v := ⟨_, rfl⟩
      have HVV := Lib.hid hv; clear hv
      gi_wp2_with (refine ⟨trivial, ?_⟩; gi_at_call 21; refine (CallsIn.inRound l' (callsIn_wide.2 (hbet W' x.A x.A2 y.A y.A2 x.l.length x.cA x.l.length x.c2 y.l.length y.cA y.l.length y.c2 x.d.fin x.d.peak x.d.wait y.d.fin y.d.peak y.d.wait))).mono ?_)
      rintro e w5 ⟨rfl, hb5⟩
      rw [HVV.out]
      have HI5 := Lib.hid (ab_bel (boI_own (Nat.le_refl _)) HII.out hb5)
      have HB5 := Lib.hid hb5
      have hx5 := has_call HX.out hb5
      have x0' := has_cell hx5 0 rfl; have x1' := has_cell hx5 1 rfl; have x2' := has_cell hx5 2 rfl; have x3' := has_cell hx5 3 rfl; have x4' := has_cell hx5 4 rfl
      have hf5 := has_call HF4.out hb5
      have f0' := has_cell hf5 0 rfl; have ff' := has_free hf5 0
      have hy5 := has_call (show Has W' (w.heap.size + 2) 40 _ from HY3.out) hb5
      have y0' := has_cell hy5 0 rfl; have y1' := has_cell hy5 1 rfl; have y2' := has_cell hy5 2 rfl; have y3' := has_cell hy5 3 rfl; have y4' := has_cell hy5 4 rfl
      have z0' := has_free hy5 0; have z1' := has_free hy5 1; have z2' := has_free hy5 2; have z3' := has_free hy5 3; have z4' := has_free hy5 4
      have hlF' := has_lt hf5
      have HKF := Lib.hid (kf_below (B := w.heap.size + 4) hb5)
      have HKT := Lib.hid (show KpT w.heap.size (w.heap.size + 4 + 2) W' w5 from ⟨KpI.bel hb5, hb5.mono (by omega), fun q ob _ ho => (hb5.block q (Array.getElem?_eq_some_iff.1 ho).1).trans ho⟩)
      have HVO := Lib.hid (or_ki HV.out.1 (KpI.bel hb5))
      clear hb5 hx5 hf5 hy5 b0 f0 ff x0 x1 x2 x3 x4 y0 y1 y2 y3 y4 z0 z1 z2 z3 z4
      cases v
      · have HFO := Lib.hid (show ((pre ++ [x]).map toKey).foldl (bstepI bet) none = accI true y by rw [bstepI_snoc, H1.out]; simp [accI, bstepI, toKey, HVV.out])
        gi_wp2
        obtain ⟨⟨g9, y9, q1, q2, q3, q4, q5, q6⟩, q7, q8, q9⟩ := HI5.out
        exact ⟨HKF.out, HKT.out, ⟨true, y, HFO.out, (fun hh => by cases hh), (has_call (show Has W' (w.heap.size + 2) 40 _ from HY3.out) HB5.out), has_call HF4.out HB5.out, or_ki HOY.out (KpI.bel HB5.out), HLY.out⟩, q7, q8, q9⟩
      · have HFO := Lib.hid (show ((pre ++ [x]).map toKey).foldl (bstepI bet) none = some (toKey x) by rw [bstepI_snoc, H1.out]; simp [accI, bstepI, toKey, HVV.out])
        gi_wp2
        obtain ⟨p1, p2, p3⟩ := bo_put (Nat.le_refl _) HI5.out ⟨HVO.out, HV.out.2⟩ HFO.out
        exact ⟨HKF.out.trans p1, ⟨HKT.out.ints.trans p2.ints, HKT.out.low.trans p2.low, fun q ob hq ho => p2.held q ob hq (HKT.out.held q ob hq ho)⟩, p3⟩
  case done =>
    rintro D' xs W' hD' hS ⟨⟨g, y, h1, h2, h3, h4, h5, h6⟩, h7, h8, h9⟩ hK
    have HS2 := Lib.hid (show xs.map toKey = X from hS.trans hX)
    have y0 := has_cell (show Has W' (w.heap.size + 2) 40 _ from h3) 0 rfl; have y1 := has_cell (show Has W' (w.heap.size + 2) 40 _ from h3) 1 rfl; have y2 := has_cell (show Has W' (w.heap.size + 2) 40 _ from h3) 2 rfl; have y3 := has_cell (show Has W' (w.heap.size + 2) 40 _ from h3) 3 rfl; have y4 := has_cell (show Has W' (w.heap.size + 2) 40 _ from h3) 4 rfl
    have f0 := has_cell h4 0 rfl
    have r0 := has_cell h8 0 rfl; have r1 := has_cell h8 1 rfl; have r2 := has_cell h8 2 rfl; have r3 := has_cell h8 3 rfl; have r4 := has_cell h8 4 rfl
    have z0 := has_free h8 0; have z1 := has_free h8 1; have z2 := has_free h8 2; have z3 := has_free h8 3; have z4 := has_free h8 4
    have hl8 := has_lt h8
    have H1 := Lib.hid h1; have H2 := Lib.hid h2; have H5 := Lib.hid h5; have H8 := Lib.hid h8; have H9 := Lib.hid h9; have H6 := Lib.hid h6; have HKD := Lib.hid hK
    have hmx : Try.prog.follows .mixedOrders = true := by kernel_rfl
    clear h1 h2 h3 h4 h5 h6 h7 h8 h9 hS
    obtain ⟨W5, hW5⟩ : ∃ W5, (((((W'.setCell ⟨w.heap.size + 1, 0, none⟩ (.slice y.A y.l.length y.cA)).setCell ⟨w.heap.size + 1, 1, none⟩ (.slice y.A2 y.l.length y.c2)).setCell ⟨w.heap.size + 1, 2, none⟩ (.int .i64 y.d.fin)).setCell ⟨w.heap.size + 1, 3, none⟩ (.int .i64 y.d.peak)).setCell ⟨w.heap.size + 1, 4, none⟩ (.int .i64 y.d.wait)) = W5 := ⟨_, rfl⟩
    have ho1 : Only W' (w.heap.size + 1) W5 := by rw [← hW5]; exact only_set5 _ _ _ _ _ _ _
    have kX : Has W5 (w.heap.size + 1) 40 #[.slice y.A y.l.length y.cA, .slice y.A2 y.l.length y.c2, .int .i64 y.d.fin, .int .i64 y.d.peak, .int .i64 y.d.wait] := by rw [← hW5]; simpa using has_set (has_set (has_set (has_set (has_set H8.out 0 (.slice y.A y.l.length y.cA)) 1 (.slice y.A2 y.l.length y.c2)) 2 (.int .i64 y.d.fin)) 3 (.int .i64 y.d.peak)) 4 (.int .i64 y.d.wait)
    have hne : D' ≠ w.heap.size + 1 := by omega
    have kD : W5.heap[D']? = some (.deferred (some [])) := (ho1.block D' (Array.getElem?_eq_some_iff.1 HKD.out).1 (fun e => hne (by injection e))).trans HKD.out
    have hOR5 : OR W5 w.heap.size 3 y.A (intV y.l) := or_ki H5.out ⟨ho1.size, fun q cs hq => (ho1.block q (has_lt hq) (fun e => (has_ne hq H8.out (by decide)) (by injection e))).trans hq⟩
    have hB5 : Below w.heap.size w W5 := H9.out.trans (only_below ho1 (by omega) (by omega))
    have hOP : OR (W5.putObj D' (.deferred none)) w.heap.size 3 y.A (intV y.l) := or_ki hOR5 ⟨by simp, fun g cs hh => (World.putObj_heap_other (fun e => by subst e; have := kD.symm.trans (show W5.heap[g]? = _ from hh); injection this with this; cases this)).trans hh⟩
    have hBP : Below w.heap.size w (W5.drew.putObj D' (.deferred none)) := hB5.drew.trans ((Below.refl _ W5.drew).grown (grownBy_putObj' W5.drew D' _) (show w.heap.size ≤ W5.heap.size by have := hB5.size; omega) (fun q e => by cases e; exact Nat.le_trans hD hD'))
    have kP : Has (W5.putObj D' (.deferred none)) (w.heap.size + 1) 40 #[.slice y.A y.l.length y.cA, .slice y.A2 y.l.length y.c2, .int .i64 y.d.fin, .int .i64 y.d.peak, .int .i64 y.d.wait] := (World.putObj_heap_other hne.symm).trans kX
    have HKDZ := Lib.hid kD; have HOP := Lib.hid hOP; have HBP := Lib.hid hBP; have HKP := Lib.hid kP; have HW5 := Lib.hid hW5
    clear hW5 ho1 kX kD hOR5 hB5 hOP hBP kP
    gi_wp2
    refine region_inT (S := fun _ => True) hmx (by kernel_rfl) (fun ⟨_, _, _, _, h, _⟩ => by cases h) ?_
    refine wpAnyH_ready (rs := [0, 1]) (by kernel_rfl) (by simp) ?_
    refine (AllReadyH.cons rfl (fun K hK => ?_) (AllReadyH.cons rfl (fun K hK => ?_) AllReadyH.nil))
    · skip
      go_simp
      refine hK.out _ _ trivial (fun _ => ?_)
      clear hK K
      try simp only [Act.put, List.setIfInBounds_toArray, List.set_cons_zero, List.set_cons_succ]
      refine wpAnyH_ready (rs := [1, 2]) (by kernel_rfl) (by simp) ?_
      refine (AllReadyH.cons rfl (fun K hK => ?_) (AllReadyH.cons rfl (fun K hK => ?_) AllReadyH.nil))
      · skip
        go_simp
        refine hK.out _ _ trivial (fun _ => ?_)
        clear hK K
        try simp only [Act.put, List.setIfInBounds_toArray, List.set_cons_zero, List.set_cons_succ]
        refine wpAnyH_ready (rs := [2]) (by kernel_rfl) (by simp) ?_
        refine (AllReadyH.cons rfl (fun K hK => ?_) AllReadyH.nil)
        go_simp
        refine hK.out _ _ trivial (fun _ => ?_)
        clear hK K
        try simp only [Act.put, List.setIfInBounds_toArray, List.set_cons_zero, List.set_cons_succ]
        refine wpAnyH_ready (rs := [3]) (by kernel_rfl) (by simp) ?_
        refine (AllReadyH.cons rfl (fun K hK => ?_) AllReadyH.nil)
        go_simp
        refine hK.out _ _ trivial (fun _ => ?_)
        clear hK K
        try simp only [Act.put, List.setIfInBounds_toArray, List.set_cons_zero, List.set_cons_succ]
        refine wpAnyH_done (by kernel_rfl) ?_ _
        gi_wp2
        rw [HW5.out]
        refine ⟨by simp, .inl ⟨_, _, rfl, run_takeDeferred (show W5.drew.heap[D']? = _ from HKDZ.out), ?_⟩⟩
        have q0 := has_cell (show Has (W5.drew.putObj D' (.deferred none)) (w.heap.size + 1) 40 _ from HKP.out) 0 rfl; have q1 := has_cell (show Has (W5.drew.putObj D' (.deferred none)) (w.heap.size + 1) 40 _ from HKP.out) 1 rfl; have q2 := has_cell (show Has (W5.drew.putObj D' (.deferred none)) (w.heap.size + 1) 40 _ from HKP.out) 2 rfl; have q3 := has_cell (show Has (W5.drew.putObj D' (.deferred none)) (w.heap.size + 1) 40 _ from HKP.out) 3 rfl; have q4 := has_cell (show Has (W5.drew.putObj D' (.deferred none)) (w.heap.size + 1) 40 _ from HKP.out) 4 rfl
        exact ⟨_, by simp [results, Try.results17, go_sem, q0, q1, q2, q3, q4], g, y, rfl, by rw [← HS2.out]; exact H1.out, H2.out, HOP.out, H6.out, HBP.out⟩
      · skip
        go_simp
        refine hK.out _ _ trivial (fun _ => ?_)
        clear hK K
        try simp only [Act.put, List.setIfInBounds_toArray, List.set_cons_zero, List.set_cons_succ]
        refine wpAnyH_ready (rs := [1]) (by kernel_rfl) (by simp) ?_
        refine (AllReadyH.cons rfl (fun K hK => ?_) AllReadyH.nil)
        go_simp
        refine hK.out _ _ trivial (fun _ => ?_)
        clear hK K
        try simp only [Act.put, List.setIfInBounds_toArray, List.set_cons_zero, List.set_cons_succ]
        refine wpAnyH_ready (rs := [3]) (by kernel_rfl) (by simp) ?_
        refine (AllReadyH.cons rfl (fun K hK => ?_) AllReadyH.nil)
        go_simp
        refine hK.out _ _ trivial (fun _ => ?_)
        clear hK K
        try simp only [Act.put, List.setIfInBounds_toArray, List.set_cons_zero, List.set_cons_succ]
        refine wpAnyH_done (by kernel_rfl) ?_ _
        gi_wp2
        rw [HW5.out]
        refine ⟨by simp, .inl ⟨_, _, rfl, run_takeDeferred (show W5.drew.heap[D']? = _ from HKDZ.out), ?_⟩⟩
        have q0 := has_cell (show Has (W5.drew.putObj D' (.deferred none)) (w.heap.size + 1) 40 _ from HKP.out) 0 rfl; have q1 := has_cell (show Has (W5.drew.putObj D' (.deferred none)) (w.heap.size + 1) 40 _ from HKP.out) 1 rfl; have q2 := has_cell (show Has (W5.drew.putObj D' (.deferred none)) (w.heap.size + 1) 40 _ from HKP.out) 2 rfl; have q3 := has_cell (show Has (W5.drew.putObj D' (.deferred none)) (w.heap.size + 1) 40 _ from HKP.out) 3 rfl; have q4 := has_cell (show Has (W5.drew.putObj D' (.deferred none)) (w.heap.size + 1) 40 _ from HKP.out) 4 rfl
        exact ⟨_, by simp [results, Try.results17, go_sem, q0, q1, q2, q3, q4], g, y, rfl, by rw [← HS2.out]; exact H1.out, H2.out, HOP.out, H6.out, HBP.out⟩
    · skip
      go_simp
      refine hK.out _ _ trivial (fun _ => ?_)
      clear hK K
      try simp only [Act.put, List.setIfInBounds_toArray, List.set_cons_zero, List.set_cons_succ]
      refine wpAnyH_ready (rs := [0]) (by kernel_rfl) (by simp) ?_
      refine (AllReadyH.cons rfl (fun K hK => ?_) AllReadyH.nil)
      go_simp
      refine hK.out _ _ trivial (fun _ => ?_)
      clear hK K
      try simp only [Act.put, List.setIfInBounds_toArray, List.set_cons_zero, List.set_cons_succ]
      refine wpAnyH_ready (rs := [2]) (by kernel_rfl) (by simp) ?_
      refine (AllReadyH.cons rfl (fun K hK => ?_) AllReadyH.nil)
      go_simp
      refine hK.out _ _ trivial (fun _ => ?_)
      clear hK K
      try simp only [Act.put, List.setIfInBounds_toArray, List.set_cons_zero, List.set_cons_succ]
      refine wpAnyH_ready (rs := [3]) (by kernel_rfl) (by simp) ?_
      refine (AllReadyH.cons rfl (fun K hK => ?_) AllReadyH.nil)
      go_simp
      refine hK.out _ _ trivial (fun _ => ?_)
      clear hK K
      try simp only [Act.put, List.setIfInBounds_toArray, List.set_cons_zero, List.set_cons_succ]
      refine wpAnyH_done (by kernel_rfl) ?_ _
      gi_wp2
      rw [HW5.out]
      refine ⟨by simp, .inl ⟨_, _, rfl, run_takeDeferred (show W5.drew.heap[D']? = _ from HKDZ.out), ?_⟩⟩
      have q0 := has_cell (show Has (W5.drew.putObj D' (.deferred none)) (w.heap.size + 1) 40 _ from HKP.out) 0 rfl; have q1 := has_cell (show Has (W5.drew.putObj D' (.deferred none)) (w.heap.size + 1) 40 _ from HKP.out) 1 rfl; have q2 := has_cell (show Has (W5.drew.putObj D' (.deferred none)) (w.heap.size + 1) 40 _ from HKP.out) 2 rfl; have q3 := has_cell (show Has (W5.drew.putObj D' (.deferred none)) (w.heap.size + 1) 40 _ from HKP.out) 3 rfl; have q4 := has_cell (show Has (W5.drew.putObj D' (.deferred none)) (w.heap.size + 1) 40 _ from HKP.out) 4 rfl
      exact ⟨_, by simp [results, Try.results17, go_sem, q0, q1, q2, q3, q4], g, y, rfl, by rw [← HS2.out]; exact H1.out, H2.out, HOP.out, H6.out, HBP.out⟩

end Go.Proofs.Ytfimdhbcifjioaa
