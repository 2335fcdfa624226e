/- Chapter 7: the possible tours of a round, handed to the yield (gen_txa.py). -/
import Derived.Test.YtfimdhbcifjioaaTwY
import Derived.Deep.RegionHeld3
import Derived.Deep.DeepMust
import Derived.WalkLawsBesides
import Derived.RangeFuncNested
import Derived.RangeFuncBound
import Derived.RangeFuncCalls
import Derived.RangeFuncLeaves
import Derived.Shelf.Abstract
import Derived.Shelf.RegionOpen
import Derived.OwnWalkIn
import Derived.TacticsInMore
import Derived.LoopNIn
import Derived.LoopIn
namespace Go.Proofs.Ytfimdhbcifjioaa
open Go.RowKit
set_option linter.unusedVariables false

open Go.Shelf
attribute [local go_sem] Oper.semAt_some
/-- a possible tour, as it is handed over -/
structure To where
  A : Option Addr
  cA : Nat
  l : List Int
  A2 : Option Addr
  c2 : Nat
  d : Dv
def toE (x : To) : Array Value := #[.agg #[.slice x.A x.l.length x.cA, .slice x.A2 x.l.length x.c2, .int .i64 x.d.fin, .int .i64 x.d.peak, .int .i64 x.d.wait]]
def toV (lo : Nat) (x : To) (W : World) : Prop := OR W lo 3 x.A (intV x.l) ∧ x.l.length ≤ 6
def toKey (x : To) : List Int × Int := (x.l, x.d.fin)
def tourF (b r : Int) (G : List (List Int)) (S : List Sp) (least : Nat) (l : List Int) : Option (List Int × Int) := if l.length < least then none else (driveT b r G S l).map fun d => (l, d.fin)
/-- what a round that goes on keeps -/
structure KpT (B0 B : Nat) (W W' : World) : Prop where
  ints : KpI W W'
  low : Below B0 W W'
  held : ∀ (q : Nat) (ob : Obj), B ≤ q → W.heap[q]? = some ob → W'.heap[q]? = some ob
theorem kf_below {B : Nat} {W W' : World} (h : Below W.heap.size W W') : KeepsFrom B W W' := ⟨h.size, fun q ob _ hq _ => (h.block q (Array.getElem?_eq_some_iff.1 hq).1).trans hq⟩
theorem has_ownT {w w' : World} {g : Nat} {t : TypeId} {cs : Array Value} {row : Option Nat} (h : Has w g t cs) (hg : w.grownBy w' row) (hr : ∀ r, row = some r → ∃ o : Obj, w.heap[r]? = some o ∧ o.isCells = false) : Has w' g t cs :=
  has_grown h hg (fun e => by
    obtain ⟨o, ho, hc⟩ := hr g e.symm
    have := (show w.heap[g]? = _ from h).symm.trans ho
    injection this with this; subst this
    cases hc)
theorem or_ownT {w w' : World} {lo : Nat} {e : TypeId} {A : Option Addr} {xs : List Value} {row : Option Nat} (h : OR w lo e A xs) (hg : w.grownBy w' row) (hr : ∀ r, row = some r → ∃ o : Obj, w.heap[r]? = some o ∧ o.isCells = false) : OR w' lo e A xs := by
  rcases h with h | ⟨b, cur, rfl, hb, hh, hc⟩
  · exact .inl h
  · exact .inr ⟨b, cur, rfl, hb, has_ownT hh hg hr, hc⟩
theorem spL_moreT {w : World} {B B' : Nat} {A : Option Addr} {S : List Sp} (h : spL w B A S) (hB : B ≤ B') : spL w B' A S := by
  rcases h with h | ⟨b, off, h1, h2, h3⟩
  · exact .inl h
  · exact .inr ⟨b, off, h1, by omega, h3⟩
theorem rdIn_moreT {w : World} {B B' : Nat} {AL AS : Option Addr} {R : List Rw} {S : List Sp} (h : RdIn w B AL R AS S) (hB : B ≤ B') : RdIn w B' AL R AS S :=
  ⟨h.rows.more hB, fun x hx => ⟨(h.vals x hx).1.more hB, (h.vals x hx).2⟩, spL_moreT h.stops hB, h.lr, h.ls⟩
theorem round_any {m : Nat} {P : Program} {l : Nat} {f : FuncId} {tmps : Array Value} {assign body : Code} {w : World} {R : Ending → World → Prop} (l' m' : Nat) (h : RoundIn Fence.wide m P l f tmps assign body w R) : RoundIn (Fence.wide.inRound l') m' P l f tmps assign body w R := ⟨h.1, fun c cs _ => h.2 c cs (room_wide _)⟩
theorem orders_in (n : Nat) (x : Int) (w : World) :
    CallsIn Fence.wide n Try.prog 31 #[.int .i64 x] w fun e w' => e = .returned (.func (.func 40) #[] #[.pointer (some ⟨w.heap.size, 0, none⟩)]) ∧ w' = w.alloc (.cells #[.int .i64 x] 3) := by
  refine callsIn_of_wp Try.func31 rfl trivial ?_ rfl
  simp only [Try.ntmps31, List.size_toArray, List.length_cons, List.length_nil, Nat.reduceAdd, Nat.reduceSub, Array.replicate_succ, Array.replicate_zero, List.push_toArray, List.append_toArray, List.nil_append, List.cons_append]
  gi_wp2
  go_ret
  exact ⟨rfl, rfl⟩
set_option maxRecDepth 100000 in
set_option maxHeartbeats 4000000 in
theorem tours_goes (k B0 Br Bf lo least : Nat) (b r : Int) (AL AS : Option Addr) (cL cS : Nat) (R : List Rw) (S : List Sp) (w0 w : World) (hR : RdIn w0 B0 AL R AS S) (hb0 : Below B0 w0 w) (hB0 : B0 ≤ w.heap.size) (hlo : lo ≤ w.heap.size) (hBr : Br < B0) (hBf : Bf < B0)
    (hr : ∀ i v, #[Value.int .i64 b, .int .i64 r, .slice AL R.length cL, .slice AS S.length cS][i]? = some v → w0.cell? ⟨Br, i, none⟩ = some v) (hf : w0.cell? ⟨Bf, 0, none⟩ = some (.int .i64 (least : Int))) :
    Goes (k + 2) Try.prog 30 #[.pointer (some ⟨Br, 0, none⟩), .pointer (some ⟨Bf, 0, none⟩)] toE (toV lo) (KpT B0) (fun xs => xs.map toKey = if roundB b r (gOf R) S then (ordsT S.length S.length []).filterMap (tourF b r (gOf R) S least) else []) w := by
  intro l J W hW hJA hY hJ
  have zw := hb0.trans (hW.mono hB0)
  have HIN := Lib.hid (hR.below zw); have HF := Lib.hid ((zw.cell (p := ⟨Bf, 0, none⟩) hBf).trans hf)
  have HC0 := Lib.hid ((zw.cell (p := ⟨Br, 0, none⟩) hBr).trans (hr 0 _ rfl)); have HC1 := Lib.hid ((zw.cell (p := ⟨Br, 1, none⟩) hBr).trans (hr 1 _ rfl)); have HC2 := Lib.hid ((zw.cell (p := ⟨Br, 2, none⟩) hBr).trans (hr 2 _ rfl)); have HC3 := Lib.hid ((zw.cell (p := ⟨Br, 3, none⟩) hBr).trans (hr 3 _ rfl))
  have hBW : B0 ≤ W.heap.size := Nat.le_trans hB0 hW.size
  have hloW : lo ≤ W.heap.size := Nat.le_trans hlo hW.size
  have HY := Lib.hid hY; have HJA := Lib.hid hJA; have HJ := Lib.hid hJ
  clear hY hJA hJ hr hf hR hb0 zw hW hlo
  have hBrW : Br < W.heap.size := by omega
  have hBfW : Bf < W.heap.size := by omega
  refine callsIn_of_wp_marks Try.func30 rfl trivial ?_ rfl
  simp only [Try.ntmps30, List.size_toArray, List.length_cons, List.length_nil, Nat.reduceAdd, Nat.reduceSub, Array.replicate_succ, Array.replicate_zero, List.push_toArray, List.append_toArray, List.nil_append, List.cons_append]
  obtain ⟨W1, hW1⟩ : ∃ W1, W.alloc (.cells #[.func (.yield l) #[] #[]] 59) = W1 := ⟨_, rfl⟩
  have hbA : Below W.heap.size W W1 := by rw [← hW1]; exact balloc _ _
  have hkY : Has W1 W.heap.size 59 #[.func (.yield l) #[] #[]] := by rw [← hW1]; exact has_new _ _ _
  have hbA0 := hbA.mono hBW
  have c0 := (hbA0.cell (p := ⟨Br, 0, none⟩) hBr).trans HC0.out; have c1 := (hbA0.cell (p := ⟨Br, 1, none⟩) hBr).trans HC1.out; have c2 := (hbA0.cell (p := ⟨Br, 2, none⟩) hBr).trans HC2.out; have c3 := (hbA0.cell (p := ⟨Br, 3, none⟩) hBr).trans HC3.out
  have hs1 := hbA.size
  have HJ1 := Lib.hid (ab_bel HJA.out HJ.out hbA); have HKY := Lib.hid hkY; have HBA := Lib.hid hbA; have HBA0 := Lib.hid hbA0
  clear hkY hbA hbA0
  have HRO := Lib.hid (fun (X : World) (h : Below B0 W X) (hx : W.heap.size ≤ X.heap.size) => roundI_any X B0 b r AL AS cL cS R S (by omega) (HIN.out.below h))
  cases hv : roundB b r (gOf R) S
  · have HV := Lib.hid hv; clear hv
    gi_wp2_with (refine ⟨trivial, ?_⟩; gi_at_call 11; refine (callsIn_wide.2 (HRO.out W1 HBA0.out hs1)).mono ?_)
    rintro e w2 ⟨rfl, hb2⟩
    rw [HV.out]
    have HJ2 := Lib.hid (ab_bel HJA.out HJ1.out hb2)
    clear hb2
    gi_wp2
    exact ⟨_, results_none rfl _ _ _, ⟨_, rfl⟩, HJ2.out⟩
  · have HV := Lib.hid hv; clear hv
    have hTT := (roundB_iff _ _ _ _).1 HV.out
    have HT := Lib.hid hTT; have h6 := hTT.six; clear hTT
    gi_wp2_with (refine ⟨trivial, ?_⟩; gi_at_call 11; refine (callsIn_wide.2 (HRO.out W1 HBA0.out hs1)).mono ?_)
    rintro e w2 ⟨rfl, hb2⟩
    rw [HV.out]
    have HJ2 := Lib.hid (ab_bel HJA.out HJ1.out hb2)
    have HKY2 := Lib.hid (has_call HKY.out hb2)
    have hbB := HBA0.out.trans (hb2.mono (by omega))
    have hs2 := hb2.size
    have d3 := (hbB.cell (p := ⟨Br, 3, none⟩) hBr).trans HC3.out
    have HBB := Lib.hid hbB
    clear hb2 hbB c0 c1 c2 c3 hW1
    gi_wp2_with (refine ⟨trivial, ?_⟩; gi_at_call 31; refine (orders_in _ _ _).mono ?_)
    rintro e w3 ⟨rfl, rfl⟩
    have hJ3 := ab_bel HJA.out HJ2.out (balloc w2 (.cells #[.int .i64 (S.length : Int)] 3))
    have hKY3 := has_alloc HKY2.out (.cells #[.int .i64 (S.length : Int)] 3)
    have hcn : (w2.alloc (.cells #[.int .i64 (S.length : Int)] 3)).cell? ⟨w2.heap.size, 0, none⟩ = some (.int .i64 (S.length : Int)) := has_cell (has_new w2 3 #[.int .i64 (S.length : Int)]) 0 rfl
    have hbC := HBB.out.trans ((balloc w2 (.cells #[.int .i64 (S.length : Int)] 3)).mono (by omega : B0 ≤ w2.heap.size))
    obtain ⟨w3, hw3⟩ : ∃ w3, w2.alloc (.cells #[.int .i64 (S.length : Int)] 3) = w3 := ⟨_, rfl⟩
    have hs3 : w3.heap.size = w2.heap.size + 1 := by rw [← hw3]; simp
    rw [hw3] at hJ3 hKY3 hcn hbC ⊢
    obtain ⟨Bn, hBn⟩ : ∃ q, w2.heap.size = q := ⟨_, rfl⟩
    rw [hBn] at hcn ⊢
    have hBn3 : Bn < w3.heap.size := by omega
    have hW3 : W.heap.size ≤ w3.heap.size := by omega
    have HJ3 := Lib.hid hJ3; have HKY3 := Lib.hid hKY3; have HBC := Lib.hid hbC; have HCN := Lib.hid hcn
    clear hJ3 hKY3 hcn hbC hw3 hs3 hBn d3
    gi_wp2
    refine range_goes (k := k + 1) (gf := 40) (lb := #[.pointer (some ⟨Bn, 0, none⟩)]) rfl (enters_of Try.func40 (by kernel_rfl) rfl) (fun _ => rfl)
      (orders_goes (k + 1) S.length Bn lo h6 w3 (by omega) hBn3 HCN.out) (fun h1 h2 => h1.trans h2) (fun W' l' o1 o2 h1 h2 h3 h4 h5 => ⟨by simp, fun g cs hh => (World.putObj_heap_other (fun e => by subst e; have := h3.symm.trans (show W'.heap[g]? = _ from hh); injection this with this; subst this; cases h4)).trans hh⟩)
      (I := fun pre W' => (∃ ts : List To, ts.map toKey = (pre.map Rw.l).filterMap (tourF b r (gOf R) S least) ∧ J ts W') ∧ Has W' W.heap.size 59 #[.func (.yield l) #[] #[]] ∧ Below B0 W W')
      (fun s A A' row hs hg hr => ⟨by obtain ⟨⟨ts, h1, h2⟩, _⟩ := hs; exact ⟨ts, h1, HJA.out ts A A' row h2 hg (fun q e => ⟨Nat.le_trans hW3 (hr q e).1, (hr q e).2⟩)⟩, has_ownT hs.2.1 hg (fun q e => (hr q e).2), hs.2.2.grown hg (Nat.le_trans hBW hs.2.2.size) (fun q e => Nat.le_trans (Nat.le_trans hBW hW3) (hr q e).1)⟩)
      ⟨⟨[], rfl, HJ3.out⟩, HKY3.out, HBC.out⟩
      (Ax := fun x a' W' => ordV S.length lo x W' ∧ a' = { tmps := #[.func (.yield l) #[] #[], .pointer (some ⟨Br, 0, none⟩), .pointer (some ⟨Bf, 0, none⟩), .pointer (some ⟨W.heap.size, 0, none⟩), .slice x.A x.l.length x.c, undef, undef, .agg #[.int .i64 b, .int .i64 r, .slice AL R.length cL, .slice AS S.length cS], .bool true, .bool false, .pointer (some ⟨Br, 3, none⟩), .slice AS S.length cS, .int .i64 (S.length : Int), .func (.func 40) #[] #[.pointer (some ⟨Bn, 0, none⟩)], .slice x.A x.l.length x.c, undef, undef, undef, undef, undef, undef, undef, undef, undef, undef, undef, undef, undef, undef, undef, undef, undef], defers := [] })
      (fun x a' s A A' row hs hg hr => ⟨⟨or_ownT hs.1.1 hg (fun q e => (hr q e).2), hs.1.2⟩, hs.2⟩)
      ?assign ?body ?done
    case assign =>
      intro l' pre x W' K hI hV hK
      simp only [ordE]
      gi_wp2
      exact hK _ _ (KeepsFrom.refl _ _) (KpI.refl _) hI ⟨hV, rfl⟩
    case body =>
      rintro l' pre ⟨xA, xc, xl⟩ a' W' hl' ⟨⟨ts, h1, h2⟩, hkY, hbl⟩ ⟨⟨hvo, hvl, hvt⟩, rfl⟩
      dsimp only at hvo hvl hvt ⊢
      have cF := (hbl.cell (p := ⟨Bf, 0, none⟩) hBf).trans HF.out
      have r0 := (hbl.cell (p := ⟨Br, 0, none⟩) hBr).trans HC0.out; have r1 := (hbl.cell (p := ⟨Br, 1, none⟩) hBr).trans HC1.out; have r2 := (hbl.cell (p := ⟨Br, 2, none⟩) hBr).trans HC2.out; have r3 := (hbl.cell (p := ⟨Br, 3, none⟩) hBr).trans HC3.out
      have hsz := hbl.size
      have H1 := Lib.hid h1; have H2 := Lib.hid h2; have HKYb := Lib.hid hkY; have HBL := Lib.hid hbl; have HVO := Lib.hid hvo; have HVT := Lib.hid hvt
      clear h1 h2 hkY hbl hvo hvt
      by_cases hls : (xl.length : Int) < (least : Int)
      · have HTF := Lib.hid (show tourF b r (gOf R) S least xl = none from if_pos (by omega))
        gi_wp2
        exact ⟨KeepsFrom.refl _ _, KpI.refl _, ⟨ts, by rw [H1.out]; simp [List.filterMap_map, HTF.out], H2.out⟩, HKYb.out, HBL.out⟩
      · have HTF := Lib.hid (show tourF b r (gOf R) S least xl = (driveT b r (gOf R) S xl).map fun d => (xl, d.fin) from if_neg (by omega))
        have hq : OrdT S xl := ⟨by omega, h6, ((orderT_iff _ _).1 HVT.out).2⟩
        have HQ := Lib.hid hq; clear hq
        gi_wp2_with (refine ⟨trivial, ?_⟩; gi_at_call 32; refine (CallsIn.inRound l' (callsIn_wide.2 (driveI_any W' W'.heap.size b r AL AS cL cS R S xA xc xl (Nat.le_refl _) (rdIn_moreT (HIN.out.below HBL.out) (by omega)) (by unfold maxLen; omega) HVO.out.il HT.out HQ.out))).mono ?_)
        rintro e w4 ⟨⟨hdn, rfl⟩ | ⟨d, A2, c2, hds, hbl2, hor2, rfl⟩, hb4⟩
        · have HTN := Lib.hid (show tourF b r (gOf R) S least xl = none by rw [HTF.out, hdn]; rfl)
          have HB5 := Lib.hid (bthen hb4 (balloc w4 (.cells #[.slice none 0 0, .slice none 0 0, .int .i64 0, .int .i64 0, .int .i64 0] 40)))
          clear hdn hb4
          gi_wp2
          refine ⟨fun _ h => (by cases h), ?_⟩
          gi_wp2
          exact ⟨kf_below HB5.out, KpI.bel HB5.out, ⟨ts, by rw [H1.out]; simp [List.filterMap_map, HTN.out], ab_bel HJA.out H2.out HB5.out⟩, has_call HKYb.out HB5.out, HBL.out.trans (HB5.out.mono (by omega))⟩
        · have HTN := Lib.hid (show tourF b r (gOf R) S least xl = some (xl, d.fin) by rw [HTF.out, hds]; rfl)
          obtain ⟨w5, hw5⟩ : ∃ w5, w4.alloc (.cells #[.slice xA xl.length xc, .slice A2 xl.length c2, .int .i64 d.fin, .int .i64 d.peak, .int .i64 d.wait] 40) = w5 := ⟨_, rfl⟩
          have hb5 : Below W'.heap.size W' w5 := by rw [← hw5]; exact bthen hb4 (balloc _ _)
          have hk5 : Has w5 w4.heap.size 40 #[.slice xA xl.length xc, .slice A2 xl.length c2, .int .i64 d.fin, .int .i64 d.peak, .int .i64 d.wait] := by rw [← hw5]; exact has_new _ _ _
          have t0 := has_cell hk5 0 rfl; have t1 := has_cell hk5 1 rfl; have t2 := has_cell hk5 2 rfl; have t3 := has_cell hk5 3 rfl; have t4 := has_cell hk5 4 rfl
          have hyb := has_call HKYb.out hb5
          have y0 := has_cell hyb 0 rfl
          have HYB := Lib.hid hyb; have HB5 := Lib.hid hb5
          have hJ5 := ab_bel HJA.out H2.out hb5
          obtain ⟨fn, tmps, assign, body, hy, hR⟩ := HY.out ts ⟨xA, xc, xl, A2, c2, d⟩ w5 hJ5 ⟨or_ki HVO.out (KpI.bel hb5), by dsimp only; omega⟩
          dsimp only [toE] at hy
          clear hds hb4 hb5 hyb hk5 hJ5 hor2 hbl2
          gi_wp2
          refine (round_any l' k hR).mono ?_
          rintro e w6 ⟨rfl, hJ6, hk6⟩
          have HJ6 := Lib.hid hJ6; have HK6 := Lib.hid hk6; clear hJ6 hk6
          gi_wp2
          exact ⟨(kf_below HB5.out).trans ⟨HK6.out.ints.size, fun q ob hq ho _ => HK6.out.held q ob (by omega) ho⟩, (KpI.bel HB5.out).trans HK6.out.ints, ⟨ts ++ [⟨xA, xc, xl, A2, c2, d⟩], by rw [List.map_append, H1.out]; simp [List.filterMap_map, HTN.out, toKey], HJ6.out⟩, HK6.out.held _ _ (Nat.le_refl _) HYB.out, (HBL.out.trans (HB5.out.mono (by omega))).trans HK6.out.low⟩
    case done =>
      rintro D xs W' hD hS ⟨⟨ts, h1, h2⟩, _, _⟩ hK
      have h3 : ts.map toKey = (ordsT S.length S.length []).filterMap (tourF b r (gOf R) S least) := by rw [h1, hS]
      gi_wp2
      refine ⟨by simp, .inl ⟨_, _, rfl, run_takeDeferred hK, ?_⟩⟩
      have h4 := HJA.out.putObj (.deferred none) h2 (by omega : W.heap.size ≤ D) hK rfl
      exact ⟨_, results_none rfl _ _ _, ⟨_, rfl⟩, ts, h3, h4⟩
end Go.Proofs.Ytfimdhbcifjioaa
