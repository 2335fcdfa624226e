/- Chapter 7: contracts of RoundOk and OrderOk of the program (gen_toub.py). -/
import Derived.Test.YtfimdhbcifjioaaTouA
import Derived.Deep.RegionHeld3
import Derived.Deep.DeepMust
import Derived.WalkLawsBesides
namespace Go.Proofs.Ytfimdhbcifjioaa
open Go.RowKit
set_option linter.unusedVariables false

theorem round_no {b r : Int} {G : List (List Int)} {S : List Sp} (h : ¬ RoundT b r G S) : roundB b r G S = false := by
  rw [Bool.eq_false_iff]; intro hq; exact h ((roundB_iff _ _ _ _).1 hq)
theorem legsT_one (w : World) (B : Nat) (A : Option Addr) (c : Nat) (R : List Rw) (n : Nat) (hn : n ≤ 100000000) (hl : R.length ≤ maxLen) (hB : B ≤ w.heap.size) (hS : rwL w B A R) (hV : ∀ x ∈ R, RV w B x) :
    Calls Try.prog 25 #[.slice A R.length c, .int .i64 ((n : Int) + 1)] w fun e w' => e = .returned (.bool (legsB (n + 1) (gOf R))) ∧ Below w.heap.size w w' := by
  have h := legsT_any w B A c R (n + 1) (by omega) hl hB hS hV
  rwa [show ((n + 1 : Nat) : Int) = (n : Int) + 1 by omega] at h
set_option maxRecDepth 100000 in
set_option maxHeartbeats 4000000 in
theorem roundI_any (w : World) (B : Nat) (b r : Int) (AL AS : Option Addr) (cL cS : Nat) (R : List Rw) (S : List Sp) (hB : B ≤ w.heap.size) (hR : RdIn w B AL R AS S) :
    Calls Try.prog 11 #[.agg #[.int .i64 b, .int .i64 r, .slice AL R.length cL, .slice AS S.length cS]] w fun e w' => e = .returned (.bool (roundB b r (gOf R) S)) ∧ Below w.heap.size w w' := by
  have HR := Lib.hid hR; clear hR
  have hls := HR.out.ls; unfold maxLen at hls
  cases h1 : inT b 0 20000
  · have H1 := Lib.hid h1; clear h1
    have HV := Lib.hid (show roundB b r (gOf R) S = false from round_no fun h => by have := H1.out; rw [(inT_iff _ _ _).2 ⟨h.b0, h.b1⟩] at this; cases this)
    go_enter Try.func11, Try.ntmps11
    go_wp2_with (first | (go_at_call 22; refine (timT_any _ _).mono ?_; rintro e w1 ⟨rfl, hw⟩; rw [hw]; clear hw; rw [H1.out]))
    go_ret
    exact ⟨ret_bool HV.out.symm, balloc _ _⟩
  have H1 := Lib.hid h1; clear h1
  cases h2 : inT r 0 1000
  · have H2 := Lib.hid h2; clear h2
    have HV := Lib.hid (show roundB b r (gOf R) S = false from round_no fun h => by have := H2.out; rw [(inT_iff _ _ _).2 ⟨h.r0, h.r1⟩] at this; cases this)
    go_enter Try.func11, Try.ntmps11
    go_wp2_with (first | (go_at_call 22; refine (timT_any _ _).mono ?_; rintro e w1 ⟨rfl, hw⟩; rw [hw]; clear hw; rw [H1.out]) | (go_at_call 23; refine (lodT_any _ _).mono ?_; rintro e w1 ⟨rfl, hw⟩; rw [hw]; clear hw; rw [H2.out]))
    go_ret
    exact ⟨ret_bool HV.out.symm, balloc _ _⟩
  have H2 := Lib.hid h2; clear h2
  by_cases h6 : (6 : Int) < S.length
  · skip
    have HV := Lib.hid (show roundB b r (gOf R) S = false from round_no fun h => by have := h.six; omega)
    go_enter Try.func11, Try.ntmps11
    go_wp2_with (first | (go_at_call 22; refine (timT_any _ _).mono ?_; rintro e w1 ⟨rfl, hw⟩; rw [hw]; clear hw; rw [H1.out]) | (go_at_call 23; refine (lodT_any _ _).mono ?_; rintro e w1 ⟨rfl, hw⟩; rw [hw]; clear hw; rw [H2.out]))
    go_ret
    exact ⟨ret_bool HV.out.symm, balloc _ _⟩
  go_enter Try.func11, Try.ntmps11
  go_wp2_with (first | (go_at_call 22; refine (timT_any _ _).mono ?_; rintro e w1 ⟨rfl, hw⟩; rw [hw]; clear hw; rw [H1.out]) | (go_at_call 23; refine (lodT_any _ _).mono ?_; rintro e w1 ⟨rfl, hw⟩; rw [hw]; clear hw; rw [H2.out]))
  go_loopw [24] (fun i wr => ∃ k : Nat, k ≤ S.length ∧ i = .int .i64 k ∧ (∀ j s, j < k → S[j]? = some s → stopB s = true) ∧ Has wr w.heap.size 27 #[.int .i64 b, .int .i64 r, .slice AL R.length cL, .slice AS S.length cS] ∧ Below w.heap.size w wr) (fun i _ => S.length - (intOf i).toNat)
  case atStart => exact ⟨0, Nat.zero_le _, rfl, (fun j y hj => absurd hj (by omega)), has_new _ _ _, balloc _ _⟩
  case round =>
    obtain ⟨k, hk, rfl, hok, hH, hb⟩ := hrel
    have HOK := Lib.hid hok; clear hok
    have hsz := hb.size
    by_cases hlt : k < S.length
    · obtain ⟨bb, off, ⟨x0, x1, x2, x3, x4⟩, rfl, hbB, hx, hc0, hc1, hc2, hc3, hc4⟩ := (HR.out.stops.later hB hb).at_ hlt
      dsimp only at hc0 hc1 hc2 hc3 hc4
      have Hx := Lib.hid hx; clear hx
      have HH := Lib.hid hH; clear hH
      cases hq : stopB ⟨x0, x1, x2, x3, x4⟩
      · have HQ := Lib.hid hq; clear hq
        have HV := Lib.hid (show roundB b r (gOf R) S = false from round_no fun h => by have := h.stops _ (List.mem_of_getElem? Hx.out); rw [HQ.out] at this; cases this)
        go_wp2_with (go_at_call 24; refine (stopT_any _ x0 x1 x2 x3 x4).mono ?_; rintro e w1 ⟨rfl, hb1⟩; rw [HQ.out])
        go_ret
        exact ⟨ret_bool HV.out.symm, bthen hb (bthen (balloc _ _) hb1)⟩
      · have HQ := Lib.hid hq; clear hq
        go_wp2_with (go_at_call 24; refine (stopT_any _ x0 x1 x2 x3 x4).mono ?_; rintro e w1 ⟨rfl, hb1⟩; rw [HQ.out])
        go_roundw
        case rel => exact ⟨k + 1, by omega, by go_num, (fun j y hj hy => by
          by_cases e : j = k
          · subst e; rw [Hx.out] at hy; injection hy with hy; subst hy; exact HQ.out
          · exact HOK.out j y (by omega) hy), has_call (has_alloc HH.out _) hb1, bthen hb (bthen (balloc _ _) hb1)⟩
        case measure => simp [intOf]; omega
    · have hc2 := has_cell hH 2 rfl; have hc3 := has_cell hH 3 rfl
      have hR2 := HR.out.later hB hb
      have HR2 := Lib.hid hR2; clear hR2
      have hkl : k = S.length := by omega
      go_wp2_with fail
      refine (legsT_one _ B AL cL R S.length (by omega) HR2.out.lr (by omega) HR2.out.rows HR2.out.vals).mono ?_
      rintro e w1 ⟨rfl, hb1⟩
      clear hc2 hc3
      go_wp2_with fail
      go_ret
      refine ⟨ret_bool ?_, bthen hb hb1⟩
      subst hkl
      have h9 : S.all stopB = true := List.all_eq_true.2 fun s hs => by
        obtain ⟨j, hj, rfl⟩ := List.getElem_of_mem hs
        exact HOK.out j _ hj (List.getElem?_eq_getElem hj)
      rw [roundB, H1.out, H2.out, h9]
      have h8 : S.length ≤ 6 := by omega
      simp [h8]
/-- the places that were seen -/
structure Seen (w : World) (g : Nat) (T : TypeId) (cs : Array Value) (l : List Int) : Prop where
  heap : Has w g T cs
  size : cs.size = 6
  got : ∀ p : Nat, p < 6 → cs[p]? = some (.bool (l.contains (p : Int)))
theorem Seen.call {w w' : World} {g : Nat} {T : TypeId} {cs : Array Value} {l : List Int} (h : Seen w g T cs l) (hb : Below w.heap.size w w') : Seen w' g T cs l := ⟨has_call h.heap hb, h.size, h.got⟩
theorem Seen.put {w : World} {g : Nat} {T : TypeId} {cs : Array Value} {l : List Int} (h : Seen w g T cs l) {p : Nat} (hp : p < 6) :
    Seen (w.setCell ⟨g, p, none⟩ (.bool true)) g T (cs.setIfInBounds p (.bool true)) (l ++ [(p : Int)]) := by
  refine ⟨has_set h.heap _ _, by simp [h.size], fun q hq => ?_⟩
  rw [Array.getElem?_setIfInBounds]
  by_cases e : p = q
  · subst e; rw [if_pos rfl, if_pos (by rw [h.size]; exact hp)]; simp
  · rw [if_neg e, h.got q hq]
    have : ((q : Int) == (p : Int)) = false := by simp; omega
    have e2 : (l ++ [(p : Int)]).contains (q : Int) = l.contains (q : Int) := by
      rw [List.contains_eq_any_beq, List.any_append, ← List.contains_eq_any_beq]
      simp; intro h; omega
    rw [e2]
theorem nodup_snoc {l : List Int} {x : Int} (h : l.Nodup) (hx : l.contains x = false) : (l ++ [x]).Nodup := by
  rw [List.nodup_append]
  refine ⟨h, by simp, fun a ha b hb => ?_⟩
  simp at hb; subst hb
  intro e; subst e
  rw [List.contains_iff_mem.2 ha] at hx; cases hx
theorem take_snoc {α : Type} {l : List α} {k : Nat} {x : α} (h : l[k]? = some x) : l.take (k + 1) = l.take k ++ [x] := by rw [List.take_add_one, h]; rfl
theorem order_no {n : Nat} {o : List Int} (h : ¬ (o.Nodup ∧ ∀ x ∈ o, 0 ≤ x ∧ x < n)) : orderT n o = false := by
  rw [Bool.eq_false_iff]; intro hq; exact h ((orderT_iff _ _).1 hq)
theorem order_twice {n : Nat} {o : List Int} {k : Nat} {x : Int} (hx : o[k]? = some x) (hs : (o.take k).contains x = true) : orderT n o = false := order_no fun h => by
  have h1 : (o.take (k + 1)).Nodup := h.1.sublist (List.take_sublist _ _)
  rw [take_snoc hx, List.nodup_append] at h1
  exact h1.2.2 x (List.contains_iff_mem.1 hs) x (by simp) rfl

set_option maxRecDepth 100000 in
set_option maxHeartbeats 4000000 in
theorem orderI_any (w : World) (B : Nat) (b r : Int) (AL AS : Option Addr) (cL cS : Nat) (R : List Rw) (S : List Sp) (AO : Option Addr) (cO : Nat) (O : List Int) (hB : B ≤ w.heap.size) (hR : RdIn w B AL R AS S) (lO : O.length ≤ maxLen) (hO : IL w B AO O) :
    Calls Try.prog 38 #[.agg #[.int .i64 b, .int .i64 r, .slice AL R.length cL, .slice AS S.length cS], .slice AO O.length cO] w fun e w' => e = .returned (.bool (orderB b r (gOf R) S O)) ∧ Below w.heap.size w w' := by
  have HR := Lib.hid hR; have HO := Lib.hid hO; clear hR hO
  have hlo := lO; unfold maxLen at hlo
  have hls := HR.out.ls; unfold maxLen at hls
  have HLO := Lib.hid lO; clear lO
  have hra : ∀ W : World, Below w.heap.size w W → Calls Try.prog 11 #[.agg #[.int .i64 b, .int .i64 r, .slice AL R.length cL, .slice AS S.length cS]] W fun e w' => e = .returned (.bool (roundB b r (gOf R) S)) ∧ Below W.heap.size W w' := fun W hb => roundI_any W B b r AL AS cL cS R S (by have := hb.size; omega) (HR.out.later hB hb)
  have HRA := Lib.hid hra; clear hra
  cases h1 : roundB b r (gOf R) S
  · have H1 := Lib.hid h1; clear h1
    go_enter Try.func38, Try.ntmps38
    go_wp2_with fail
    refine (HRA.out _ (balloc _ _)).mono ?_
    rintro e w1 ⟨rfl, hb1⟩
    rw [H1.out]
    go_wp2_with fail
    go_ret
    exact ⟨ret_bool (by rw [orderB, H1.out, Bool.false_and]), bthen (balloc _ _) hb1⟩
  have H1 := Lib.hid h1; clear h1
  have hval : orderB b r (gOf R) S O = orderT S.length O := by rw [orderB, H1.out, Bool.true_and]
  have HVAL := Lib.hid hval; clear hval
  have h6 := ((roundB_iff _ _ _ _).1 H1.out).six
  go_enter Try.func38, Try.ntmps38
  go_wp2_with fail
  refine (HRA.out _ (balloc _ _)).mono ?_
  rintro e w1 ⟨rfl, hb1⟩
  rw [H1.out]
  have hk1 := has_call (has_new w 27 #[.int .i64 b, .int .i64 r, .slice AL R.length cL, .slice AS S.length cS]) hb1
  have hbb := bthen (balloc w _) hb1
  clear hb1
  have HK := Lib.hid hk1; clear hk1
  go_wp2_with fail
  go_loopw [13] (fun i wr => ∃ (k : Nat) (cs : Array Value), k ≤ O.length ∧ i = .int .i64 k ∧ (O.take k).Nodup ∧ (∀ x ∈ O.take k, 0 ≤ x ∧ x < S.length) ∧ Seen wr w1.heap.size 76 cs (O.take k) ∧ Has wr w.heap.size 27 #[.int .i64 b, .int .i64 r, .slice AL R.length cL, .slice AS S.length cS] ∧ Below w.heap.size w wr) (fun i _ => O.length - (intOf i).toNat)
  case atStart => exact ⟨0, _, Nat.zero_le _, rfl, by simp, by simp, ⟨has_new _ _ _, rfl, fun p hp => by
    rcases p with _ | _ | _ | _ | _ | _ | p
    all_goals first | rfl | omega⟩, has_alloc HK.out _, bthen hbb (balloc _ _)⟩
  case round =>
    obtain ⟨k, cs, hk, rfl, hnd, hin, hse, hH, hb⟩ := hrel
    have HND := Lib.hid hnd; have HIN := Lib.hid hin; have HSE := Lib.hid hse; clear hnd hin hse
    have hsz := hb.size
    have hgl : w1.heap.size < wr.heap.size := has_lt HSE.out.heap
    have hsw1 := has_lt HK.out
    by_cases hlt : k < O.length
    · obtain ⟨bb, off, x, rfl, hbB, hx, hc0⟩ := (HO.out.later hB hb).at_ hlt
      have Hx := Lib.hid hx; clear hx
      have hc3 := has_cell hH 3 rfl
      have HH := Lib.hid hH; clear hH
      by_cases hneg : x < 0
      · have HV := Lib.hid (show orderT S.length O = false from order_no fun h => by have := h.2 x (List.mem_of_getElem? Hx.out); omega)
        go_wp2_with fail
        go_ret
        exact ⟨ret_bool (by rw [HVAL.out, HV.out]), hb⟩
      obtain ⟨p, rfl⟩ : ∃ p : Nat, x = (p : Int) := ⟨x.toNat, by omega⟩
      by_cases hbig : (S.length : Int) ≤ (p : Int)
      · have HV := Lib.hid (show orderT S.length O = false from order_no fun h => by have := h.2 _ (List.mem_of_getElem? Hx.out); omega)
        go_wp2_with fail
        go_ret
        exact ⟨ret_bool (by rw [HVAL.out, HV.out]), hb⟩
      have hp6 : p < 6 := by omega
      obtain ⟨sv, hsv⟩ : ∃ sv, (O.take k).contains (p : Int) = sv := ⟨_, rfl⟩
      have hsc := has_cell HSE.out.heap p (HSE.out.got p hp6)
      rw [hsv] at hsc
      have hsf := has_free HSE.out.heap p
      cases sv
      · have HSV := Lib.hid hsv; clear hsv
        go_wp2_with fail
        go_roundw
        case rel => exact ⟨k + 1, _, by omega, by go_num, by rw [take_snoc Hx.out]; exact nodup_snoc HND.out HSV.out, (fun y hy => by
          rw [take_snoc Hx.out] at hy
          rcases List.mem_append.1 hy with hy | hy
          · exact HIN.out y hy
          · simp at hy; subst hy; omega), by rw [take_snoc Hx.out]; exact HSE.out.put hp6, has_far HH.out (by show w.heap.size ≠ w1.heap.size; omega) _, hb.setCell (by show w.heap.size ≤ w1.heap.size; omega) _⟩
        case measure => simp [intOf]; omega
      · have HV := Lib.hid (show orderT S.length O = false from order_twice Hx.out hsv)
        clear hsv
        go_wp2_with fail
        go_ret
        exact ⟨ret_bool (by rw [HVAL.out, HV.out]), hb⟩
    · go_wp2_with fail
      go_ret
      have hkl : k = O.length := by omega
      subst hkl
      refine ⟨ret_bool ?_, hb⟩
      rw [HVAL.out, (orderT_iff _ _).2]
      have h1 := HND.out; have h2 := HIN.out
      rw [List.take_length] at h1 h2
      exact ⟨h1, h2⟩
end Go.Proofs.Ytfimdhbcifjioaa
