/- Chapter 7: BestRide and MostRide of the program (gen_txd.py). -/
import Derived.Test.YtfimdhbcifjioaaTxC
import Derived.Deep.RegionHeld3
import Derived.Deep.DeepMust
import Derived.WalkLawsBesides
import Derived.Test.YtfimdhbcifjioaaTwX
import Derived.Test.YtfimdhbcifjioaaTouI
namespace Go.Proofs.Ytfimdhbcifjioaa
open Go.RowKit
set_option linter.unusedVariables false

def bestVal (b r : Int) (G : List (List Int)) (S : List Sp) (least : Nat) : List Int × Int × Bool := match (if roundB b r G S = true then bestT b r G S least else none) with | none => ([], 0, false) | some q => (q.1, q.2, true)
theorem bestVal_no {b r : Int} {G : List (List Int)} {S : List Sp} {least : Nat} (h : (if roundB b r G S = true then bestT b r G S least else none) = none) : bestVal b r G S least = ([], 0, false) := by unfold bestVal; rw [h]
theorem bestVal_yes {b r : Int} {G : List (List Int)} {S : List Sp} {least : Nat} {q : List Int × Int} (h : (if roundB b r G S = true then bestT b r G S least else none) = some q) : bestVal b r G S least = (q.1, q.2, true) := by unfold bestVal; rw [h]
theorem bestE_v {b r : Int} {G : List (List Int)} {S : List Sp} {least : Nat} {w : World} {e : Ending} {w' : World} (h : BestE b r G S least w e w') : AnsV (bestVal b r G S least) w e w' := by
  obtain ⟨A, c, f, l, g, rfl, h2, h3, h4, h5, h6⟩ := h
  cases g
  · obtain ⟨rfl, rfl⟩ := h2 rfl
    have h7 : (if roundB b r G S = true then bestT b r G S least else none) = none := by
      rcases h3 with ⟨h, _⟩ | ⟨h, h'⟩
      · rw [if_neg (by rw [h]; decide)]
      · rw [if_pos h, h']; rfl
    rw [bestVal_no h7]; exact ⟨A, c, rfl, h4, h6⟩
  · rcases h3 with ⟨_, h⟩ | ⟨h, h'⟩
    · cases h
    · have h7 : (if roundB b r G S = true then bestT b r G S least else none) = some (l, f) := by rw [if_pos h, h']; rfl
      rw [bestVal_yes h7]; exact ⟨A, c, rfl, h4, h6⟩
theorem ords_all {n : Nat} : ∀ (m : Nat) (done : List Int), orderT n done = true → ∀ l ∈ ordsT n m done, orderT n l = true ∧ l.length ≤ done.length + m
  | 0, done, hd, l, hl => by
    simp [ordsT] at hl
    subst hl; exact ⟨hd, by omega⟩
  | m + 1, done, hd, l, hl => by
    simp only [ordsT, List.mem_cons, List.mem_flatMap, List.mem_range] at hl
    rcases hl with rfl | ⟨j, hj, hl⟩
    · exact ⟨hd, by omega⟩
    · by_cases hc : done.contains (j : Int) = true
      · rw [if_pos hc] at hl; cases hl
      · rw [if_neg hc] at hl
        obtain ⟨h1, h2⟩ := (orderT_iff n done).1 hd
        have hn : orderT n (done ++ [(j : Int)]) = true := (orderT_iff n _).2 ⟨by
          rw [List.nodup_append]
          refine ⟨h1, by simp, fun a ha b hb => ?_⟩
          rw [List.mem_singleton] at hb; subst hb
          intro e; subst e
          exact hc (by simpa using ha), fun x hx => by
          rcases List.mem_append.1 hx with hx | hx
          · exact h2 x hx
          · rw [List.mem_singleton] at hx; subst hx; omega⟩
        obtain ⟨h3, h4⟩ := ords_all m _ hn l hl
        exact ⟨h3, by simp at h4; omega⟩
theorem ords_top {n : Nat} {l : List Int} (h : l ∈ ordsT n n []) : orderT n l = true ∧ l.length ≤ n := by
  have := ords_all n [] ((orderT_iff n []).2 ⟨List.nodup_nil, fun x hx => by cases hx⟩) l h
  simpa using this
theorem bstep_ok {b r : Int} {G : List (List Int)} {S : List Sp} {least : Nat} (hr : roundB b r G S = true) {l : List Int} (hl : orderT S.length l = true) (acc : Option (List Int × Int)) :
    bstep b r G S least acc l = match tourF b r G S least l with | none => acc | some y => bstepI moreB acc y := by
  have hq : rideT b r G S l = driveT b r G S l := if_pos (by unfold orderB; rw [hr, hl]; rfl)
  unfold bstep tourF
  rw [hq]
  by_cases h : l.length < least
  · rw [if_pos h, if_pos h]
  · rw [if_neg h, if_neg h]
    cases driveT b r G S l with
    | none => rfl
    | some d =>
      cases acc with
      | none => rfl
      | some z =>
        simp only [Option.map_some, bstepI]
        by_cases hc : z.1.length < l.length ∨ l.length = z.1.length ∧ d.fin < z.2
        · rw [if_pos hc, if_pos (by unfold moreB; simp only [Bool.or_eq_true, Bool.and_eq_true, decide_eq_true_eq]; omega)]
        · rw [if_neg hc, if_neg (by unfold moreB; simp only [Bool.or_eq_true, Bool.and_eq_true, decide_eq_true_eq]; omega)]
theorem fold_more {b r : Int} {G : List (List Int)} {S : List Sp} {least : Nat} (hr : roundB b r G S = true) : ∀ (X : List (List Int)) (acc : Option (List Int × Int)), (∀ l ∈ X, orderT S.length l = true) →
    (X.filterMap (tourF b r G S least)).foldl (bstepI moreB) acc = X.foldl (bstep b r G S least) acc
  | [], acc, _ => rfl
  | l :: X, acc, h => by
    have h1 := bstep_ok (least := least) hr (h l List.mem_cons_self) acc
    have h2 := fun a => fold_more (least := least) hr X a fun x hx => h x (List.mem_cons_of_mem _ hx)
    rw [List.filterMap_cons, List.foldl_cons, h1]
    cases tourF b r G S least l with
    | none => exact h2 acc
    | some y => exact h2 _
def endB (n m : Nat) (f g : Int) : Bool := decide (f < g)
theorem fold_ends {b r : Int} {G : List (List Int)} {S : List Sp} {least : Nat} : ∀ (X : List (List Int)) (acc : Option (List Int × Int)), (∀ l ∈ X, l.length ≤ least) → (∀ q, acc = some q → q.1.length = least) →
    (X.filterMap (tourF b r G S least)).foldl (bstepI endB) acc = (X.filterMap (tourF b r G S least)).foldl (bstepI moreB) acc
  | [], acc, _, _ => rfl
  | l :: X, acc, h, ha => by
    rw [List.filterMap_cons]
    cases ht : tourF b r G S least l with
    | none => exact fold_ends X acc (fun x hx => h x (List.mem_cons_of_mem _ hx)) ha
    | some y =>
      have hy : y.1.length = least := by
        have h1 := h l List.mem_cons_self
        unfold tourF at ht
        by_cases hc : l.length < least
        · rw [if_pos hc] at ht; cases ht
        · rw [if_neg hc] at ht
          cases hd : driveT b r G S l with
          | none => rw [hd] at ht; cases ht
          | some d => rw [hd] at ht; injection ht with ht; subst ht; show l.length = least; omega
      have he : bstepI endB acc y = bstepI moreB acc y := by
        cases acc with
        | none => rfl
        | some z =>
          have hz := ha z rfl
          have hq : moreB y.1.length z.1.length y.2 z.2 = endB y.1.length z.1.length y.2 z.2 := by unfold moreB endB; rw [hy, hz]; simp
          simp only [bstepI]; rw [hq]
      rw [List.foldl_cons, List.foldl_cons, he]
      refine fold_ends X _ (fun x hx => h x (List.mem_cons_of_mem _ hx)) (fun q hq => ?_)
      cases acc with
      | none => simp only [bstepI] at hq; injection hq with hq; subst hq; exact hy
      | some z =>
        simp only [bstepI] at hq
        split at hq <;> (injection hq with hq; subst hq)
        · exact hy
        · exact ha _ rfl
theorem keys_more (b r : Int) (G : List (List Int)) (S : List Sp) : (if roundB b r G S then (ordsT S.length S.length []).filterMap (tourF b r G S 0) else []).foldl (bstepI moreB) none = if roundB b r G S = true then bestT b r G S 0 else none := by
  by_cases h : roundB b r G S = true
  · rw [if_pos h, if_pos h]; exact fold_more h _ _ fun l hl => (ords_top hl).1
  · rw [if_neg h, if_neg h]; rfl
theorem keys_ends (b r : Int) (G : List (List Int)) (S : List Sp) : (if roundB b r G S then (ordsT S.length S.length []).filterMap (tourF b r G S S.length) else []).foldl (bstepI endB) none = if roundB b r G S = true then bestT b r G S S.length else none := by
  by_cases h : roundB b r G S = true
  · rw [if_pos h, if_pos h, fold_ends _ _ (fun l hl => (ords_top hl).2) (fun q hq => by cases hq)]; exact fold_more h _ _ fun l hl => (ords_top hl).1
  · rw [if_neg h, if_neg h]; rfl
theorem bestT_len (b r : Int) (G : List (List Int)) (S : List Sp) (least : Nat) : (bestVal b r G S least).1.length ≤ S.length := by
  have hf : ∀ (X : List (List Int)) (acc : Option (List Int × Int)), (∀ l ∈ X, l.length ≤ S.length) → (∀ q, acc = some q → q.1.length ≤ S.length) → ∀ q, X.foldl (bstep b r G S least) acc = some q → q.1.length ≤ S.length := by
    intro X
    induction X with
    | nil => intro acc _ ha q hq; exact ha q hq
    | cons l X ih =>
      intro acc hX ha q hq
      refine ih _ (fun x hx => hX x (List.mem_cons_of_mem _ hx)) (fun z hz => ?_) q hq
      have h1 := hX l List.mem_cons_self
      unfold bstep at hz
      split at hz
      · exact ha z hz
      · split at hz
        · exact ha z hz
        · split at hz
          · injection hz with hz; subst hz; exact h1
          · split at hz
            · injection hz with hz; subst hz; exact h1
            · exact ha _ hz
  unfold bestVal
  by_cases h : roundB b r G S = true
  · rw [if_pos h]
    cases hb : bestT b r G S least with
    | none => simp
    | some q => exact hf _ none (fun l hl => (ords_top hl).2) (fun q hq => by cases hq) q hb
  · rw [if_neg h]; simp
theorem ends_bet : Bet 19 endB := fun w A A2 B B2 n c n2 c2 m e m2 e2 f p q g s t => ends_any w A A2 B B2 n c n2 c2 m e m2 e2 f p q g s t
theorem more_bet : Bet 21 moreB := fun w A A2 B B2 n c n2 c2 m e m2 e2 f p q g s t => more_any w A A2 B B2 n c n2 c2 m e m2 e2 f p q g s t
theorem fin_ans {b r : Int} {G : List (List Int)} {S : List Sp} {least : Nat} {g : Bool} {x : To} {w W : World} (hf : (if roundB b r G S = true then bestT b r G S least else none) = accI g x) (hz : g = false → x = zeroTo) (hor : OR W w.heap.size 3 x.A (intV x.l)) (hb : Below w.heap.size w W) :
    AnsV (bestVal b r G S least) w (.returned (.tuple #[.slice x.A x.l.length x.cA, .int .i64 x.d.fin, .bool g])) W := by
  cases g
  · obtain rfl := hz rfl
    rw [bestVal_no hf]; exact ⟨_, _, rfl, hor, hb⟩
  · rw [bestVal_yes (q := toKey x) hf]; exact ⟨_, _, rfl, hor, hb⟩
theorem tours_any (w : World) (b r : Int) (AL AS : Option Addr) (cL cS : Nat) (nR nS : Nat) (least : Int) :
    Calls Try.prog 18 #[.agg #[.int .i64 b, .int .i64 r, .slice AL nR cL, .slice AS nS cS], .int .i64 least] w fun e w' => e = .returned (.func (.func 30) #[] #[.pointer (some ⟨w.heap.size, 0, none⟩), .pointer (some ⟨w.heap.size + 1, 0, none⟩)]) ∧ Has w' w.heap.size 27 #[.int .i64 b, .int .i64 r, .slice AL nR cL, .slice AS nS cS] ∧ Has w' (w.heap.size + 1) 3 #[.int .i64 least] ∧ Below w.heap.size w w' := by
  go_enter Try.func18, Try.ntmps18
  go_wp2_with fail
  have h1 := has_alloc (has_new w 27 #[.int .i64 b, .int .i64 r, .slice AL nR cL, .slice AS nS cS]) (.cells #[.int .i64 least] 3)
  have h2 := has_new (w.alloc (.cells #[.int .i64 b, .int .i64 r, .slice AL nR cL, .slice AS nS cS] 27)) 3 #[.int .i64 least]
  have h3 : Below w.heap.size w ((w.alloc (.cells #[.int .i64 b, .int .i64 r, .slice AL nR cL, .slice AS nS cS] 27)).alloc (.cells #[.int .i64 least] 3)) := bthen (balloc _ _) (balloc _ _)
  go_ret
  refine ⟨by simp, h1, by simpa using h2, h3⟩
set_option maxRecDepth 100000 in
set_option maxHeartbeats 4000000 in
theorem bestI_any (w : World) (B : Nat) (b r : Int) (AL AS : Option Addr) (cL cS : Nat) (R : List Rw) (S : List Sp) (hB : B ≤ w.heap.size) (hR : RdIn w B AL R AS S) :
    Calls Try.prog 6 #[.agg #[.int .i64 b, .int .i64 r, .slice AL R.length cL, .slice AS S.length cS]] w (AnsV (bestVal b r (gOf R) S S.length) w) := by
  have HR := Lib.hid (rdIn_moreT hR hB); clear hR
  go_enter Try.func6, Try.ntmps6
  go_upto_region 1 with fail
  generalize hX : (w.alloc (.cells #[.int .i64 b, .int .i64 r, .slice AL R.length cL, .slice AS S.length cS] 27)) = w2
  have hb2 : Below w.heap.size w w2 := by rw [← hX]; exact balloc _ _
  have hk : Has w2 w.heap.size 27 #[.int .i64 b, .int .i64 r, .slice AL R.length cL, .slice AS S.length cS] := by rw [← hX]; exact has_new _ _ _
  clear hX
  have hc0 := has_cell hk 0 rfl; have hc1 := has_cell hk 1 rfl; have hc2 := has_cell hk 2 rfl; have hc3 := has_cell hk 3 rfl
  go_wp2_with fail
  refine (tours_any w2 b r AL AS cL cS R.length S.length (S.length : Int)).mono ?_
  rintro e w3 ⟨rfl, k1, k2, hb3⟩
  have c3 := bthen hb2 hb3
  have K1 := Lib.hid k1; have K2 := Lib.hid k2; have C3 := Lib.hid c3
  have l1 := has_lt k1; have l2 := has_lt k2
  clear hc0 hc1 hc2 hc3 hk k1 k2 hb2 hb3 c3
  go_wp2_with fail
  have hz3 := C3.out.size
  refine (bestOf_ends endB ends_bet w2.heap.size (w2.heap.size + 1) S.length b r AL AS cL cS R S w3 (rdIn_moreT (HR.out.below C3.out) C3.out.size) l1 l2 (fun i v hv => has_cell K1.out i hv) (has_cell K2.out 0 rfl)).mono ?_
  rintro e w4 ⟨g, x, rfl, hf, hzr, hor, hlen, hb4⟩
  rw [keys_ends] at hf
  have HF := Lib.hid hf; have HZR := Lib.hid hzr; have HOR := Lib.hid (or_lessV hor hz3); have C4 := Lib.hid (bthen C3.out hb4)
  clear hf hzr hor hb4 hlen
  go_wp2_with fail
  generalize hX : (w4.alloc (.cells #[.slice x.A x.l.length x.cA, .slice x.A2 x.l.length x.c2, .int .i64 x.d.fin, .int .i64 x.d.peak, .int .i64 x.d.wait] 40)) = w5
  have hb5 : Below w4.heap.size w4 w5 := by rw [← hX]; exact balloc _ _
  have hk : Has w5 w4.heap.size 40 #[.slice x.A x.l.length x.cA, .slice x.A2 x.l.length x.c2, .int .i64 x.d.fin, .int .i64 x.d.peak, .int .i64 x.d.wait] := by rw [← hX]; exact has_new _ _ _
  clear hX
  have hc0 := has_cell hk 0 rfl; have hc1 := has_cell hk 1 rfl; have hc2 := has_cell hk 2 rfl; have hc3 := has_cell hk 3 rfl; have hc4 := has_cell hk 4 rfl
  have HO5 := Lib.hid (HOR.out.below hb5); have C5 := Lib.hid (bthen C4.out hb5)
  clear hb5
  go_wp2
  go_quiet (fail)
  go_wp2
  go_ret3
  exact fin_ans HF.out HZR.out (by first | exact HO5.out | exact HO5.out.below (Below.refl _ _).drew | exact HO5.out.below (below_drewN (Below.refl _ _) _)) (by first | exact C5.out | exact C5.out.drew | exact below_drewN C5.out _)
set_option maxRecDepth 100000 in
set_option maxHeartbeats 4000000 in
theorem mostI_any (w : World) (B : Nat) (b r : Int) (AL AS : Option Addr) (cL cS : Nat) (R : List Rw) (S : List Sp) (hB : B ≤ w.heap.size) (hR : RdIn w B AL R AS S) :
    Calls Try.prog 8 #[.agg #[.int .i64 b, .int .i64 r, .slice AL R.length cL, .slice AS S.length cS]] w (AnsV (bestVal b r (gOf R) S 0) w) := by
  have HR := Lib.hid (rdIn_moreT hR hB); clear hR
  go_enter Try.func8, Try.ntmps8
  go_wp2_with fail
  generalize hX : (w.alloc (.cells #[.int .i64 b, .int .i64 r, .slice AL R.length cL, .slice AS S.length cS] 27)) = w2
  have hb2 : Below w.heap.size w w2 := by rw [← hX]; exact balloc _ _
  have hk : Has w2 w.heap.size 27 #[.int .i64 b, .int .i64 r, .slice AL R.length cL, .slice AS S.length cS] := by rw [← hX]; exact has_new _ _ _
  clear hX
  have hc0 := has_cell hk 0 rfl; have hc1 := has_cell hk 1 rfl; have hc2 := has_cell hk 2 rfl; have hc3 := has_cell hk 3 rfl
  skip
  refine (tours_any w2 b r AL AS cL cS R.length S.length 0).mono ?_
  rintro e w3 ⟨rfl, k1, k2, hb3⟩
  have c3 := bthen hb2 hb3
  have K1 := Lib.hid k1; have K2 := Lib.hid k2; have C3 := Lib.hid c3
  have l1 := has_lt k1; have l2 := has_lt k2
  clear hc0 hc1 hc2 hc3 hk k1 k2 hb2 hb3 c3
  go_wp2_with fail
  have hz3 := C3.out.size
  refine (bestOf_more moreB more_bet w2.heap.size (w2.heap.size + 1) 0 b r AL AS cL cS R S w3 (rdIn_moreT (HR.out.below C3.out) C3.out.size) l1 l2 (fun i v hv => has_cell K1.out i hv) (has_cell K2.out 0 rfl)).mono ?_
  rintro e w4 ⟨g, x, rfl, hf, hzr, hor, hlen, hb4⟩
  rw [keys_more] at hf
  have HF := Lib.hid hf; have HZR := Lib.hid hzr; have HOR := Lib.hid (or_lessV hor hz3); have C4 := Lib.hid (bthen C3.out hb4)
  clear hf hzr hor hb4 hlen
  go_wp2_with fail
  generalize hX : (w4.alloc (.cells #[.slice x.A x.l.length x.cA, .slice x.A2 x.l.length x.c2, .int .i64 x.d.fin, .int .i64 x.d.peak, .int .i64 x.d.wait] 40)) = w5
  have hb5 : Below w4.heap.size w4 w5 := by rw [← hX]; exact balloc _ _
  have hk : Has w5 w4.heap.size 40 #[.slice x.A x.l.length x.cA, .slice x.A2 x.l.length x.c2, .int .i64 x.d.fin, .int .i64 x.d.peak, .int .i64 x.d.wait] := by rw [← hX]; exact has_new _ _ _
  clear hX
  have hc0 := has_cell hk 0 rfl; have hc1 := has_cell hk 1 rfl; have hc2 := has_cell hk 2 rfl; have hc3 := has_cell hk 3 rfl; have hc4 := has_cell hk 4 rfl
  have HO5 := Lib.hid (HOR.out.below hb5); have C5 := Lib.hid (bthen C4.out hb5)
  clear hb5
  go_wp2
  go_quiet (fail)
  go_wp2
  go_ret3
  exact fin_ans HF.out HZR.out (by first | exact HO5.out | exact HO5.out.below (Below.refl _ _).drew | exact HO5.out.below (below_drewN (Below.refl _ _) _)) (by first | exact C5.out | exact C5.out.drew | exact below_drewN C5.out _)
end Go.Proofs.Ytfimdhbcifjioaa
