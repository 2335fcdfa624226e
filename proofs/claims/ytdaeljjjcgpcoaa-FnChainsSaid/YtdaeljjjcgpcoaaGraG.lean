/- Chapter 5: the walks of firstGrant, its closure and slices.IndexFunc (gen_grg.py). -/
import Derived.Test.YtdaeljjjcgpcoaaGraS
namespace Go.Proofs.Ytdaeljjjcgpcoaa
open Go.RowKit Go.Maps
set_option linter.unusedVariables false
theorem mi_runok {w : World} {b n : Nat} {f : PM} (h : MI w b n f) (k : Int) (hk : 0 ≤ k ∧ k ≤ 1000) : (Instr.lookup 39 (.map (some b)) (.int .i64 k) true).run Try.prog w = .ok (.tuple #[.int .i64 ((f k).getD 0), .bool (f k).isSome]) w := by
  obtain ⟨D, hown, hD⟩ := h
  obtain ⟨v, ps, hrun, hv⟩ := hown.look_ok lawI Try.underlying39 (zeroI w) (plainElem_int Try.underlying3 (by decide)) (keyOf_int_mk Try.underlying3 (kI k hk))
  obtain ⟨c, rfl, hc, _⟩ := plainElem_int_inv Try.underlying3 hv
  rw [hrun, hD.look (congrArg Prod.fst hc), hD.has]
/-- what the closure has caught: the map's and the person's boxes -/
structure Caught (w : World) (M n b1 b2 : Nat) (S : PM) (x : Int) : Prop where
  map : MI w M n S
  c1 : w.cell? ⟨b1, 0, none⟩ = some (.map (some M))
  c2 : w.cell? ⟨b2, 0, none⟩ = some (.int .i64 x)
theorem ccall {W W' : World} {q : Addr} {v : Value} (h : W.cell? q = some v) (hb : Below W.heap.size W W') : W'.cell? q = some v := by
  have hlt : q.block < W.heap.size := by
    rcases Nat.lt_or_ge q.block W.heap.size with hlt | hge
    · exact hlt
    · unfold World.cell? at h
      rw [Array.getElem?_eq_none hge] at h
      simp at h
  exact (hb.cell hlt).trans h
theorem lt_of_cell {w : World} {b o : Nat} {v : Value} (h : w.cell? ⟨b, o, none⟩ = some v) : b < w.heap.size := by
  rcases Nat.lt_or_ge b w.heap.size with hlt | hge
  · exact hlt
  · unfold World.cell? at h
    rw [Array.getElem?_eq_none hge] at h
    simp at h
theorem Caught.call {w w' : World} {M n b1 b2 : Nat} {S : PM} {x : Int} (h : Caught w M n b1 b2 S x) (hb : Below w.heap.size w w') : Caught w' M n b1 b2 S x := ⟨h.map.call hb, ccall h.c1 hb, ccall h.c2 hb⟩

set_option maxRecDepth 100000 in
set_option maxHeartbeats 2000000 in
theorem fg_a (w : World) (M n b1 b2 : Nat) (S : PM) (x vx : Int) (x0 x1 x2 x3 x4 x5 : Int) (x6 : Bool) (hC : Caught w M n b1 b2 S x) (hto : 0 ≤ x1 ∧ x1 ≤ 1000) (hxp : 0 ≤ x ∧ x ≤ 1000) (hx : S x = some vx) (hs : S x1 = none) : Calls Try.prog 35 #[.agg #[.int .i64 x0, .int .i64 x1, .int .i64 x2, .int .i64 x3, .int .i64 x4, .int .i64 x5, .bool x6], .pointer (some ⟨b1, 0, none⟩), .pointer (some ⟨b2, 0, none⟩)] w fun e w' => e = .returned (.bool (fgP S x ⟨x0, x1, x2, x3, x4, x5, x6⟩)) ∧ Below w.heap.size w w' := by
  have HV := Lib.hid (show fgP S x ⟨x0, x1, x2, x3, x4, x5, x6⟩ = false by simp [fgP, hs])
  have HC := Lib.hid hC; clear hC
  have hgd : (S x1).getD 0 = 0 := by rw [hs]; rfl
  have hsm : (S x1).isSome = false := by rw [hs]; rfl
  have hgx : (S x).getD 0 = vx := by rw [hx]; rfl
  have HX := Lib.hid hx; clear hx hs
  have r1 := mi_runok (HC.out.map.alloc (.cells #[.int .i64 x0, .int .i64 x1, .int .i64 x2, .int .i64 x3, .int .i64 x4, .int .i64 x5, .bool x6] 35)) x1 hto; rw [hgd, hsm] at r1
  have r2 := mi_run (HC.out.map.alloc (.cells #[.int .i64 x0, .int .i64 x1, .int .i64 x2, .int .i64 x3, .int .i64 x4, .int .i64 x5, .bool x6] 35)) x hxp; rw [hgx] at r2
  have g1 := HC.out.c1; have g2 := HC.out.c2; have l1 := lt_of_cell g1; have l2 := lt_of_cell g2; clear HC hgd hsm hgx
  go_enter Try.func35, Try.ntmps35
  go_wp2_with fail
  go_ret
  exact ⟨rbool (by have hv := HV.out; first | exact hv.symm | (rw [hv]; simp; done) | (rw [hv]; simp; omega)), balloc _ _⟩
set_option maxRecDepth 100000 in
set_option maxHeartbeats 2000000 in
theorem fg_b (w : World) (M n b1 b2 : Nat) (S : PM) (x vx : Int) (x0 x1 x2 x3 x4 x5 : Int) (x6 : Bool) (hC : Caught w M n b1 b2 S x) (hto : 0 ≤ x1 ∧ x1 ≤ 1000) (hxp : 0 ≤ x ∧ x ≤ 1000) (hx : S x = some vx) (v : Int) (hv : 0 ≤ v ∧ v ≤ 1000) (hs : S x1 = some v) (hf : (x0 == x) = false) : Calls Try.prog 35 #[.agg #[.int .i64 x0, .int .i64 x1, .int .i64 x2, .int .i64 x3, .int .i64 x4, .int .i64 x5, .bool x6], .pointer (some ⟨b1, 0, none⟩), .pointer (some ⟨b2, 0, none⟩)] w fun e w' => e = .returned (.bool (fgP S x ⟨x0, x1, x2, x3, x4, x5, x6⟩)) ∧ Below w.heap.size w w' := by
  have HV := Lib.hid (show fgP S x ⟨x0, x1, x2, x3, x4, x5, x6⟩ = false by simp [fgP, hs, hf])
  have HC := Lib.hid hC; clear hC
  have hgd : (S x1).getD 0 = v := by rw [hs]; rfl
  have hsm : (S x1).isSome = true := by rw [hs]; rfl
  have hgx : (S x).getD 0 = vx := by rw [hx]; rfl
  have HX := Lib.hid hx; clear hx hs
  have r1 := mi_runok (HC.out.map.alloc (.cells #[.int .i64 x0, .int .i64 x1, .int .i64 x2, .int .i64 x3, .int .i64 x4, .int .i64 x5, .bool x6] 35)) x1 hto; rw [hgd, hsm] at r1
  have r2 := mi_run (HC.out.map.alloc (.cells #[.int .i64 x0, .int .i64 x1, .int .i64 x2, .int .i64 x3, .int .i64 x4, .int .i64 x5, .bool x6] 35)) x hxp; rw [hgx] at r2
  have g1 := HC.out.c1; have g2 := HC.out.c2; have l1 := lt_of_cell g1; have l2 := lt_of_cell g2; clear HC hgd hsm hgx
  go_enter Try.func35, Try.ntmps35
  go_wp2_with fail
  go_ret
  exact ⟨rbool (by have hv := HV.out; first | exact hv.symm | (rw [hv]; simp; done) | (rw [hv]; simp; omega)), balloc _ _⟩
set_option maxRecDepth 100000 in
set_option maxHeartbeats 2000000 in
theorem fg_c (w : World) (M n b1 b2 : Nat) (S : PM) (x vx : Int) (x0 x1 x2 x3 x4 x5 : Int) (x6 : Bool) (hC : Caught w M n b1 b2 S x) (hto : 0 ≤ x1 ∧ x1 ≤ 1000) (hxp : 0 ≤ x ∧ x ≤ 1000) (hx : S x = some vx) (v : Int) (hv : 0 ≤ v ∧ v ≤ 1000) (hs : S x1 = some v) (hf : (x0 == x) = true) (hd : ¬ v ≤ x3) : Calls Try.prog 35 #[.agg #[.int .i64 x0, .int .i64 x1, .int .i64 x2, .int .i64 x3, .int .i64 x4, .int .i64 x5, .bool x6], .pointer (some ⟨b1, 0, none⟩), .pointer (some ⟨b2, 0, none⟩)] w fun e w' => e = .returned (.bool (fgP S x ⟨x0, x1, x2, x3, x4, x5, x6⟩)) ∧ Below w.heap.size w w' := by
  have HV := Lib.hid (show fgP S x ⟨x0, x1, x2, x3, x4, x5, x6⟩ = false by simp [fgP, hs, hd])
  obtain rfl : x0 = x := by simpa using hf
  have e0 : (x0 == x0) = true := by simp
  clear hf
  have HC := Lib.hid hC; clear hC
  have hgd : (S x1).getD 0 = v := by rw [hs]; rfl
  have hsm : (S x1).isSome = true := by rw [hs]; rfl
  have hgx : (S x0).getD 0 = vx := by rw [hx]; rfl
  have HX := Lib.hid hx; clear hx hs
  have r1 := mi_runok (HC.out.map.alloc (.cells #[.int .i64 x0, .int .i64 x1, .int .i64 x2, .int .i64 x3, .int .i64 x4, .int .i64 x5, .bool x6] 35)) x1 hto; rw [hgd, hsm] at r1
  have r2 := mi_run (HC.out.map.alloc (.cells #[.int .i64 x0, .int .i64 x1, .int .i64 x2, .int .i64 x3, .int .i64 x4, .int .i64 x5, .bool x6] 35)) x0 hxp; rw [hgx] at r2
  have g1 := HC.out.c1; have g2 := HC.out.c2; have l1 := lt_of_cell g1; have l2 := lt_of_cell g2; clear HC hgd hsm hgx
  go_enter Try.func35, Try.ntmps35
  go_wp2_with fail
  go_ret
  exact ⟨rbool (by have hv := HV.out; first | exact hv.symm | (rw [hv]; simp; done) | (rw [hv]; simp; omega)), balloc _ _⟩
set_option maxRecDepth 100000 in
set_option maxHeartbeats 2000000 in
theorem fg_d (w : World) (M n b1 b2 : Nat) (S : PM) (x vx : Int) (x0 x1 x2 x3 x4 x5 : Int) (x6 : Bool) (hC : Caught w M n b1 b2 S x) (hto : 0 ≤ x1 ∧ x1 ≤ 1000) (hxp : 0 ≤ x ∧ x ≤ 1000) (hx : S x = some vx) (v : Int) (hv : 0 ≤ v ∧ v ≤ 1000) (hs : S x1 = some v) (hf : (x0 == x) = true) (hd : v ≤ x3) (hx2 : (vx == v + 1) = false) : Calls Try.prog 35 #[.agg #[.int .i64 x0, .int .i64 x1, .int .i64 x2, .int .i64 x3, .int .i64 x4, .int .i64 x5, .bool x6], .pointer (some ⟨b1, 0, none⟩), .pointer (some ⟨b2, 0, none⟩)] w fun e w' => e = .returned (.bool (fgP S x ⟨x0, x1, x2, x3, x4, x5, x6⟩)) ∧ Below w.heap.size w w' := by
  have HV := Lib.hid (show fgP S x ⟨x0, x1, x2, x3, x4, x5, x6⟩ = false by simp [fgP, hs, hx] at hx2 ⊢; intros; exact hx2)
  obtain rfl : x0 = x := by simpa using hf
  have e0 : (x0 == x0) = true := by simp
  clear hf
  have HC := Lib.hid hC; clear hC
  have hgd : (S x1).getD 0 = v := by rw [hs]; rfl
  have hsm : (S x1).isSome = true := by rw [hs]; rfl
  have hgx : (S x0).getD 0 = vx := by rw [hx]; rfl
  have HX := Lib.hid hx; clear hx hs
  have r1 := mi_runok (HC.out.map.alloc (.cells #[.int .i64 x0, .int .i64 x1, .int .i64 x2, .int .i64 x3, .int .i64 x4, .int .i64 x5, .bool x6] 35)) x1 hto; rw [hgd, hsm] at r1
  have r2 := mi_run (HC.out.map.alloc (.cells #[.int .i64 x0, .int .i64 x1, .int .i64 x2, .int .i64 x3, .int .i64 x4, .int .i64 x5, .bool x6] 35)) x0 hxp; rw [hgx] at r2
  have g1 := HC.out.c1; have g2 := HC.out.c2; have l1 := lt_of_cell g1; have l2 := lt_of_cell g2; clear HC hgd hsm hgx
  go_enter Try.func35, Try.ntmps35
  go_wp2_with fail
  go_ret
  exact ⟨rbool (by have hv := HV.out; first | exact hv.symm | (rw [hv]; simp; done) | (rw [hv]; simp; omega)), balloc _ _⟩
set_option maxRecDepth 100000 in
set_option maxHeartbeats 2000000 in
theorem fg_e (w : World) (M n b1 b2 : Nat) (S : PM) (x vx : Int) (x0 x1 x2 x3 x4 x5 : Int) (x6 : Bool) (hC : Caught w M n b1 b2 S x) (hto : 0 ≤ x1 ∧ x1 ≤ 1000) (hxp : 0 ≤ x ∧ x ≤ 1000) (hx : S x = some vx) (v : Int) (hv : 0 ≤ v ∧ v ≤ 1000) (hs : S x1 = some v) (hf : (x0 == x) = true) (hd : v ≤ x3) (hx2 : (vx == v + 1) = true) : Calls Try.prog 35 #[.agg #[.int .i64 x0, .int .i64 x1, .int .i64 x2, .int .i64 x3, .int .i64 x4, .int .i64 x5, .bool x6], .pointer (some ⟨b1, 0, none⟩), .pointer (some ⟨b2, 0, none⟩)] w fun e w' => e = .returned (.bool (fgP S x ⟨x0, x1, x2, x3, x4, x5, x6⟩)) ∧ Below w.heap.size w w' := by
  have HV := Lib.hid (show fgP S x ⟨x0, x1, x2, x3, x4, x5, x6⟩ = true by simp [fgP, hs, hx] at hx2 hf ⊢; exact ⟨⟨hf, hd⟩, hx2⟩)
  obtain rfl : x0 = x := by simpa using hf
  have e0 : (x0 == x0) = true := by simp
  clear hf
  have HC := Lib.hid hC; clear hC
  have hgd : (S x1).getD 0 = v := by rw [hs]; rfl
  have hsm : (S x1).isSome = true := by rw [hs]; rfl
  have hgx : (S x0).getD 0 = vx := by rw [hx]; rfl
  have HX := Lib.hid hx; clear hx hs
  have r1 := mi_runok (HC.out.map.alloc (.cells #[.int .i64 x0, .int .i64 x1, .int .i64 x2, .int .i64 x3, .int .i64 x4, .int .i64 x5, .bool x6] 35)) x1 hto; rw [hgd, hsm] at r1
  have r2 := mi_run (HC.out.map.alloc (.cells #[.int .i64 x0, .int .i64 x1, .int .i64 x2, .int .i64 x3, .int .i64 x4, .int .i64 x5, .bool x6] 35)) x0 hxp; rw [hgx] at r2
  have g1 := HC.out.c1; have g2 := HC.out.c2; have l1 := lt_of_cell g1; have l2 := lt_of_cell g2; clear HC hgd hsm hgx
  go_enter Try.func35, Try.ntmps35
  go_wp2_with fail
  go_ret
  exact ⟨rbool (by have hv := HV.out; first | exact hv.symm | (rw [hv]; simp; done) | (rw [hv]; simp; omega)), balloc _ _⟩
theorem fg_any (w : World) (M n b1 b2 : Nat) (S : PM) (x vx : Int) (x0 x1 x2 x3 x4 x5 : Int) (x6 : Bool) (hC : Caught w M n b1 b2 S x) (hto : 0 ≤ x1 ∧ x1 ≤ 1000) (hxp : 0 ≤ x ∧ x ≤ 1000) (hx : S x = some vx) (hSv : ∀ z v, S z = some v → 0 ≤ v ∧ v ≤ 1000) : Calls Try.prog 35 #[.agg #[.int .i64 x0, .int .i64 x1, .int .i64 x2, .int .i64 x3, .int .i64 x4, .int .i64 x5, .bool x6], .pointer (some ⟨b1, 0, none⟩), .pointer (some ⟨b2, 0, none⟩)] w fun e w' => e = .returned (.bool (fgP S x ⟨x0, x1, x2, x3, x4, x5, x6⟩)) ∧ Below w.heap.size w w' := by
  cases hs : S x1 with
  | none => exact fg_a w M n b1 b2 S x vx x0 x1 x2 x3 x4 x5 x6 hC hto hxp hx hs
  | some v =>
    have hv := hSv _ _ hs
    cases hf : x0 == x
    · exact fg_b w M n b1 b2 S x vx x0 x1 x2 x3 x4 x5 x6 hC hto hxp hx v hv hs hf
    by_cases hd : v ≤ x3
    · cases hx2 : vx == v + 1
      · exact fg_d w M n b1 b2 S x vx x0 x1 x2 x3 x4 x5 x6 hC hto hxp hx v hv hs hf hd hx2
      · exact fg_e w M n b1 b2 S x vx x0 x1 x2 x3 x4 x5 x6 hC hto hxp hx v hv hs hf hd hx2
    · exact fg_c w M n b1 b2 S x vx x0 x1 x2 x3 x4 x5 x6 hC hto hxp hx v hv hs hf hd
/-- the index of the first that is asked for, or -1 -/
def idxI (o : Option Nat) : Int := match o with | some i => (i : Int) | none => -1
theorem findIdx_no {P : Gr → Bool} {F : List Gr} (h : ∀ j x, j < F.length → F[j]? = some x → P x = false) : F.findIdx? P = none := by
  rw [List.findIdx?_eq_none_iff]
  intro x hx
  obtain ⟨j, hj, rfl⟩ := List.getElem_of_mem hx
  exact h j _ hj (List.getElem?_eq_getElem hj)
theorem findIdx_yes {P : Gr → Bool} {F : List Gr} {k : Nat} {x : Gr} (hx : F[k]? = some x) (hp : P x = true) (h : ∀ j y, j < k → F[j]? = some y → P y = false) : F.findIdx? P = some k := by
  obtain ⟨hk, rfl⟩ := List.getElem?_eq_some_iff.1 hx
  rw [List.findIdx?_eq_some_iff_getElem]
  exact ⟨hk, hp, fun j hj => by have := h j _ hj (List.getElem?_eq_getElem (by omega)); simp [this]⟩
set_option maxRecDepth 100000 in
set_option maxHeartbeats 2000000 in
theorem index_any (w : World) (B : Nat) (A : Option Addr) (c : Nat) (F : List Gr) (M n b1 b2 : Nat) (S : PM) (x vx : Int) (hl : F.length ≤ maxLen) (hB : B ≤ w.heap.size) (hSl : grL w B A F) (hC : Caught w M n b1 b2 S x)
    (hto : ∀ g ∈ F, 0 ≤ g.to ∧ g.to ≤ 1000) (hxp : 0 ≤ x ∧ x ≤ 1000) (hx : S x = some vx) (hSv : ∀ z v, S z = some v → 0 ≤ v ∧ v ≤ 1000) :
    Calls Try.prog 34 #[.slice A F.length c, .func (.func 35) #[] #[.pointer (some ⟨b1, 0, none⟩), .pointer (some ⟨b2, 0, none⟩)]] w fun e w' => e = .returned (.int .i64 (idxI (F.findIdx? (fgP S x)))) ∧ Below w.heap.size w w' := by
  unfold maxLen at hl
  have HS := Lib.hid hSl; have HC := Lib.hid hC; have HT := Lib.hid hto; have HX := Lib.hid hx; have HV := Lib.hid hSv; clear hSl hC hto hx hSv
  go_enter Try.func34, Try.ntmps34
  go_wp2
  go_loopw [8] (fun i wr => ∃ k : Nat, k ≤ F.length ∧ i = .int .i64 k ∧ (∀ j y, j < k → F[j]? = some y → fgP S x y = false) ∧ Below w.heap.size w wr) (fun i _ => F.length - (intOf i).toNat)
  case atStart => exact ⟨0, Nat.zero_le _, rfl, (fun j y hj => absurd hj (by omega)), Below.refl _ _⟩
  case round =>
    obtain ⟨k, hk, rfl, hno, hb⟩ := hrel
    have HNO := Lib.hid hno; clear hno
    have hsz := hb.size
    by_cases hlt : k < F.length
    · obtain ⟨b, off, ⟨x0, x1, x2, x3, x4, x5, x6⟩, rfl, hbB, hx, hc0, hc1, hc2, hc3, hc4, hc5, hc6⟩ := (HS.out.later hB hb).at_ hlt
      dsimp only at hc0 hc1 hc2 hc3 hc4 hc5 hc6
      have ht := HT.out _ (List.mem_of_getElem? hx)
      dsimp only at ht
      have Hx := Lib.hid hx; clear hx
      cases hq : fgP S x ⟨x0, x1, x2, x3, x4, x5, x6⟩
      · have HQ := Lib.hid hq; clear hq
        go_wp2_with (go_at_call 35; refine (fg_any _ M n b1 b2 S x vx x0 x1 x2 x3 x4 x5 x6 (HC.out.call hb) ht hxp HX.out HV.out).mono ?_; rintro e w1 ⟨rfl, hb1⟩; rw [HQ.out])
        go_roundw
        case rel => exact ⟨k + 1, by omega, by go_num, (fun j y hj hy => by
          by_cases e : j = k
          · subst e; rw [Hx.out] at hy; injection hy with hy; subst hy; exact HQ.out
          · exact HNO.out j y (by omega) hy), hb.trans (hb1.mono hsz)⟩
        case measure => simp [intOf]; omega
      · have HQ := Lib.hid hq; clear hq
        go_wp2_with (go_at_call 35; refine (fg_any _ M n b1 b2 S x vx x0 x1 x2 x3 x4 x5 x6 (HC.out.call hb) ht hxp HX.out HV.out).mono ?_; rintro e w1 ⟨rfl, hb1⟩; rw [HQ.out])
        go_ret
        exact ⟨rint (by rw [findIdx_yes Hx.out HQ.out HNO.out]; rfl), hb.trans (hb1.mono hsz)⟩
    · go_wp2
      go_ret
      have hkl : k = F.length := by omega
      subst hkl
      exact ⟨rint (by rw [findIdx_no (fun j x hj hx => HNO.out j x hj hx)]; rfl), hb⟩
set_option maxRecDepth 100000 in
set_option maxHeartbeats 2000000 in
theorem first_any (w : World) (B : Nat) (A : Option Addr) (c : Nat) (F : List Gr) (M n : Nat) (S : PM) (x vx : Int) (hl : F.length ≤ maxLen) (hB : B ≤ w.heap.size) (hSl : grL w B A F) (hM : MI w M n S)
    (hto : ∀ g ∈ F, 0 ≤ g.to ∧ g.to ≤ 1000) (hxp : 0 ≤ x ∧ x ≤ 1000) (hx : S x = some vx) (hSv : ∀ z v, S z = some v → 0 ≤ v ∧ v ≤ 1000) :
    Calls Try.prog 21 #[.slice A F.length c, .map (some M), .int .i64 x] w fun e w' => e = .returned (.int .i64 (idxI (F.findIdx? (fgP S x)))) ∧ Below w.heap.size w w' := by
  have HS := Lib.hid hSl; have HM := Lib.hid hM; have HT := Lib.hid hto; have HX := Lib.hid hx; have HV := Lib.hid hSv; clear hSl hM hto hx hSv
  go_enter Try.func21, Try.ntmps21
  go_wp2_with fail
  generalize hW0 : (w.alloc (.cells #[.map (some M)] 39)) = w0
  have b0 : Below w.heap.size w w0 := by rw [← hW0]; exact balloc _ _
  have z0 : w0.heap.size = w.heap.size + 1 := by rw [← hW0]; simp
  have k0 : Has w0 w.heap.size 39 #[.map (some M)] := by rw [← hW0]; exact has_new _ _ _
  clear hW0
  generalize hW1 : (w0.alloc (.cells #[.int .i64 x] 3)) = w1
  have b1 : Below w0.heap.size w0 w1 := by rw [← hW1]; exact balloc _ _
  have k1 : Has w1 (w.heap.size + 1) 3 #[.int .i64 x] := by rw [← hW1, ← z0]; exact has_new _ _ _
  clear hW1
  have b2 := bthen b0 b1
  have hsz := b2.size
  refine (index_any w1 B A c F M n w.heap.size (w.heap.size + 1) S x vx hl (by omega) (HS.out.later hB b2) ⟨HM.out.call b2, has_cell (has_call k0 b1) 0 rfl, has_cell k1 0 rfl⟩ HT.out hxp HX.out HV.out).mono ?_
  rintro e w2 ⟨rfl, hb⟩
  have b3 := bthen b2 hb
  have B3 := Lib.hid b3; clear b0 b1 b2 b3 hb k0 k1 z0
  go_wp2_with fail
  go_ret
  exact ⟨rfl, B3.out⟩
end Go.Proofs.Ytdaeljjjcgpcoaa
