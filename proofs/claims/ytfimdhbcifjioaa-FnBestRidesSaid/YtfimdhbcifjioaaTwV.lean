/- Chapter 7: l07Best of the model: the very answer (gen_twv.py). -/
import Derived.Test.YtfimdhbcifjioaaTwU
import Derived.Test.YtfimdhbcifjioaaTouF
import Derived.Deep.DeepCutAuto
import Derived.RegionTactic
import Derived.Deep.RegionWith
import Derived.Test.YtfimdhbcifjioaaAny
import Derived.Deep.RegionHeld3
import Derived.Deep.DeepMust
import Derived.WalkLawsBesides
namespace Go.Proofs.Ytfimdhbcifjioaa
open Go.RowKit
set_option linter.unusedVariables false

theorem cntU_le {n : Nat} (h : n ≤ 6) : cntU n ≤ 9331 := by
  rcases n with _ | _ | _ | _ | _ | _ | _ | n
  all_goals first | omega | decide
theorem or_lessV {w : World} {base lo : Nat} {e : TypeId} {A : Option Addr} {xs : List Value} (h : OR w base e A xs) (hl : lo ≤ base) : OR w lo e A xs := by
  rcases h with h | ⟨b, cur, rfl, hb, hh, hc⟩
  · exact .inl h
  · exact .inr ⟨b, cur, rfl, by omega, hh, hc⟩
theorem spL_moreV {w : World} {B B' : Nat} {A : Option Addr} {S : List Sp} (h : spL w B A S) (hB : B ≤ B') : spL w B' A S := by
  rcases h with h | ⟨b, off, h1, h2, h3⟩
  · exact .inl h
  · exact .inr ⟨b, off, h1, by omega, h3⟩
theorem rdIn_moreV {w : World} {B B' : Nat} {AL AS : Option Addr} {R : List Rw} {S : List Sp} (h : RdIn w B AL R AS S) (hB : B ≤ B') : RdIn w B' AL R AS S :=
  ⟨h.rows.more hB, fun x hx => ⟨(h.vals x hx).1.more hB, (h.vals x hx).2⟩, spL_moreV h.stops hB, h.lr, h.ls⟩
/-- the better of what was found and one more order -/
def bstep (b r : Int) (G : List (List Int)) (S : List Sp) (least : Nat) (acc : Option (List Int × Int)) (l : List Int) : Option (List Int × Int) :=
  if l.length < least then acc else match rideT b r G S l with
    | none => acc
    | some d => match acc with
      | none => some (l, d.fin)
      | some q => if q.1.length < l.length ∨ l.length = q.1.length ∧ d.fin < q.2 then some (l, d.fin) else some q
def bestT (b r : Int) (G : List (List Int)) (S : List Sp) (least : Nat) : Option (List Int × Int) := (ordsT S.length S.length []).foldl (bstep b r G S least) none
def accOf (g : Bool) (l : List Int) (f : Int) : Option (List Int × Int) := if g then some (l, f) else none
theorem fold_next {b r : Int} {G : List (List Int)} {S : List Sp} {least : Nat} {X : List (List Int)} {k : Nat} {x : List Int} {a : Option (List Int × Int)} (hx : X[k]? = some x) (h : (X.take k).foldl (bstep b r G S least) none = a) : (X.take (k + 1)).foldl (bstep b r G S least) none = bstep b r G S least a x := by
  rw [take_snoc hx, List.foldl_append, h]; rfl
def BestE (b r : Int) (G : List (List Int)) (S : List Sp) (least : Nat) (w : World) (e : Ending) (w' : World) : Prop := ∃ (A : Option Addr) (c : Nat) (f : Int) (l : List Int) (g : Bool), e = .returned (.tuple #[.slice A l.length c, .int .i64 f, .bool g]) ∧
  (g = false → l = [] ∧ f = 0) ∧ (roundB b r G S = false ∧ g = false ∨ roundB b r G S = true ∧ bestT b r G S least = accOf g l f) ∧ OR w' w.heap.size 3 A (intV l) ∧ l.length ≤ 6 ∧ Below w.heap.size w w'
theorem rideV2 {b r : Int} {G : List (List Int)} {S : List Sp} {O : List Int} {w : World} {e : Ending} {w' : World} (h : RideA b r G S O w e w') : ∃ (A' : Option Addr) (n c : Nat) (f : Int) (g : Bool), e = .returned (.tuple #[.slice A' n c, .int .i64 f, .bool g]) ∧ (g = false ∧ rideT b r G S O = none ∨ g = true ∧ ∃ d, rideT b r G S O = some d ∧ d.fin = f) ∧ Below w.heap.size w w' := by
  obtain ⟨⟨h1, rfl⟩ | ⟨d, A', c', h1, h2, h3, rfl⟩, hb⟩ := h
  · exact ⟨none, 0, 0, 0, false, rfl, .inl ⟨rfl, h1⟩, hb⟩
  · exact ⟨A', _, c', d.fin, true, rfl, .inr ⟨rfl, d, h1, rfl⟩, hb⟩
set_option maxRecDepth 100000 in
set_option maxHeartbeats 8000000 in
theorem bestE_any (w0 w1 : World) (b r : Int) (AL AS : Option Addr) (cL cS : Nat) (R : List Rw) (S : List Sp) (least : Nat) (hR : RdIn w0 w0.heap.size AL R AS S) (hb0 : Below w0.heap.size w0 w1) (hle : (least : Int) ≤ 1048576) :
    Calls Try.prog 20 #[.agg #[.int .i64 b, .int .i64 r, .slice AL R.length cL, .slice AS S.length cS], .int .i64 (least : Int)] w1 (BestE b r (gOf R) S least w1) := by
  have HIN := Lib.hid hR; have ZB := Lib.hid hb0; have ZW := Lib.hid (Below.refl w1.heap.size w1)
  clear hR hb0
  cases hv : roundB b r (gOf R) S
  · skip
    have HRB := Lib.hid hv; clear hv
    go_enter Try.func20, Try.ntmps20
    go_wp2_with fail
    generalize hX : (w1.alloc (.cells #[.int .i64 b, .int .i64 r, .slice AL R.length cL, .slice AS S.length cS] 27)) = w71
    have hb : Below w1.heap.size w1 w71 := by rw [← hX]; exact balloc _ _
    have hk : Has w71 w1.heap.size 27 #[.int .i64 b, .int .i64 r, .slice AL R.length cL, .slice AS S.length cS] := by rw [← hX]; exact has_new _ _ _
    clear hX
    have kk := bthen ZB.out hb; clear ZB; have ZB := Lib.hid kk; clear kk
    have kk := bthen ZW.out hb; clear ZW; have ZW := Lib.hid kk; clear kk
    have hsw71 := hb.size; clear hb
    obtain ⟨Zt, hZe⟩ : ∃ q, w1.heap.size = q := ⟨_, rfl⟩
    rw [hZe] at hk ⊢
    have hltt : Zt < w71.heap.size := has_lt hk
    have HX_t := Lib.hid hk; clear hk hZe
    generalize hX : (w71.alloc (.cells #[] 3)) = w72
    have hb : Below w71.heap.size w71 w72 := by rw [← hX]; exact balloc _ _
    clear hX
    have kk := has_call HX_t.out hb; clear HX_t; have HX_t := Lib.hid kk; clear kk
    have kk := bthen ZB.out hb; clear ZB; have ZB := Lib.hid kk; clear kk
    have kk := bthen ZW.out hb; clear ZW; have ZW := Lib.hid kk; clear kk
    have hsw72 := hb.size; clear hb
    refine (roundS_any _ w0.heap.size b r AL AS cL cS R S ZB.out.size (HIN.out.below ZB.out)).mono ?_
    rintro e w73 ⟨rfl, hb⟩
    rw [HRB.out]
    have kk := has_call HX_t.out hb; clear HX_t; have HX_t := Lib.hid kk; clear kk
    have kk := bthen ZB.out hb; clear ZB; have ZB := Lib.hid kk; clear kk
    have kk := bthen ZW.out hb; clear ZW; have ZW := Lib.hid kk; clear kk
    have hsw73 := hb.size; clear hb
    go_wp2_with fail
    go_ret3
    exact ⟨none, 0, 0, [], false, rfl, (fun _ => ⟨rfl, rfl⟩), .inl ⟨HRB.out, rfl⟩, .inl rfl, Nat.zero_le _, ZW.out⟩
  have HRB := Lib.hid hv; clear hv
  have HT := Lib.hid ((roundB_iff _ _ _ _).1 HRB.out); have hS4 := HT.out.six
  go_enter Try.func20, Try.ntmps20
  go_wp2_with fail
  generalize hX : (w1.alloc (.cells #[.int .i64 b, .int .i64 r, .slice AL R.length cL, .slice AS S.length cS] 27)) = w2
  have hb : Below w1.heap.size w1 w2 := by rw [← hX]; exact balloc _ _
  have hk : Has w2 w1.heap.size 27 #[.int .i64 b, .int .i64 r, .slice AL R.length cL, .slice AS S.length cS] := by rw [← hX]; exact has_new _ _ _
  clear hX
  have kk := bthen ZB.out hb; clear ZB; have ZB := Lib.hid kk; clear kk
  have kk := bthen ZW.out hb; clear ZW; have ZW := Lib.hid kk; clear kk
  have hsw2 := hb.size; clear hb
  obtain ⟨Zt, hZe⟩ : ∃ q, w1.heap.size = q := ⟨_, rfl⟩
  rw [hZe] at hk ⊢
  have hltt : Zt < w2.heap.size := has_lt hk
  have HX_t := Lib.hid hk; clear hk hZe
  obtain ⟨Ze, hZe⟩ : ∃ q, Zt + 1 = q := ⟨_, rfl⟩
  generalize hX : (w2.alloc (.cells #[] 3)) = w3
  have hb : Below w2.heap.size w2 w3 := by rw [← hX]; exact balloc _ _
  clear hX
  have kk := has_call HX_t.out hb; clear HX_t; have HX_t := Lib.hid kk; clear kk
  have kk := bthen ZB.out hb; clear ZB; have ZB := Lib.hid kk; clear kk
  have kk := bthen ZW.out hb; clear ZW; have ZW := Lib.hid kk; clear kk
  have hsw3 := hb.size; clear hb
  rw [hZe]
  clear hZe
  refine (roundS_any _ w0.heap.size b r AL AS cL cS R S ZB.out.size (HIN.out.below ZB.out)).mono ?_
  rintro e w4 ⟨rfl, hb⟩
  rw [HRB.out]
  have kk := has_call HX_t.out hb; clear HX_t; have HX_t := Lib.hid kk; clear kk
  have kk := bthen ZB.out hb; clear ZB; have ZB := Lib.hid kk; clear kk
  have kk := bthen ZW.out hb; clear ZW; have ZW := Lib.hid kk; clear kk
  have hsw4 := hb.size; clear hb
  have tc0 := has_cell HX_t.out 0 rfl; have tc1 := has_cell HX_t.out 1 rfl; have tc2 := has_cell HX_t.out 2 rfl; have tc3 := has_cell HX_t.out 3 rfl
  have tl := has_lt HX_t.out
  go_wp2_with fail
  clear tc0 tc1 tc2 tc3 tl
  obtain ⟨Zd, hZd⟩ : ∃ q, w4.heap.size = q := ⟨_, rfl⟩
  generalize hX : (w4.alloc (.cells #[] 3)) = w5
  have hb : Below w4.heap.size w4 w5 := by rw [← hX]; exact balloc _ _
  clear hX
  have kk := has_call HX_t.out hb; clear HX_t; have HX_t := Lib.hid kk; clear kk
  have kk := bthen ZB.out hb; clear ZB; have ZB := Lib.hid kk; clear kk
  have kk := bthen ZW.out hb; clear ZW; have ZW := Lib.hid kk; clear kk
  have hsw5 := hb.size; clear hb
  rw [hZd]
  clear hZd
  have hcp := cntU_le hS4
  refine (ordX_all S.length hS4 S.length w5 w5.heap.size none (some ⟨Zd, 0, none⟩) 0 0 0 0 [] [] rfl (by omega) ((orderT_iff _ _).2 ⟨List.nodup_nil, fun x hx => by cases hx⟩) (.inl rfl) (Nat.le_refl _) rfl (World.ownsRow_nil _ _ _ _) (fun x hx => by cases hx) (by omega)).mono ?_
  rintro e w6 ⟨AA, N, cA, T, rfl, hN, hTl, hTX, hT4, hown, hrk, hkp⟩
  rw [List.nil_append] at hN hown hrk
  have hb := hkp.below; clear hkp
  have kk := has_call HX_t.out hb; clear HX_t; have HX_t := Lib.hid kk; clear kk
  have kk := bthen ZB.out hb; clear ZB; have ZB := Lib.hid kk; clear kk
  have kk := bthen ZW.out hb; clear ZW; have ZW := Lib.hid kk; clear kk
  have hsw6 := hb.size; clear hb
  have hN1 : 1 ≤ N := by rw [← hN]; simp
  have hNb : N ≤ 60000 := by have := cntU_le hS4; rw [← hN]; simp only [List.length_cons]; omega
  obtain ⟨LL, hLL⟩ : ∃ q, (⟨some ⟨Zd, 0, none⟩, 0, []⟩ : Rw) :: T = q := ⟨_, rfl⟩
  have hfirst : ∀ x, LL[0]? = some x → x.l = [] := fun x hx => by rw [← hLL] at hx; simp at hx; rw [← hx]
  have hcaps : ∀ x ∈ LL, x.l.length ≤ 6 ∧ x.l.length ≤ x.c ∧ x.c ≤ maxLen := fun x hx => by
    rw [← hLL] at hx; rcases List.mem_cons.1 hx with hx | hx
    · subst hx; exact ⟨by simp, by simp, Nat.zero_le _⟩
    · exact hT4 x hx
  rw [hLL] at hN hown hrk hTX
  have hrw : rwL w6 w6.heap.size AA LL := by
    rcases or_own' hown with h3 | ⟨g, cur, rfl, _, h4, h5⟩
    · exact .inl (by simpa [rwV] using h3)
    · exact .inr ⟨g, 0, rfl, has_lt h4, fun k x hx => by rw [Nat.zero_add]; exact has_cell h4 k (h5 k _ (by simp [rwV, hx]))⟩
  have hvl : ∀ x ∈ LL, OI w6 w5.heap.size w6.heap.size 3 x.A (intV x.l) := hrk; have hlo9 : w1.heap.size ≤ w5.heap.size := by omega
  have HN := Lib.hid hN; have HFI := Lib.hid hfirst; have HCA := Lib.hid hcaps; have HRW := Lib.hid hrw; have HVL := Lib.hid hvl; have HTX := Lib.hid hTX; clear hTX hN hfirst hcaps hrw hvl hown hrk hT4 hTl hLL
  have ZL := Lib.hid (Below.refl w6.heap.size w6)
  go_wp2_with fail
  go_loopw [7, 8, 9, 11] (fun bv fv gv iv wr => ∃ (k n1 : Nat) (f1 : Int) (g1 : Bool) (A1 : Option Addr) (c1 : Nat) (l1 : List Int), k ≤ N ∧ iv = .int .i64 (k : Int) ∧ bv = .slice A1 n1 c1 ∧ fv = .int .i64 f1 ∧ gv = .bool g1 ∧ l1.length = n1 ∧ n1 ≤ 6 ∧ ((LL.map Rw.l).take k).foldl (bstep b r (gOf R) S least) none = accOf g1 l1 f1 ∧ OR wr w1.heap.size 3 A1 (intV l1) ∧ Has wr Zt 27 #[.int .i64 b, .int .i64 r, .slice AL R.length cL, .slice AS S.length cS] ∧ Below w0.heap.size w0 wr ∧ Below w1.heap.size w1 wr ∧ Below w6.heap.size w6 wr) (fun _ _ _ iv _ => N - (intOf iv).toNat)
  case atStart => exact ⟨0, 0, 0, false, some ⟨Ze, 0, none⟩, 0, [], Nat.zero_le _, rfl, rfl, rfl, rfl, rfl, Nat.zero_le _, rfl, .inl rfl, HX_t.out, ZB.out, ZW.out, ZL.out⟩
  clear HX_t ZB ZW ZL
  case round =>
    obtain ⟨k, n1, f1, g1, A1, c1, l1, hk, rfl, rfl, rfl, rfl, hl1, h14, hfd, hil, hzt, hz0, hz1, hzl⟩ := hrel
    have HL1 := Lib.hid hl1; have HFD := Lib.hid hfd; have HI_b := Lib.hid hil; have HX_t := Lib.hid hzt; have ZB := Lib.hid hz0; have ZW := Lib.hid hz1; have ZL := Lib.hid hzl; clear hl1 hfd hil hzt hz0 hz1 hzl
    have hswr := ZL.out.size
    have hltt : Zt < wr.heap.size := has_lt HX_t.out
    by_cases hlt : k < N
    · skip
      obtain ⟨bl, fl, xx, hAA, hblB, hxx, hl0⟩ := (HRW.out.below ZL.out).at_ (k := k) (by have := HN.out; omega)
      have hcap := HCA.out xx (List.mem_of_getElem? hxx)
      have hxil := HVL.out xx (List.mem_of_getElem? hxx)
      have hkx : (LL.map Rw.l)[k]? = some xx.l := by simp [hxx]
      obtain ⟨XA, xc, xl⟩ := xx
      dsimp only at hcap hxil hkx hl0
      obtain ⟨hx4, hxc, hxm⟩ := hcap
      unfold maxLen at hxm
      have HXC := Lib.hid (show xl.length ≤ xc ∧ xc ≤ maxLen from ⟨hxc, by unfold maxLen; omega⟩)
      have HXI := Lib.hid hxil; have HKX := Lib.hid hkx; have HNX := Lib.hid (fold_next hkx HFD.out); clear hxil hkx hxx
      subst hAA
      have hkN : (k : Int) < (N : Int) := by omega
      by_cases hxn : (xl.length : Int) < (least : Int)
      · skip
        have HST := Lib.hid (show bstep b r (gOf R) S least (accOf g1 l1 f1) xl = accOf g1 l1 f1 from if_pos (by omega))
        go_wp2_with fail
        go_roundw
        case rel => exact ⟨k + 1, n1, f1, g1, A1, c1, l1, by omega, by go_num, rfl, rfl, rfl, HL1.out, h14, HNX.out.trans HST.out, HI_b.out, HX_t.out, ZB.out, ZW.out, ZL.out⟩
        case measure => simp [intOf]; omega
      go_wp2_with fail
      have tc0 := has_cell HX_t.out 0 rfl; have tc1 := has_cell HX_t.out 1 rfl; have tc2 := has_cell HX_t.out 2 rfl; have tc3 := has_cell HX_t.out 3 rfl
      have tl := has_lt HX_t.out
      have S0 : (fun W : World => (W.cell? ⟨Zt, 0, none⟩ = some (.int .i64 b) ∧ W.cell? ⟨Zt, 1, none⟩ = some (.int .i64 r) ∧ W.cell? ⟨Zt, 2, none⟩ = some (.slice AL R.length cL) ∧ W.cell? ⟨Zt, 3, none⟩ = some (.slice AS S.length cS)) ∧ W.cell? ⟨bl, fl + k, none⟩ = some (.slice XA xl.length xc)) wr.drew := ⟨⟨tc0, tc1, tc2, tc3⟩, hl0⟩
      clear tc0 tc1 tc2 tc3 tl
      have HL0 := Lib.hid hl0; clear hl0
      refine wp_region_held_drew (S := (fun W : World => (W.cell? ⟨Zt, 0, none⟩ = some (.int .i64 b) ∧ W.cell? ⟨Zt, 1, none⟩ = some (.int .i64 r) ∧ W.cell? ⟨Zt, 2, none⟩ = some (.slice AL R.length cL) ∧ W.cell? ⟨Zt, 3, none⟩ = some (.slice AS S.length cS)) ∧ W.cell? ⟨bl, fl + k, none⟩ = some (.slice XA xl.length xc))) (by kernel_rfl) S0 (fun _ => ?_)
      obtain ⟨w7, hdw⟩ : ∃ q, q = wr.drew := ⟨_, rfl⟩
      rw [← hdw] at S0 ⊢
      have hb : Below wr.heap.size wr w7 := by rw [hdw]; exact (Below.refl _ _).drew
      clear hdw
      have hbr := hb
      have kk := HI_b.out.of_call hb; clear HI_b; have HI_b := Lib.hid kk; clear kk
      have kk := has_call HX_t.out hb; clear HX_t; have HX_t := Lib.hid kk; clear kk
      have kk := bthen ZB.out hb; clear ZB; have ZB := Lib.hid kk; clear kk
      have kk := bthen ZW.out hb; clear ZW; have ZW := Lib.hid kk; clear kk
      have kk := bthen ZL.out hb; clear ZL; have ZL := Lib.hid kk; clear kk
      have hsw7 := hb.size; clear hb
      refine any_take (i := 0) (some 38) (.agg #[.int .i64 b, .int .i64 r, .slice AL R.length cL, .slice AS S.length cS]) rfl rfl (by kernel_rfl) (by kernel_rfl) (by kernel_rfl) (fun _ _ _ h => h) rfl (fun W hSw => ?_) (S0) ?_
      · (try dsimp only at hSw); go_simp <;> with_reducible rfl
      try simp only [Act.put, List.setIfInBounds_toArray, List.set_cons_zero, List.set_cons_succ]
      refine any_take (i := 1) (some 39) (.slice (some ⟨bl, fl, none⟩) N cA) rfl rfl (by kernel_rfl) (by kernel_rfl) (by kernel_rfl) (fun _ _ _ h => h) rfl (fun W hSw => ?_) (S0) ?_
      · (try dsimp only at hSw); go_simp <;> with_reducible rfl
      try simp only [Act.put, List.setIfInBounds_toArray, List.set_cons_zero, List.set_cons_succ]
      refine any_take (i := 2) (some 40) (.int .i64 (k : Int)) rfl rfl (by kernel_rfl) (by kernel_rfl) (by kernel_rfl) (fun _ _ _ h => h) rfl (fun W hSw => ?_) (S0) ?_
      · (try dsimp only at hSw); go_simp <;> with_reducible rfl
      try simp only [Act.put, List.setIfInBounds_toArray, List.set_cons_zero, List.set_cons_succ]
      refine any_take (i := 3) (some 41) (.pointer (some ⟨bl, fl + k, none⟩)) rfl rfl (by kernel_rfl) (by kernel_rfl) (by kernel_rfl) (fun _ _ _ h => h) rfl (fun W hSw => ?_) (S0) ?_
      · (try dsimp only at hSw); go_simp <;> with_reducible rfl
      try simp only [Act.put, List.setIfInBounds_toArray, List.set_cons_zero, List.set_cons_succ]
      refine any_take (i := 4) (some 42) (.slice XA xl.length xc) rfl rfl (by kernel_rfl) (by kernel_rfl) (by kernel_rfl) (fun _ _ _ h => h) rfl (fun W hSw => ?_) (S0) ?_
      · (try dsimp only at hSw); go_simp <;> with_reducible rfl
      try simp only [Act.put, List.setIfInBounds_toArray, List.set_cons_zero, List.set_cons_succ]
      refine wpAnyH_ready (rs := [5]) (by kernel_rfl) (by simp) ?_
      refine AllReadyH.cons rfl (fun K hK => ?_) AllReadyH.nil
      go_simp
      go_at_call 35
      refine ((rideS_any w7 w7.heap.size b r AL AS cL cS R S XA xc xl (Nat.le_refl _) (rdIn_moreV (HIN.out.below ZB.out) ZB.out.size) (by unfold maxLen; omega) HXC.out (HXI.out.call ZL.out).il).mono (fun e w9 h9 => rideV2 h9)).mono ?_
      rintro e w8 ⟨yA, yn, yc, fv, gv, rfl, yo, hb⟩
      have HYO := Lib.hid yo; clear yo
      have hbr2 := bthen hbr hb
      have kk := HI_b.out.of_call hb; clear HI_b; have HI_b := Lib.hid kk; clear kk
      have kk := has_call HX_t.out hb; clear HX_t; have HX_t := Lib.hid kk; clear kk
      have kk := bthen ZB.out hb; clear ZB; have ZB := Lib.hid kk; clear kk
      have kk := bthen ZW.out hb; clear ZW; have ZW := Lib.hid kk; clear kk
      have kk := bthen ZL.out hb; clear ZL; have ZL := Lib.hid kk; clear kk
      have hsw8 := hb.size; clear hb
      have S1 : (fun W : World => (W.cell? ⟨Zt, 0, none⟩ = some (.int .i64 b) ∧ W.cell? ⟨Zt, 1, none⟩ = some (.int .i64 r) ∧ W.cell? ⟨Zt, 2, none⟩ = some (.slice AL R.length cL) ∧ W.cell? ⟨Zt, 3, none⟩ = some (.slice AS S.length cS)) ∧ W.cell? ⟨bl, fl + k, none⟩ = some (.slice XA xl.length xc)) w8 := ⟨⟨has_cell HX_t.out 0 rfl, has_cell HX_t.out 1 rfl, has_cell HX_t.out 2 rfl, has_cell HX_t.out 3 rfl⟩, (bold hbr2 _ _ (by omega)).trans HL0.out⟩
      have hl0 := S1.2
      go_wp2_with fail
      refine hK.out _ _ S1 (fun _ => ?_)
      clear hK K
      try simp only [Act.put, List.setIfInBounds_toArray, List.set_cons_zero, List.set_cons_succ]
      refine any_take (i := 6) (some 37) (.tuple #[.slice yA yn yc, .int .i64 fv, .bool gv]) rfl rfl (by kernel_rfl) (by kernel_rfl) (by kernel_rfl) (fun _ _ _ h => h) rfl (fun W hSw => ?_) (S1) ?_
      · (try dsimp only at hSw); go_simp <;> with_reducible rfl
      try simp only [Act.put, List.setIfInBounds_toArray, List.set_cons_zero, List.set_cons_succ]
      refine any_take (i := 7) (some 44) (.slice yA yn yc) rfl rfl (by kernel_rfl) (by kernel_rfl) (by kernel_rfl) (fun _ _ _ h => h) rfl (fun W hSw => ?_) (S1) ?_
      · (try dsimp only at hSw); go_simp <;> with_reducible rfl
      try simp only [Act.put, List.setIfInBounds_toArray, List.set_cons_zero, List.set_cons_succ]
      refine any_take (i := 8) (some 45) (.int .i64 fv) rfl rfl (by kernel_rfl) (by kernel_rfl) (by kernel_rfl) (fun _ _ _ h => h) rfl (fun W hSw => ?_) (S1) ?_
      · (try dsimp only at hSw); go_simp <;> with_reducible rfl
      try simp only [Act.put, List.setIfInBounds_toArray, List.set_cons_zero, List.set_cons_succ]
      refine any_take (i := 9) (some 46) (.bool gv) rfl rfl (by kernel_rfl) (by kernel_rfl) (by kernel_rfl) (fun _ _ _ h => h) rfl (fun W hSw => ?_) (S1) ?_
      · (try dsimp only at hSw); go_simp <;> with_reducible rfl
      try simp only [Act.put, List.setIfInBounds_toArray, List.set_cons_zero, List.set_cons_succ]
      refine any_take (i := 10) (some 12) (.slice yA yn yc) rfl rfl (by kernel_rfl) (by kernel_rfl) (by kernel_rfl) (fun _ _ _ h => h) rfl (fun W hSw => ?_) (S1) ?_
      · (try dsimp only at hSw); go_simp <;> with_reducible rfl
      try simp only [Act.put, List.setIfInBounds_toArray, List.set_cons_zero, List.set_cons_succ]
      refine any_take (i := 11) (some 13) (.int .i64 fv) rfl rfl (by kernel_rfl) (by kernel_rfl) (by kernel_rfl) (fun _ _ _ h => h) rfl (fun W hSw => ?_) (S1) ?_
      · (try dsimp only at hSw); go_simp <;> with_reducible rfl
      try simp only [Act.put, List.setIfInBounds_toArray, List.set_cons_zero, List.set_cons_succ]
      refine any_take (i := 12) (some 14) (.bool gv) rfl rfl (by kernel_rfl) (by kernel_rfl) (by kernel_rfl) (fun _ _ _ h => h) rfl (fun W hSw => ?_) (S1) ?_
      · (try dsimp only at hSw); go_simp <;> with_reducible rfl
      try simp only [Act.put, List.setIfInBounds_toArray, List.set_cons_zero, List.set_cons_succ]
      refine wpAnyH_done (by kernel_rfl) ?_ _
      clear S0 S1 hbr hbr2 HL0
      have hxil : OR w8 w1.heap.size 3 XA (intV xl) := or_lessV (HXI.out.call ZL.out).or_ hlo9
      have HXJ := Lib.hid hxil; clear hxil
      rcases HYO.out with ⟨rfl, hrn⟩ | ⟨rfl, dd, hrs, rfl⟩
      · skip
        have HRN := Lib.hid hrn; clear hrn
        have HST := Lib.hid (show bstep b r (gOf R) S least (accOf g1 l1 f1) xl = accOf g1 l1 f1 from by
          unfold bstep; rw [if_neg (by omega)]; rw [HRN.out])
        go_wp2_with fail
        go_roundw
        case rel => exact ⟨k + 1, n1, f1, g1, A1, c1, l1, by omega, by go_num, rfl, rfl, rfl, HL1.out, h14, HNX.out.trans HST.out, HI_b.out, HX_t.out, ZB.out, ZW.out, ZL.out⟩
        case measure => simp [intOf]; omega
      · skip
        obtain ⟨fv, hfv⟩ : ∃ q, dd.fin = q := ⟨_, rfl⟩
        rw [hfv]
        have HRS := Lib.hid hrs; have HFV := Lib.hid hfv; clear hrs hfv
        cases g1
        · skip
          have HST := Lib.hid (show bstep b r (gOf R) S least (accOf false l1 f1) xl = accOf true xl fv from by
            unfold bstep; rw [if_neg (by omega)]; rw [HRS.out]; simp only [accOf, HFV.out]; rfl)
          go_wp2_with fail
          go_roundw
          case rel => exact ⟨k + 1, xl.length, fv, true, XA, xc, xl, by omega, by go_num, rfl, rfl, rfl, rfl, hx4, HNX.out.trans HST.out, HXJ.out, HX_t.out, ZB.out, ZW.out, ZL.out⟩
          case measure => simp [intOf]; omega
        · skip
          by_cases h1 : (n1 : Int) < (xl.length : Int)
          · skip
            have HST := Lib.hid (show bstep b r (gOf R) S least (accOf true l1 f1) xl = accOf true xl fv from by
              unfold bstep; rw [if_neg (by omega)]; rw [HRS.out]; have h9 := HL1.out; simp only [accOf, HFV.out, if_true]; rw [if_pos (by omega)])
            go_wp2_with fail
            go_roundw
            case rel => exact ⟨k + 1, xl.length, fv, true, XA, xc, xl, by omega, by go_num, rfl, rfl, rfl, rfl, hx4, HNX.out.trans HST.out, HXJ.out, HX_t.out, ZB.out, ZW.out, ZL.out⟩
            case measure => simp [intOf]; omega
          by_cases h2 : (xl.length : Int) = (n1 : Int)
          · skip
            have h2b : ((xl.length : Int) == (n1 : Int)) = true := by simpa using h2
            have H2 := Lib.hid h2; clear h2
            by_cases h3 : fv < f1
            · skip
              have HST := Lib.hid (show bstep b r (gOf R) S least (accOf true l1 f1) xl = accOf true xl fv from by
                unfold bstep; rw [if_neg (by omega)]; rw [HRS.out]; have h9 := HL1.out; have h8 := H2.out; simp only [accOf, HFV.out, if_true]; rw [if_pos (by omega)])
              go_wp2_with fail
              go_roundw
              case rel => exact ⟨k + 1, xl.length, fv, true, XA, xc, xl, by omega, by go_num, rfl, rfl, rfl, rfl, hx4, HNX.out.trans HST.out, HXJ.out, HX_t.out, ZB.out, ZW.out, ZL.out⟩
              case measure => simp [intOf]; omega
            · skip
              have HST := Lib.hid (show bstep b r (gOf R) S least (accOf true l1 f1) xl = accOf true l1 f1 from by
                unfold bstep; rw [if_neg (by omega)]; rw [HRS.out]; have h9 := HL1.out; have h8 := H2.out; simp only [accOf, HFV.out, if_true]; rw [if_neg (by omega)])
              go_wp2_with fail
              go_roundw
              case rel => exact ⟨k + 1, n1, f1, true, A1, c1, l1, by omega, by go_num, rfl, rfl, rfl, HL1.out, h14, HNX.out.trans HST.out, HI_b.out, HX_t.out, ZB.out, ZW.out, ZL.out⟩
              case measure => simp [intOf]; omega
          · skip
            have h2b : ((xl.length : Int) == (n1 : Int)) = false := by simpa using h2
            have HST := Lib.hid (show bstep b r (gOf R) S least (accOf true l1 f1) xl = accOf true l1 f1 from by
              unfold bstep; rw [if_neg (by omega)]; rw [HRS.out]; have h9 := HL1.out; simp only [accOf, HFV.out, if_true]; rw [if_neg (by omega)])
            go_wp2_with fail
            go_roundw
            case rel => exact ⟨k + 1, n1, f1, true, A1, c1, l1, by omega, by go_num, rfl, rfl, rfl, HL1.out, h14, HNX.out.trans HST.out, HI_b.out, HX_t.out, ZB.out, ZW.out, ZL.out⟩
            case measure => simp [intOf]; omega
    have hfin : bestT b r (gOf R) S least = accOf g1 l1 f1 := by
      have h9 := HFD.out; rw [List.take_of_length_le (by have := HN.out; simp; omega), HTX.out] at h9; exact h9
    have HFN := Lib.hid hfin; clear hfin
    cases g1
    · skip
      go_wp2_with fail
      go_ret3
      exact ⟨none, 0, 0, [], false, rfl, (fun _ => ⟨rfl, rfl⟩), .inr ⟨HRB.out, HFN.out⟩, .inl rfl, Nat.zero_le _, ZW.out⟩
    · skip
      go_wp2_with fail
      go_ret3
      exact ⟨A1, c1, f1, l1, true, by rw [HL1.out]; rfl, (fun h => by cases h), .inr ⟨HRB.out, HFN.out⟩, HI_b.out, by rw [HL1.out]; exact h14, ZW.out⟩
end Go.Proofs.Ytfimdhbcifjioaa
