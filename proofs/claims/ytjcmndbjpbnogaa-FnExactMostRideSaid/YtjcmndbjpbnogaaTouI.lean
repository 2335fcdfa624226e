/- Chapter 7: marks over rounds (gen_toui.py). -/
import Derived.Test.YtjcmndbjpbnogaaTouH
import Derived.Deep.RegionHeld3
import Derived.Deep.DeepMust
import Derived.WalkLawsBesides
namespace Go.Proofs.Ytjcmndbjpbnogaa
open Go.RowKit
set_option linter.unusedVariables false

/-- the row can be marked -/
def RowCan (w : World) (lo hi : Nat) (x : Rw) : Prop := x.l = [] ∨ ∃ (g : Nat) (cur : Array Value), x.A = some ⟨g, 0, none⟩ ∧ lo ≤ g ∧ g < hi ∧ Has w g 3 cur ∧ x.l.length ≤ cur.size
/-- rows of numbers keep their sizes, other blocks what they hold -/
def KeepI (w w' : World) : Prop := ∀ (g : Nat) (cur : Array Value), Has w g 3 cur → ∃ cur', Has w' g 3 cur' ∧ cur'.size = cur.size
def KeepO (w w' : World) : Prop := ∀ (g : Nat) (t : TypeId) (cs : Array Value), Has w g t cs → t ≠ 3 → Has w' g t cs
theorem RowCan.keep {w w' : World} {lo hi : Nat} {x : Rw} (h : RowCan w lo hi x) (hk : KeepI w w') : RowCan w' lo hi x := by
  rcases h with h | ⟨g, cur, h1, h2, h3, h4, h5⟩
  · exact .inl h
  · obtain ⟨cur', h6, h7⟩ := hk g cur h4
    exact .inr ⟨g, cur', h1, h2, h3, h6, by omega⟩
theorem rowCan_of {w : World} {lo hi : Nat} {x : Rw} (h : OI w lo hi 3 x.A (intV x.l)) : RowCan w lo hi x := by
  rcases h with h | ⟨g, cur, h1, h2, h3, h4, h5⟩
  · exact .inl (intV_nil h)
  · rcases Nat.eq_zero_or_pos x.l.length with h0 | h0
    · exact .inl (List.eq_nil_of_length_eq_zero h0)
    · refine .inr ⟨g, cur, h1, h2, h3, h4, ?_⟩
      have := (Array.getElem?_eq_some_iff.1 (h5 _ _ (intV_at (List.getElem?_eq_getElem (show x.l.length - 1 < x.l.length by omega))))).1
      omega
set_option maxHeartbeats 1000000 in
theorem markCan_any (w : World) (lo hi : Nat) (x : Rw) (k0 : Int) (hl : x.l.length ≤ 1048576) (h0 : 0 ≤ k0) (h1 : k0 ≤ 1000000000) (h : RowCan w lo hi x) :
    Calls Try.prog 12 #[.slice x.A x.l.length x.c, .int .i64 k0] w fun e w' => e = .returned (.int .i64 (k0 + (x.l.length : Int))) ∧ Within lo hi w w' ∧ KeepI w w' ∧ KeepO w w' := by
  obtain ⟨A, c, l⟩ := x
  dsimp only at hl h ⊢
  rcases Nat.eq_zero_or_pos l.length with hz | hpos
  · obtain rfl := List.eq_nil_of_length_eq_zero hz
    go_enter Try.func12, Try.ntmps12
    go_wp2
    go_loopw [1, 5] (fun kv i wr => i = .int .i64 0 ∧ kv = .int .i64 k0 ∧ wr = w) (fun _ i _ => 0)
    case atStart => exact ⟨rfl, rfl, rfl⟩
    case round =>
      obtain ⟨rfl, rfl, rfl⟩ := hrel
      go_wp2
      go_ret
      exact ⟨ret_int (by simp), Within.of_below (Below.refl _ _), fun g cur h => ⟨cur, h, rfl⟩, fun g t cs h _ => h⟩
  rcases h with h | ⟨g, cur, hA, hlo, hhi, hH, hsz⟩
  · dsimp only at h; subst h; simp at hpos
  dsimp only at hA hsz
  subst hA
  have HH0 := Lib.hid hH; clear hH
  go_enter Try.func12, Try.ntmps12
  go_wp2
  go_loopw [1, 5] (fun kv i wr => ∃ (k : Nat) (cs : Array Value), k ≤ l.length ∧ i = .int .i64 k ∧ kv = .int .i64 (k0 + k) ∧ Has wr g 3 cs ∧ cs.size = cur.size ∧ Only w g wr) (fun _ i _ => l.length - (intOf i).toNat)
  case atStart => exact ⟨0, cur, Nat.zero_le _, rfl, by simp, HH0.out, rfl, only_refl _ _⟩
  case round =>
    obtain ⟨k, cs, hk, rfl, rfl, hH, hcs, ho⟩ := hrel
    by_cases hlt : k < l.length
    · obtain ⟨uc, huc⟩ : ∃ uc, cs[k]? = some uc := ⟨_, Array.getElem?_eq_getElem (by omega)⟩
      have hs0 := has_cell hH k huc
      clear huc
      have hf0 := has_free hH k
      have HH := Lib.hid hH; have HCS := Lib.hid hcs; clear hH hcs
      go_wp2
      go_roundw
      case rel => exact ⟨k + 1, _, by omega, by go_num, by go_num, has_set HH.out k _, by simp [HCS.out], only_set ho _ _⟩
      case measure => simp [intOf]; omega
    · go_wp2
      go_ret
      have hkl : k = l.length := by omega
      subst hkl
      refine ⟨rfl, ⟨⟨ho.os, ho.tape, ho.output, ho.size, fun k hk => absurd hk (by omega)⟩, fun k hk hor => ho.block k hk (fun e => by injection e with e; omega)⟩, fun g' cur' h' => ?_, fun g' t cs' h' hne => ?_⟩
      · by_cases e : g' = g
        · subst e
          have e2 := h'.symm.trans HH0.out
          injection e2 with e2; injection e2 with e2 _ _
          subst e2
          exact ⟨cs, hH, hcs⟩
        · exact ⟨cur', has_onl h' ho e, rfl⟩
      · have e : g' ≠ g := has_ne h' HH0.out hne
        exact has_onl h' ho e
set_option maxHeartbeats 2000000 in
theorem markIntSS_any (w : World) (lo hi : Nat) (A : Option Addr) (c : Nat) (R : List Rw) (k0 : Int) (hl : R.length + totR (gOf R) ≤ 1048576) (h0 : 0 ≤ k0) (h1 : k0 ≤ 100000000)
    (hrows : R = [] ∨ ∃ (g : Nat) (cs : Array Value), A = some ⟨g, 0, none⟩ ∧ Has w g 27 cs ∧ ∀ (j : Nat) (x : Rw), R[j]? = some x → cs[j]? = some (.slice x.A x.l.length x.c)) (hcan : ∀ x ∈ R, RowCan w lo hi x) :
    Calls Try.prog 26 #[.slice A R.length c, .int .i64 k0] w fun e w' => e = .returned (.int .i64 (k0 + (totR (gOf R) : Int))) ∧ Within lo hi w w' ∧ KeepO w w' := by
  rcases Nat.eq_zero_or_pos R.length with hz | hpos
  · obtain rfl := List.eq_nil_of_length_eq_zero hz
    go_enter Try.func26, Try.ntmps26
    go_wp2
    go_loopw [1, 5] (fun kv i wr => i = .int .i64 0 ∧ kv = .int .i64 k0 ∧ wr = w) (fun _ i _ => 0)
    case atStart => exact ⟨rfl, rfl, rfl⟩
    case round =>
      obtain ⟨rfl, rfl, rfl⟩ := hrel
      go_wp2
      go_ret
      exact ⟨ret_int (by simp [totR, gOf]), Within.of_below (Below.refl _ _), fun g t cs h _ => h⟩
  rcases hrows with h | ⟨g, cs, rfl, hH, hgot⟩
  · subst h; simp at hpos
  have HH0 := Lib.hid hH; have HG := Lib.hid hgot; have HC := Lib.hid hcan; clear hH hgot hcan
  go_enter Try.func26, Try.ntmps26
  go_wp2
  go_loopw [1, 5] (fun kv i wr => ∃ (k : Nat), k ≤ R.length ∧ i = .int .i64 k ∧ kv = .int .i64 (k0 + (totR (gOf (R.take k)) : Int)) ∧ totR (gOf (R.take k)) ≤ totR (gOf R) ∧ Within lo hi w wr ∧ KeepO w wr ∧ (∀ x ∈ R, RowCan wr lo hi x)) (fun _ i _ => R.length - (intOf i).toNat)
  case atStart => exact ⟨0, Nat.zero_le _, rfl, by simp [totR, gOf], by simp [totR, gOf], Within.of_below (Below.refl _ _), fun g t cs h _ => h, HC.out⟩
  case round =>
    obtain ⟨k, hk, rfl, rfl, htt, hw, hko, hcan⟩ := hrel
    have HW := Lib.hid hw; have HK := Lib.hid hko; have HCW := Lib.hid hcan; clear hw hko hcan
    by_cases hlt : k < R.length
    · have hx := List.getElem?_eq_getElem hlt
      obtain ⟨x, hxe⟩ : ∃ x, R[k] = x := ⟨_, rfl⟩
      rw [hxe] at hx; clear hxe
      have hs0 := has_cell (HK.out g _ _ HH0.out (by decide)) k (HG.out k x hx)
      have hlx : x.l.length ≤ totR (gOf R) := totR_mem (List.mem_map_of_mem (f := Rw.l) (List.mem_of_getElem? hx))
      have hts := totR_take hx
      have hts2 : totR (gOf (R.take (k + 1))) ≤ totR (gOf R) := by
        have e : totR (gOf R) = totR (gOf (R.take (k + 1))) + totR (gOf (R.drop (k + 1))) := by
          rw [show gOf R = gOf (R.take (k + 1)) ++ gOf (R.drop (k + 1)) by simp [gOf, ← List.map_append, List.take_append_drop], totR, totR, totR, List.map_append, List.sum_append]
        omega
      have HX := Lib.hid hx; have HTS := Lib.hid hts; have HT2 := Lib.hid hts2; clear hx hts hts2
      obtain ⟨u, hu⟩ : ∃ u, totR (gOf (R.take k)) = u := ⟨_, rfl⟩
      rw [hu] at htt ⊢
      have HU := Lib.hid hu; clear hu
      go_wp2_with fail
      refine (markCan_any wr lo hi x (k0 + (u : Int)) (by omega) (by omega) (by omega) (HCW.out x (List.mem_of_getElem? HX.out))).mono ?_
      rintro e w1 ⟨rfl, hw1, hk1, ho1⟩
      have HW1 := Lib.hid hw1; have HK1 := Lib.hid hk1; have HO1 := Lib.hid ho1; clear hw1 hk1 ho1
      go_wp2_with fail
      go_roundw
      case rel => exact ⟨k + 1, by omega, by go_num, by rw [HTS.out, HU.out]; congr 1; omega, HT2.out, HW.out.trans HW1.out, fun g t cs h hne => HO1.out g t cs (HK.out g t cs h hne) hne, fun x hx => (HCW.out x hx).keep HK1.out⟩
      case measure => simp [intOf]; omega
    · go_wp2
      go_ret
      have hkl : k = R.length := by omega
      subst hkl
      rw [List.take_length]
      exact ⟨rfl, HW.out, HK.out⟩
set_option maxHeartbeats 2000000 in
theorem markRound_any (w : World) (lo hi : Nat) (b r : Int) (AL AS : Option Addr) (cL cS : Nat) (R : List Rw) (S : List Sp) (k0 : Int) (hs : SmallRd R S) (h0 : 0 ≤ k0) (h1 : k0 ≤ 1000000) (hhi : hi ≤ w.heap.size) (h : RdCo w lo hi AL R AS S) :
    Calls Try.prog 11 #[.agg #[.int .i64 b, .int .i64 r, .slice AL R.length cL, .slice AS S.length cS], .int .i64 k0] w fun e w' => e = .returned (.int .i64 (k0 + (totR (gOf R) : Int) + 5 * (S.length : Int))) ∧ Within lo hi w w' := by
  unfold SmallRd at hs
  have HH := Lib.hid h; clear h
  go_enter Try.func11, Try.ntmps11
  go_wp2_with fail
  generalize hX : (w.alloc (.cells #[.int .i64 b, .int .i64 r, .slice AL R.length cL, .slice AS S.length cS] 32)) = w1
  have hb : Below w.heap.size w w1 := by rw [← hX]; exact balloc _ _
  have hk : Has w1 w.heap.size 32 #[.int .i64 b, .int .i64 r, .slice AL R.length cL, .slice AS S.length cS] := by rw [← hX]; exact has_new _ _ _
  clear hX
  have H1 := HH.out.call hb
  have hrw : R = [] ∨ ∃ (g : Nat) (cs : Array Value), AL = some ⟨g, 0, none⟩ ∧ Has w1 g 27 cs ∧ ∀ (j : Nat) (x : Rw), R[j]? = some x → cs[j]? = some (.slice x.A x.l.length x.c) := by
    rcases H1.rows with h | ⟨g, cs, e, _, _, h4, h5⟩
    · exact .inl h
    · exact .inr ⟨g, cs, e, h4, h5⟩
  refine (markIntSS_any w1 lo hi AL cL R k0 (by omega) h0 (by omega) hrw (fun x hx => rowCan_of (H1.vals x hx))).mono ?_
  rintro e w2 ⟨rfl, hw2, hk2⟩
  have hk3 := hk2 _ _ _ hk (by decide)
  have hst : OI w2 lo hi 60 AS (spV S) := by
    rcases H1.stops with h | ⟨g, cur, e, h2, h3, h4, h5⟩
    · exact .inl h
    · exact .inr ⟨g, cur, e, h2, h3, hk2 _ _ _ h4 (by decide), h5⟩
  have hc3 := has_cell hk3 3 rfl
  have hl3 := has_lt hk3
  have HB := Lib.hid (Within.trans (Within.of_below (lo := lo) (hi := hi) hb) hw2); have HST := Lib.hid hst
  clear hb hw2 hk2 hk hrw hst H1 hk3
  obtain ⟨u, hu⟩ : ∃ u, totR (gOf R) = u := ⟨_, rfl⟩
  rw [hu] at hs ⊢
  go_wp2_with fail
  refine (markStop_any w2 lo AS cS S (k0 + (u : Int)) (by omega) (by omega) (by omega) HST.out.or_).mono ?_
  rintro e w3 ⟨rfl, _, hm⟩
  have hw3 := within_marks HST.out hm
  have HW3 := Lib.hid hw3
  clear hm hw3 hc3
  go_wp2_with fail
  go_ret
  exact ⟨ret_int (by rw [hu]), HB.out.trans HW3.out⟩
/-- what a ride answers -/
def rideV (x : Option Dv) : List Int × Int × Bool := match x with | none => ([], 0, false) | some d => (d.begins, d.fin, true)
def AnsV (v : List Int × Int × Bool) (w : World) (e : Ending) (w' : World) : Prop := ∃ (A' : Option Addr) (c' : Nat), e = .returned (.tuple #[.slice A' v.1.length c', .int .i64 v.2.1, .bool v.2.2]) ∧ OR w' w.heap.size 3 A' (intV v.1) ∧ Below w.heap.size w w'

end Go.Proofs.Ytjcmndbjpbnogaa
