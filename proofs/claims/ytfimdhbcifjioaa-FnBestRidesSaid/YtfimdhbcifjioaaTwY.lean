/- Chapter 7: the program's yieldFrom: orders handed to the yield (gen_twy.py). -/
import Derived.Test.YtfimdhbcifjioaaTwU
import Derived.Test.YtfimdhbcifjioaaColP
import Derived.RangeFuncNested
import Derived.RangeFuncBound
import Derived.RangeFuncCalls
import Derived.RangeFuncLeaves
import Derived.Shelf.Abstract
import Derived.Shelf.RegionOpen
import Derived.OwnWalkIn
import Derived.TacticsInMore
import Derived.LoopNIn
import Derived.LoopIn
import Derived.Lib.SliceRun
import Derived.WalkSpells
import Derived.OwnWalk
import Derived.Deep.AppendLies
import Derived.Test.YtfimdhbcifjioaaTwZ
import Derived.Deep.RegionHeld3
import Derived.Deep.DeepMust
import Derived.WalkLawsBesides
namespace Go.Proofs.Ytfimdhbcifjioaa
open Go.RowKit
set_option linter.unusedVariables false

open Go.Shelf
attribute [local go_sem] Oper.semAt_some
theorem cell_in {w : World} {a : Addr} {v : Value} (h : w.cell? a = some v) : a.block < w.heap.size := by
  rcases Nat.lt_or_ge a.block w.heap.size with hlt | hge
  · exact hlt
  · unfold World.cell? at h
    rw [Array.getElem?_eq_none hge] at h
    simp at h
theorem src_keep {w w' : World} {A : Option Addr} {m size : Nat} {news : List Value} (h : Src w A m size news) (hb : Below w.heap.size w w') : Src w' A m size news :=
  ⟨h.len, h.one, h.nil, fun ad e j u hu => by
    have h1 := h.at_ ad e j u hu
    exact (hb.cell (p := ad.add j) (cell_in h1)).trans h1⟩
set_option maxRecDepth 100000 in
set_option maxHeartbeats 1000000 in
theorem cloneT_any (w : World) (A : Option Addr) (c dn : Nat) (l : List Int) (hd : l.length = dn) (hl : dn ≤ 1000) (hS : OR w 0 3 A (intV l)) :
    Calls Try.prog 50 #[.slice A dn c] w fun e w' => ∃ A' c', e = .returned (.slice A' dn c') ∧ w'.ownsRow w.heap.size 3 1 (.slice A' dn c') dn (intV l) ∧ Below w.heap.size w w' := by
  obtain ⟨i0, hi0, hz0, hz1, hz2⟩ := info_parts intInfo
  rcases A with _ | a
  · have hl0 : l = [] := by
      rcases hS with h | ⟨g, cur, e, _⟩
      · have := congrArg List.length h; rw [intV_len] at this; exact List.eq_nil_of_length_eq_zero (by simpa using this)
      · cases e
    subst hl0; obtain rfl : 0 = dn := hd
    have hn := fun (w : World) (n c n' c' : Nat) => Lib.run_eql_slice_nil (P := Try.prog) w 29 3 none n c n' c' Try.underlying29
    go_enter Try.func50, Try.ntmps50
    go_wp2
    go_ret
    exact ⟨none, 0, rfl, World.ownsRow_nil _ _ _ _, Below.refl _ _⟩
  · have HSR := Lib.hid (src_oi2 hd (OI.of_or hS)); clear hS
    have HOI := HSR
    have hn := fun (w : World) (n c n' c' : Nat) => Lib.run_eql_slice_nil (P := Try.prog) w 29 3 (some a) n c n' c' Try.underlying29
    go_enter Try.func50, Try.ntmps50
    obtain ⟨b9, off9, hb9⟩ : ∃ b9 off9, a = ⟨b9, off9, none⟩ ∨ True := ⟨0, 0, .inr trivial⟩
    go_wp2_with (at_builtin; go_must (refine wpList_append_own _ rfl _ _ 29 rfl w.heap.size 3 i0 (.int .i64 0) 1 8 Try.underlying29 hi0 hz0 hz1 hz2 rfl (by decide) _ _ _ rfl (World.ownsRow_lit (base := w.heap.size) (e := 3) (size := 1) w #[] 0 (Nat.le_refl _) (Nat.zero_le _) rfl) a dn c (intV l) rfl (by rw [intV_len, hd]; omega) (fun j u hu => (src_keep HSR.out (balloc w (.cells #[] 3))).at_ a rfl j u hu) HSR.out.one (by unfold maxLen; omega) (by omega) (by simp) ?_))
    intro v' w3 hown hgrow _
    obtain ⟨A', c', rfl, hor⟩ := or_own hown
    have HO := Lib.hid hown; clear hown hor
    go_wp2
    go_ret
    refine ⟨A', c', by simp, ?_, ?_⟩
    · have := HO.out; simpa using this
    · exact (balloc w (.cells #[] 3)).grown hgrow (by simp) (fun k hk => by simp [Value.ownBlock] at hk; omega)
theorem containsD {w : World} {A : Option Addr} {c dn : Nat} {l : List Int} (x : Int) (hd : l.length = dn) (hl : dn ≤ maxLen) (hS : OR w 0 3 A (intV l)) :
    Calls Try.prog 49 #[.slice A dn c, .int .i64 x] w fun e w' => e = .returned (.bool (l.contains x)) ∧ Below w.heap.size w w' := by
  subst hd; exact contains_any w w.heap.size A c l x hl (Nat.le_refl _) hS.il
/-- rows of numbers that lay are kept -/
structure KpI (W W' : World) : Prop where
  size : W.heap.size ≤ W'.heap.size
  keep : ∀ (g : Nat) (cs : Array Value), Has W g 3 cs → Has W' g 3 cs
theorem KpI.refl (W : World) : KpI W W := ⟨Nat.le_refl _, fun _ _ h => h⟩
theorem KpI.trans {a b c : World} (h : KpI a b) (k : KpI b c) : KpI a c := ⟨Nat.le_trans h.size k.size, fun g cs x => k.keep g cs (h.keep g cs x)⟩
theorem KpI.bel {w w' : World} (h : Below w.heap.size w w') : KpI w w' := ⟨h.size, fun g cs x => has_call x h⟩
theorem or_ki {w w' : World} {lo : Nat} {A : Option Addr} {xs : List Value} (h : OR w lo 3 A xs) (hk : KpI w w') : OR w' lo 3 A xs := by
  rcases h with h | ⟨b, cur, rfl, hb, hh, hc⟩
  · exact .inl h
  · exact .inr ⟨b, cur, rfl, hb, hk.keep _ _ hh, hc⟩
theorem or_lessU {w : World} {base lo : Nat} {e : TypeId} {A : Option Addr} {xs : List Value} (h : OR w base e A xs) (hl : lo ≤ base) : OR w lo e A xs := by
  rcases h with h | ⟨b, cur, rfl, hb, hh, hc⟩
  · exact .inl h
  · exact .inr ⟨b, cur, rfl, by omega, hh, hc⟩
theorem ab_bel {β : Type} {B : Nat} {J : β → World → Prop} (hJ : OwnFrom B J) {s : β} {w w' : World} (h : J s w) (hb : Below w.heap.size w w') : J s w' :=
  hJ s w w' none h ⟨hb.os, hb.tape, hb.output, hb.size, fun k hk _ => hb.block k hk⟩ (fun r e => by cases e)
def YF (n m : Nat) : Prop := ∀ (k l B0 lo : Nat) (J : List Rw → World → Prop), OwnFrom B0 J → (∀ pre x W1, J pre W1 → OR W1 lo 3 x.A (intV x.l) → x.l.length ≤ n ∧ orderT n x.l = true → YieldAt Fence.wide k Try.prog l #[.slice x.A x.l.length x.c] W1 fun e W' => e = .returned (.bool true) ∧ J (pre ++ [x]) W' ∧ KpI W1 W') →
  ∀ (W : World) (pre : List Rw) (dA : Option Addr) (dn dc : Nat) (done : List Int), done.length = dn → dn + m = n → orderT n done = true → lo ≤ W.heap.size → OR W lo 3 dA (intV done) → J pre W →
  CallsIn Fence.wide (k + 1) Try.prog 41 #[.slice dA dn dc, .int .i64 (n : Int), .func (.yield l) #[] #[]] W fun e W' => e = .returned (.bool true) ∧ ∃ T, ((⟨dA, dc, done⟩ : Rw) :: T).map Rw.l = ordsT n m done ∧ J (pre ++ (⟨dA, dc, done⟩ : Rw) :: T) W' ∧ KpI W W'
set_option maxRecDepth 100000 in
set_option maxHeartbeats 4000000 in
theorem yf_step (n m : Nat) (hn : n ≤ 6) (ih : ∀ m', m = m' + 1 → YF n m') : YF n m := by
  intro k l B0 lo J hJA hY W pre dA dn dc done hdl hdm hord hlo hdo hJ
  obtain ⟨i0, hi0, hz0, hz1, hz2⟩ := info_parts intInfo
  have h := hY pre ⟨dA, dc, done⟩ W hJ hdo ⟨by dsimp only; omega, hord⟩
  dsimp only at h
  rw [hdl] at h
  obtain ⟨fn, tmps, assign, body, hy, hR⟩ := h
  have IH := Lib.hid ih; have HDL := Lib.hid hdl; have HDM := Lib.hid hdm; have HOR := Lib.hid hord; have HJA := Lib.hid hJA; have HDO := Lib.hid hdo; have HY := Lib.hid hY
  have hI0 := Lib.hid hi0; have hZ0 := Lib.hid hz0; have hZ1 := Lib.hid hz1; have hZ2 := Lib.hid hz2
  have hdn : dn ≤ n := by omega
  clear ih hdl hdm hord hJA hdo hY hJ hi0 hz0 hz1 hz2
  refine callsIn_of_wp Try.func41 rfl trivial ?_ rfl
  simp only [Try.ntmps41, List.size_toArray, List.length_cons, List.length_nil, Nat.reduceAdd, Nat.reduceSub, Array.replicate_succ, Array.replicate_zero, List.push_toArray, List.append_toArray, List.nil_append, List.cons_append]
  have hk1 : k + 1 - 1 = k := rfl
  gi_wp2
  refine hR.mono ?_
  rintro e W3 ⟨rfl, hJ3, hk3⟩
  have HJ3 := Lib.hid hJ3; have HK3 := Lib.hid hk3; clear hJ3 hk3
  gi_wp2
  gi_loopw [13] (fun iv wr => ∃ (i : Nat) (T : List Rw), i ≤ n ∧ iv = .int .i64 (i : Int) ∧ T.map Rw.l = (List.range i).flatMap (subT n m done) ∧ J (pre ++ (⟨dA, dc, done⟩ : Rw) :: T) wr ∧ KpI W wr) (fun iv _ => n - (intOf iv).toNat)
  case atStart => exact ⟨0, [], Nat.zero_le _, rfl, rfl, HJ3.out, HK3.out⟩
  clear HJ3 HK3
  case round =>
    obtain ⟨i, T, hi, rfl, hT, hJ, hk⟩ := hrel
    have HT := Lib.hid hT; have HJ := Lib.hid hJ; have HK := Lib.hid hk; have HDO2 := Lib.hid (or_ki HDO.out hk); clear hT hJ hk hy hR
    by_cases hlt : i < n
    · have hltI : (i : Int) < (n : Int) := by omega
      gi_wp2_with (refine ⟨trivial, ?_⟩; gi_at_call 49; refine (callsIn_wide.2 (containsD (i : Int) HDL.out (by unfold maxLen; omega) (or_lessU HDO2.out (Nat.zero_le _)))).mono ?_)
      rintro e w1 ⟨rfl, hb1⟩
      have kk := ab_bel HJA.out HJ.out hb1; clear HJ; have HJ := Lib.hid kk; clear kk
      have kk := HK.out.trans (KpI.bel hb1); clear HK; have HK := Lib.hid kk; clear kk
      have kk := or_ki HDO2.out (KpI.bel hb1); clear HDO2; have HDO2 := Lib.hid kk; clear kk hb1
      cases hc : done.contains (i : Int)
      · have hmore := order_moreU HOR.out hlt hc
        have hlen := order_len ((orderT_iff _ _).1 hmore).1 ((orderT_iff _ _).1 hmore).2
        rw [List.length_append, HDL.out] at hlen
        simp at hlen
        obtain ⟨m', hm'⟩ : ∃ m', m = m' + 1 := ⟨m - 1, by have := HDM.out; omega⟩
        have HI := Lib.hid (IH.out m' hm')
        have HSUB := Lib.hid (show subT n m done i = ordsT n m' (done ++ [(i : Int)]) by rw [hm']; simp only [subT, hc]; rfl)
        have HDM2 := Lib.hid (show dn + 1 + m' = n by have := HDM.out; omega); have HMORE := Lib.hid hmore
        clear hmore hlen hm' hc
        gi_wp2_with (refine ⟨trivial, ?_⟩; gi_at_call 50; refine (callsIn_wide.2 (cloneT_any w1 dA dc dn done HDL.out (by omega) (or_lessU HDO2.out (Nat.zero_le _)))).mono ?_)
        rintro e w2 ⟨A2, c2, rfl, hown, hb2⟩
        have HOW := Lib.hid hown; have HB2 := Lib.hid hb2; have hz2 := hb2.size; clear hown hb2
        gi_wp2_with (gi_at_builtin; refine wpListIn_append_own _ rfl _ _ 29 rfl w1.heap.size 3 i0 (.int .i64 0) 1 8 Try.underlying29 hI0.out hZ0.out hZ1.out hZ2.out rfl (by decide) _ dn _ rfl (HOW.out.alloc _) ⟨w2.heap.size, 0, none⟩ 1 1 [.int .i64 (i : Int)] rfl rfl (fun j u hu => (src_one (x := (i : Int)) (has_new w2 3 #[.int .i64 (i : Int)])).at_ _ rfl j u hu) (fun u hu => by simp at hu; subst hu; rfl) (by unfold maxLen; omega) (by omega) (by simp; omega) ?_)
        intro v3 w3 hown3 hgrow3 hnil
        obtain ⟨A3, c3, rfl, hor⟩ := or_own hown3
        have hb3 : Below w1.heap.size w1 w3 := (HB2.out.trans ((balloc w2 (.cells #[.int .i64 (i : Int)] 3)).mono hz2)).grown hgrow3 (by simp; omega) (fun q hq => (HOW.out.lt q hq).1)
        have HOR3 := Lib.hid (or_lessU hor (show lo ≤ w1.heap.size by have := HK.out.size; omega)); have hlo3 : lo ≤ w3.heap.size := by have h8 := HK.out.size; have h9 := hb3.size; omega
        have kk := ab_bel HJA.out HJ.out hb3; clear HJ; have HJ := Lib.hid kk; clear kk
        have kk := HK.out.trans (KpI.bel hb3); clear HK; have HK := Lib.hid kk; clear kk
        have hlen3 : (done ++ [(i : Int)]).length = dn + 1 := by simp [HDL.out]
        have HL3 := Lib.hid hlen3
        clear hown3 hgrow3 hnil hor hb3 HOW HB2 hlen3 HDO2
        gi_wp2_with (refine ⟨trivial, ?_⟩; gi_at_call 41; refine (callsIn_wide.2 (callsIn_wide.1 (HI.out k l B0 lo J HJA.out HY.out w3 (pre ++ (⟨dA, dc, done⟩ : Rw) :: T) A3 (dn + 1) c3 (done ++ [(i : Int)]) HL3.out HDM2.out HMORE.out hlo3 (by simpa [intV] using HOR3.out) HJ.out))).mono ?_)
        rintro e w4 ⟨rfl, T2, hT2, hJ4, hk4⟩
        have hT4 : (T ++ (⟨A3, c3, done ++ [(i : Int)]⟩ : Rw) :: T2).map Rw.l = (List.range (i + 1)).flatMap (subT n m done) := by
          rw [List.map_append, HT.out, hT2, List.range_succ, List.flatMap_append, List.flatMap_cons, List.flatMap_nil, List.append_nil, HSUB.out]
        have hJ5 : J (pre ++ (⟨dA, dc, done⟩ : Rw) :: (T ++ (⟨A3, c3, done ++ [(i : Int)]⟩ : Rw) :: T2)) w4 := by simpa using hJ4
        have HT4 := Lib.hid hT4; have HJ5 := Lib.hid hJ5; have HK5 := Lib.hid (HK.out.trans hk4); clear hT4 hJ5 hJ4 hk4 hT2
        gi_wp2
        go_roundw
        case rel => exact ⟨i + 1, _, by omega, by go_num, HT4.out, HJ5.out, HK5.out⟩
        case measure => simp [intOf]; omega
      · have HSB0 := Lib.hid (show subT n m done i = [] by cases m with | zero => rfl | succ m => simp only [subT, hc]; rfl)
        clear hc
        gi_wp2
        go_roundw
        case rel => exact ⟨i + 1, T, by omega, by go_num, by rw [HT.out, List.range_succ, List.flatMap_append, List.flatMap_cons, List.flatMap_nil, List.append_nil, HSB0.out, List.append_nil], HJ.out, HK.out⟩
        case measure => simp [intOf]; omega
    · have HXX := Lib.hid (show ((⟨dA, dc, done⟩ : Rw) :: T).map Rw.l = ordsT n m done by rw [ordsT_sub, List.map_cons, HT.out, show i = n by omega])
      gi_wp2
      go_ret
      exact ⟨rfl, T, HXX.out, HJ.out, HK.out⟩
theorem yf_all (n : Nat) (hn : n ≤ 6) : ∀ m, YF n m
  | 0 => yf_step n 0 hn (fun m' h => by cases h)
  | m + 1 => yf_step n (m + 1) hn (fun m' h => by injection h with h; subst h; exact yf_all n hn _)
def ordE (x : Rw) : Array Value := #[.slice x.A x.l.length x.c]
def ordV (n lo : Nat) (x : Rw) (W : World) : Prop := OR W lo 3 x.A (intV x.l) ∧ x.l.length ≤ n ∧ orderT n x.l = true
set_option maxRecDepth 100000 in
set_option maxHeartbeats 2000000 in
theorem orders_goes (k n Bn lo : Nat) (hn : n ≤ 6) (w : World) (hlo : lo ≤ w.heap.size) (hB : Bn < w.heap.size) (hc : w.cell? ⟨Bn, 0, none⟩ = some (.int .i64 (n : Int))) :
    Goes k Try.prog 40 #[.pointer (some ⟨Bn, 0, none⟩)] ordE (ordV n lo) (fun _ => KpI) (fun xs => xs.map Rw.l = ordsT n n []) w := by
  intro l J W hW hJA hY hJ
  have hc2 := (hW.cell (p := ⟨Bn, 0, none⟩) hB).trans hc
  have hloW : lo ≤ W.heap.size + 1 := Nat.le_succ_of_le (Nat.le_trans hlo hW.size)
  have hBW : Bn < W.heap.size := Nat.lt_of_lt_of_le hB hW.size
  have hY2 : ∀ pre x W1, J pre W1 → OR W1 lo 3 x.A (intV x.l) → x.l.length ≤ n ∧ orderT n x.l = true → YieldAt Fence.wide k Try.prog l #[.slice x.A x.l.length x.c] W1 fun e W' => e = .returned (.bool true) ∧ J (pre ++ [x]) W' ∧ KpI W1 W' := fun pre x W1 h1 h2 h3 => hY pre x W1 h1 ⟨h2, h3⟩
  have HY := Lib.hid hY2; have HJA := Lib.hid hJA; have HJ := Lib.hid hJ; clear hY hY2 hJA hJ hW hc hB
  refine callsIn_of_wp Try.func40 rfl trivial ?_ rfl
  simp only [Try.ntmps40, List.size_toArray, List.length_cons, List.length_nil, Nat.reduceAdd, Nat.reduceSub, Array.replicate_succ, Array.replicate_zero, List.push_toArray, List.append_toArray, List.nil_append, List.cons_append]
  have hj1 := Lib.hid (ab_bel HJA.out HJ.out (balloc W (.cells #[] 3)))
  gi_wp2_with (refine ⟨trivial, ?_⟩; gi_at_call 41; refine (callsIn_wide.2 (callsIn_wide.1 (yf_all n hn n k l W.heap.size lo J HJA.out HY.out _ [] (some ⟨W.heap.size, 0, none⟩) 0 0 [] rfl (by omega) ((orderT_iff _ _).2 ⟨List.nodup_nil, fun x hx => by cases hx⟩) (by simpa using hloW) (.inl rfl) hj1.out))).mono ?_)
  rintro e w1 ⟨rfl, T, hT, hJ1, hk1⟩
  have HT := Lib.hid hT; have HJ1 := Lib.hid hJ1; clear hT hJ1 hk1
  gi_wp2
  go_end0
  exact ⟨⟨_, rfl⟩, _, HT.out, by simpa using HJ1.out⟩
end Go.Proofs.Ytfimdhbcifjioaa
