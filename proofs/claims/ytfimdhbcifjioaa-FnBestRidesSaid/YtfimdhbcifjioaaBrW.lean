/- Chapter 7: the walk of the law on the best rides. -/
import Derived.Test.YtfimdhbcifjioaaBrL
import Derived.Test.YtfimdhbcifjioaaHas
import Derived.Laws.OwnMore
import Derived.WalkLawsBesides
namespace Go.Proofs.Ytfimdhbcifjioaa
open Go.RowKit
set_option linter.unusedVariables false

theorem intV_snocB (l : List Int) (x : Int) : intV (l ++ [x]) = intV l ++ [.int .i64 x] := by simp [intV]
theorem own_nilB {w : World} {g base : Nat} {e : TypeId} {size : Nat} (h : Has w g e #[]) (hb : base ≤ g) : w.ownsRow base e size (.slice (some ⟨g, 0, none⟩) 0 0) 0 [] := ⟨by simp, .inr ⟨g, 0, #[], rfl, hb, h, by simp, by simp⟩⟩
theorem own_callB {w w' : World} {base : Nat} {e : TypeId} {size n : Nat} {v : Value} {xs : List Value} (h : w.ownsRow base e size v n xs) (hb : Below w.heap.size w w') : w'.ownsRow base e size v n xs := by
  obtain ⟨hlen, h | ⟨g, cap, cur, rfl, h1, h2, h3⟩⟩ := h
  · exact ⟨hlen, .inl h⟩
  · exact ⟨hlen, .inr ⟨g, cap, cur, rfl, h1, (hb.block g (Array.getElem?_eq_some_iff.1 h2).1).trans h2, h3⟩⟩
theorem src_intB {w : World} {g : Nat} {x : Int} {t : TypeId} (h : Has w g t #[.int .i64 x]) : Src w (some ⟨g, 0, none⟩) 1 1 [.int .i64 x] := by
  refine ⟨rfl, fun u hu => ?_, (fun e => by cases e), fun ad e j u hu => ?_⟩
  · simp at hu; subst hu; rfl
  · injection e with e; subst e
    rw [addW, Nat.zero_add, cell_of_row w g j _ t (0, 0) h]
    simpa using hu
theorem own_ilB {w : World} {base n c : Nat} {A : Option Addr} {l : List Int} (h : w.ownsRow base 3 1 (.slice A n c) n (intV l)) : IL w w.heap.size A l := by
  obtain ⟨A', c', h1, h2⟩ := or_own h
  injection h1 with h1 _ _; subst h1; exact h2.il
theorem below_growB {B : Nat} {a w w' : World} {row : Option Nat} (h : Below B a w) (hg : w.grownBy w' row) (hl : B ≤ w.heap.size) (hr : ∀ b, row = some b → B ≤ b) : Below B a w' :=
  ⟨hg.os.trans h.os, hg.tape.trans h.tape, hg.output.trans h.output, Nat.le_trans h.size hg.size, fun k hk => (hg.block k (by omega) (fun e => by have := hr k e.symm; omega)).trans (h.block k hk)⟩
theorem order_addB {n : Nat} {O : List Int} {p : Int} (h : orderT n O = true) (h0 : 0 ≤ p) (h1 : p < n) (hp : hasB O p = false) : orderT n (O ++ [p]) = true := by
  obtain ⟨h2, h3⟩ := (orderT_iff n O).1 h
  refine (orderT_iff n _).2 ⟨?_, fun x hx => ?_⟩
  · rw [List.nodup_append]
    refine ⟨h2, by simp, fun a ha b hb => ?_⟩
    rw [List.mem_singleton] at hb; subst hb
    intro e; subst e
    have : hasB O a = true := by
      unfold hasB; rw [List.any_eq_true]; exact ⟨a, ha, by simp⟩
    rw [hp] at this; cases this
  · rcases List.mem_append.1 hx with hx | hx
    · exact h3 x hx
    · rw [List.mem_singleton] at hx; subst hx; exact ⟨h0, h1⟩
theorem order_lenB {n : Nat} {O : List Int} (h : orderT n O = true) : O.length ≤ n := order_len (orderT_iff n O |>.1 h).1 (orderT_iff n O |>.1 h).2
set_option maxRecDepth 100000 in
set_option maxHeartbeats 16000000 in
theorem bests_walk (w : World) (A : Option Addr) (na ca : Nat) (hn : na ≤ maxLen) (hS : BS w w.heap.size A na) : Calls Try.prog 3 #[.slice A na ca] w fun e w' => e = .returned (.bool true) ∧ Below w.heap.size w w' := by
  have HS := Lib.hid hS; clear hS
  have HBG := Lib.hid (fun W => big_any W A na ca hn)
  have HDR := Lib.hid (fun W (h : BS W W.heap.size A na) => drawRound_any W A na ca hn h)
  clear hn
  obtain ⟨j0, hj0, hy0, hy1, hy2⟩ := info_parts intInfo
  have HJ0 := Lib.hid hj0; have HY0 := Lib.hid hy0; have HY1 := Lib.hid hy1; have HY2 := Lib.hid hy2; clear hj0 hy0 hy1 hy2
  by_cases hbig : (1048576 : Int) < na
  · have hd : decide ((1048576 : Int) < na) = true := by simpa using hbig
    have HD := Lib.hid hd; clear hd
    go_enter Try.func3, Try.ntmps3
    go_wp2_with (refine (HBG.out _).mono ?_; rintro e w' ⟨rfl, hw⟩; rw [hw, HD.out]; clear hw)
    go_ret
    exact ⟨rfl, Below.refl _ _⟩
  have hd : decide ((1048576 : Int) < na) = false := by simpa using hbig
  have HD := Lib.hid hd; clear hd hbig
  go_enter Try.func3, Try.ntmps3
  go_wp2_with (go_at_call 4; refine (HBG.out _).mono ?_; rintro e w' ⟨rfl, hw⟩; rw [hw, HD.out]; clear hw)
  refine (HDR.out w HS.out).mono ?_
  rintro e w1 ⟨b, r, AL, AS, cL, cS, R, S, rfl, hT, hS4, hin, zb0⟩
  obtain ⟨l, y, hv0, hF⟩ := best_facts hT
  obtain ⟨⟨a, x, q⟩, hvn⟩ : ∃ v, bestVal b r (gOf R) S S.length = v := ⟨_, rfl⟩
  rw [hvn] at hF; dsimp only at hF
  have hla : a.length ≤ 4 := by have h9 := bestT_len b r (gOf R) S S.length; rw [hvn] at h9; dsimp only at h9; omega
  have hll : l.length ≤ 4 := by have h9 := hF.len; omega
  have hrb : roundB b r (gOf R) S = true := (roundB_iff b r (gOf R) S).2 hT
  have hq : (q != ((l.length : Int) == (S.length : Int))) = false := by
    have h9 := hF.full
    by_cases e : l.length = S.length
    · rw [h9.2 e, e]; simp
    · have h8 : q = false := by cases q; rfl; exact absurd (h9.1 rfl) e
      rw [h8]; simp; omega
  have HIN := Lib.hid hin; have HT := Lib.hid hT; have HZ0 := Lib.hid zb0; have HF := Lib.hid hF; have HV0 := Lib.hid hv0; have HVN := Lib.hid hvn; have HRB := Lib.hid hrb; have HQ := Lib.hid hq
  have hw01 := zb0.size
  have HS4 := Lib.hid (show S.length ≤ 1048576 by omega)
  clear hin hT zb0 HBG HDR hF hv0 hvn hrb hq
  have ZB := Lib.hid (Below.refl w1.heap.size w1)
  go_upto_region 4 with fail
  generalize hX : (w1.alloc (.cells #[.int .i64 b, .int .i64 r, .slice AL R.length cL, .slice AS S.length cS] 27)) = w2
  have hb : Below w1.heap.size w1 w2 := by rw [← hX]; exact balloc _ _
  have hk : Has w2 w1.heap.size 27 #[.int .i64 b, .int .i64 r, .slice AL R.length cL, .slice AS S.length cS] := by rw [← hX]; exact has_new _ _ _
  clear hX
  have kk := bthen ZB.out hb; clear ZB; have ZB := Lib.hid kk; clear kk
  have hsw2 := hb.size; clear hb
  obtain ⟨Zt, hZe⟩ : ∃ q, w1.heap.size = q := ⟨_, rfl⟩
  rw [hZe] at hk ⊢
  have hltt : Zt < w2.heap.size := has_lt hk
  have HX := Lib.hid hk; clear hk
  clear hZe
  have tc0 := has_cell HX.out 0 rfl; have tc1 := has_cell HX.out 1 rfl; have tc2 := has_cell HX.out 2 rfl; have tc3 := has_cell HX.out 3 rfl
  have tl := has_lt HX.out
  go_wp2_with fail
  clear tc0 tc1 tc2 tc3 tl
  refine (bestI_any w2 w1.heap.size b r AL AS cL cS R S ZB.out.size (HIN.out.below ZB.out)).mono ?_
  rintro e w3 hans
  rw [HVN.out] at hans
  obtain ⟨A1, c1, rfl, hor, hb⟩ := hans
  dsimp only at hor ⊢
  have hR1 := Lib.hid hor.il; clear hor
  have kk := has_call HX.out hb; clear HX; have HX := Lib.hid kk; clear kk
  have kk := bthen ZB.out hb; clear ZB; have ZB := Lib.hid kk; clear kk
  have hsw3 := hb.size; clear hb
  have R1 := hR1; clear hR1
  have tc0 := has_cell HX.out 0 rfl; have tc1 := has_cell HX.out 1 rfl; have tc2 := has_cell HX.out 2 rfl; have tc3 := has_cell HX.out 3 rfl
  have tl := has_lt HX.out
  go_wp2_with fail
  clear tc0 tc1 tc2 tc3 tl
  refine (bestS_any w3 w1.heap.size b r AL AS cL cS R S ZB.out.size (HIN.out.below ZB.out) HS4.out).mono ?_
  rintro e w4 hans
  have hans := bestE_v hans
  rw [HVN.out] at hans
  obtain ⟨A2, c2, rfl, hor, hb⟩ := hans
  dsimp only at hor ⊢
  have hR2 := Lib.hid hor.il; clear hor
  have kk := has_call HX.out hb; clear HX; have HX := Lib.hid kk; clear kk
  have kk := (R1.out.below hb).more hb.size; clear R1; have R1 := Lib.hid kk; clear kk
  have kk := bthen ZB.out hb; clear ZB; have ZB := Lib.hid kk; clear kk
  have hsw4 := hb.size; clear hb
  have R2 := hR2; clear hR2
  have tc0 := has_cell HX.out 0 rfl; have tc1 := has_cell HX.out 1 rfl; have tc2 := has_cell HX.out 2 rfl; have tc3 := has_cell HX.out 3 rfl
  have tl := has_lt HX.out
  go_wp2_with fail
  clear tc0 tc1 tc2 tc3 tl
  refine (mostI_any w4 w1.heap.size b r AL AS cL cS R S ZB.out.size (HIN.out.below ZB.out)).mono ?_
  rintro e w5 hans
  rw [HV0.out] at hans
  obtain ⟨A3, c3, rfl, hor, hb⟩ := hans
  dsimp only at hor ⊢
  have hR3 := Lib.hid hor.il; clear hor
  have kk := has_call HX.out hb; clear HX; have HX := Lib.hid kk; clear kk
  have kk := (R1.out.below hb).more hb.size; clear R1; have R1 := Lib.hid kk; clear kk
  have kk := (R2.out.below hb).more hb.size; clear R2; have R2 := Lib.hid kk; clear kk
  have kk := bthen ZB.out hb; clear ZB; have ZB := Lib.hid kk; clear kk
  have hsw5 := hb.size; clear hb
  have R3 := hR3; clear hR3
  have tc0 := has_cell HX.out 0 rfl; have tc1 := has_cell HX.out 1 rfl; have tc2 := has_cell HX.out 2 rfl; have tc3 := has_cell HX.out 3 rfl
  have tl := has_lt HX.out
  go_wp2_with fail
  clear tc0 tc1 tc2 tc3 tl
  refine (mostS_any w5 w1.heap.size b r AL AS cL cS R S ZB.out.size (HIN.out.below ZB.out) HS4.out).mono ?_
  rintro e w6 hans
  have hans := bestE_v hans
  rw [HV0.out] at hans
  obtain ⟨A4, c4, rfl, hor, hb⟩ := hans
  dsimp only at hor ⊢
  have hR4 := Lib.hid hor.il; clear hor
  have kk := has_call HX.out hb; clear HX; have HX := Lib.hid kk; clear kk
  have kk := (R1.out.below hb).more hb.size; clear R1; have R1 := Lib.hid kk; clear kk
  have kk := (R2.out.below hb).more hb.size; clear R2; have R2 := Lib.hid kk; clear kk
  have kk := (R3.out.below hb).more hb.size; clear R3; have R3 := Lib.hid kk; clear kk
  have kk := bthen ZB.out hb; clear ZB; have ZB := Lib.hid kk; clear kk
  have hsw6 := hb.size; clear hb
  have R4 := hR4; clear hR4
  have nq : (q != q) = false := by simp
  have nx : (x != x) = false := by simp
  have ny : (y != y) = false := by simp
  have hxy : q = true → x = y := HF.out.same
  clear HQ
  have hfull := HF.out.full
  cases q
  case' false => have HQ1 := Lib.hid (show ((l.length : Int) == (S.length : Int)) = false by rw [beq_eq_false_iff_ne]; intro h; have := hfull.2 (by omega); cases this)
  case' true => have HQ1 := Lib.hid (show ((l.length : Int) == (S.length : Int)) = true by rw [beq_iff_eq]; have := hfull.1 rfl; omega)
  case' true => have hyx := (hxy rfl).symm; subst hyx; clear hxy
  all_goals clear hfull
  all_goals
    have tc0 := has_cell HX.out 0 rfl; have tc1 := has_cell HX.out 1 rfl; have tc2 := has_cell HX.out 2 rfl; have tc3 := has_cell HX.out 3 rfl
    have tl := has_lt HX.out
    go_wp2_with fail
    clear tc0 tc1 tc2 tc3 tl
    refine (sameL_any w6 w6.heap.size A1 A2 c1 c2 a (by omega) (Nat.le_refl _) R1.out R2.out).mono ?_
    rintro e w7 ⟨rfl, hb⟩
    have kk := has_call HX.out hb; clear HX; have HX := Lib.hid kk; clear kk
    have kk := (R1.out.below hb).more hb.size; clear R1; have R1 := Lib.hid kk; clear kk
    have kk := (R2.out.below hb).more hb.size; clear R2; have R2 := Lib.hid kk; clear kk
    have kk := (R3.out.below hb).more hb.size; clear R3; have R3 := Lib.hid kk; clear kk
    have kk := (R4.out.below hb).more hb.size; clear R4; have R4 := Lib.hid kk; clear kk
    have kk := bthen ZB.out hb; clear ZB; have ZB := Lib.hid kk; clear kk
    have hsw7 := hb.size; clear hb
    clear R1 R2
    have tc0 := has_cell HX.out 0 rfl; have tc1 := has_cell HX.out 1 rfl; have tc2 := has_cell HX.out 2 rfl; have tc3 := has_cell HX.out 3 rfl
    have tl := has_lt HX.out
    go_wp2_with fail
    clear tc0 tc1 tc2 tc3 tl
    refine (sameL_any w7 w7.heap.size A3 A4 c3 c4 l (by omega) (Nat.le_refl _) R3.out R4.out).mono ?_
    rintro e w8 ⟨rfl, hb⟩
    have kk := has_call HX.out hb; clear HX; have HX := Lib.hid kk; clear kk
    have kk := (R3.out.below hb).more hb.size; clear R3; have R3 := Lib.hid kk; clear kk
    have kk := (R4.out.below hb).more hb.size; clear R4; have R4 := Lib.hid kk; clear kk
    have kk := bthen ZB.out hb; clear ZB; have ZB := Lib.hid kk; clear kk
    have hsw8 := hb.size; clear hb
    clear R3
    have tc0 := has_cell HX.out 0 rfl; have tc1 := has_cell HX.out 1 rfl; have tc2 := has_cell HX.out 2 rfl; have tc3 := has_cell HX.out 3 rfl
    have tl := has_lt HX.out
    go_wp2_with fail
    clear tc0 tc1 tc2 tc3 tl
    refine (roundI_any w8 w1.heap.size b r AL AS cL cS R S ZB.out.size (HIN.out.below ZB.out)).mono ?_
    rintro e w9 ⟨rfl, hb⟩
    rw [HRB.out]
    have kk := has_call HX.out hb; clear HX; have HX := Lib.hid kk; clear kk
    have kk := (R4.out.below hb).more hb.size; clear R4; have R4 := Lib.hid kk; clear kk
    have kk := bthen ZB.out hb; clear ZB; have ZB := Lib.hid kk; clear kk
    have hsw9 := hb.size; clear hb
    have hq1 := HQ1.out; clear HQ1
    have tc0 := has_cell HX.out 0 rfl; have tc1 := has_cell HX.out 1 rfl; have tc2 := has_cell HX.out 2 rfl; have tc3 := has_cell HX.out 3 rfl
    have tl := has_lt HX.out
    go_wp2_with fail
    clear tc0 tc1 tc2 tc3 tl
    clear hq1
    clear nq nx ny
    try clear hxy
    go_loopw [17] (fun kv wr => ∃ k : Nat, k ≤ 256 ∧ kv = .int .i64 (k : Int) ∧ Has wr Zt 27 #[.int .i64 b, .int .i64 r, .slice AL R.length cL, .slice AS S.length cS] ∧ IL wr wr.heap.size A4 l ∧ Below w1.heap.size w1 wr) (fun kv _ => 256 - (intOf kv).toNat)
    case atStart => exact ⟨0, Nat.zero_le _, rfl, HX.out, R4.out, ZB.out⟩
    case round =>
      obtain ⟨k, hk, rfl, hx0, hil, hzb⟩ := hrel
      clear HX R4 ZB
      have HX := Lib.hid hx0; have R4 := Lib.hid hil; have ZB := Lib.hid hzb; clear hx0 hil hzb
      have hswr := ZB.out.size; have hltr : Zt < wr.heap.size := has_lt HX.out
      by_cases hlt : k < 256
      rotate_left
      · skip
        have tc0 := has_cell HX.out 0 rfl; have tc1 := has_cell HX.out 1 rfl; have tc2 := has_cell HX.out 2 rfl; have tc3 := has_cell HX.out 3 rfl
        have tl := has_lt HX.out
        go_wp2_with fail
        clear tc0 tc1 tc2 tc3 tl
        have hrl := R4.out
        have hri := rideI_any wr wr.heap.size b r AL AS cL cS R S A4 c4 l (Nat.le_refl _) (rdIn_more (HIN.out.below ZB.out) ZB.out.size) (by unfold maxLen; omega) hrl
        refine hri.mono ?_
        clear hri hrl
        rintro e u7 ⟨hans, hb⟩
        obtain ⟨d9, hd9, hf9⟩ := HF.out.ride
        rcases hans with ⟨hno, _⟩ | ⟨d, A5, c5, hsome, _, _, rfl⟩
        · rw [hd9] at hno; cases hno
        rw [hd9] at hsome; injection hsome with hsome; subst hsome
        rw [hf9]
        have ny : (y == y) = true := by simp
        have kk := bthen ZB.out hb; clear ZB; have ZB := Lib.hid kk; clear kk hb
        go_wp2_with fail
        go_ret
        exact ⟨rfl, HZ0.out.trans (ZB.out.mono hw01)⟩
      have hkd : decide ((k : Int) < 256) = true := by simpa using (show (k : Int) < 256 by omega)
      have hki : (k : Int) < 256 := by omega
      have tc0 := has_cell HX.out 0 rfl; have tc1 := has_cell HX.out 1 rfl; have tc2 := has_cell HX.out 2 rfl; have tc3 := has_cell HX.out 3 rfl
      have tl := has_lt HX.out
      go_wp2_with fail
      clear tc0 tc1 tc2 tc3 tl
      generalize hX : (wr.alloc (.cells #[] 3)) = v1
      have hb : Below wr.heap.size wr v1 := by rw [← hX]; exact balloc _ _
      have hk0 : Has v1 wr.heap.size 3 #[] := by rw [← hX]; exact has_new _ _ _
      clear hX
      have hR4v := R4.out.below hb
      have kk := has_call HX.out hb; clear HX; have HX := Lib.hid kk; clear kk
      have kk := (R4.out.below hb).more hb.size; clear R4; have R4 := Lib.hid kk; clear kk
      have kk := bthen ZB.out hb; clear ZB; have ZB := Lib.hid kk; clear kk
      have hsv1 := hb.size; clear hb
      obtain ⟨D, hD⟩ : ∃ D, wr.heap.size = D := ⟨_, rfl⟩
      have HO := Lib.hid (own_nilB (base := D) (size := 1) hk0 (Nat.le_of_eq hD.symm)); clear hk0
      have hDv : D ≤ v1.heap.size := by omega
      have hZD : Zt < D := by omega
      have hw1D : w1.heap.size ≤ D := by omega
      have kk : IL v1 D A4 l := by rw [← hD]; exact hR4v
      clear R4 hR4v; have R4 := Lib.hid kk; clear kk
      go_loopw [18, 19] (fun ov iv W => ∃ (i : Nat) (O : List Int) (AO : Option Addr) (cO : Nat), i ≤ 4 ∧ iv = .int .i64 (i : Int) ∧ ov = .slice AO O.length cO ∧ W.ownsRow D 3 1 (.slice AO O.length cO) O.length (intV O) ∧ orderT S.length O = true ∧ O.length ≤ i ∧ Has W Zt 27 #[.int .i64 b, .int .i64 r, .slice AL R.length cL, .slice AS S.length cS] ∧ IL W D A4 l ∧ Below w1.heap.size w1 W ∧ D ≤ W.heap.size) (fun _ iv _ => 4 - (intOf iv).toNat)
      case atStart => exact ⟨0, [], _, _, Nat.zero_le _, rfl, rfl, HO.out, (orderT_iff _ _).2 ⟨List.nodup_nil, fun x hx => by cases hx⟩, Nat.le_refl _, HX.out, R4.out, ZB.out, hDv⟩
      case round =>
        obtain ⟨i, O, AO, cO, hi, rfl, rfl, how, hor, hOl, hx0, hil, hzb, hwW⟩ := hrel
        clear HX R4 ZB HO
        have HX := Lib.hid hx0; have R4 := Lib.hid hil; have ZB := Lib.hid hzb; have HO := Lib.hid how; have HOR := Lib.hid hor; clear hx0 hil hzb how hor
        clear hDv hD
        have hsW := ZB.out.size; have hltW : Zt < wr.heap.size := has_lt HX.out
        by_cases hi4 : i < 4
        · skip
          obtain ⟨p, hp⟩ : ∃ p, bits BinOp.and IntKind.i64 ((k : Int) / 2 ^ (2 * i)) 3 = p := ⟨_, rfl⟩
          have hp0 : 0 ≤ p := by rw [← hp]; exact (mask3 _).1
          have hp3 : p ≤ 3 := by rw [← hp]; exact (mask3 _).2
          by_cases hpn : p < S.length
          rotate_left
          · skip
            have tc0 := has_cell HX.out 0 rfl; have tc1 := has_cell HX.out 1 rfl; have tc2 := has_cell HX.out 2 rfl; have tc3 := has_cell HX.out 3 rfl
            have tl := has_lt HX.out
            go_wp2_with fail
            clear tc0 tc1 tc2 tc3 tl
            go_roundw
            case rel => exact ⟨i + 1, O, AO, cO, by omega, by go_num, rfl, HO.out, HOR.out, by omega, HX.out, R4.out, ZB.out, hwW⟩
            case measure => simp [intOf]; omega
          have tc0 := has_cell HX.out 0 rfl; have tc1 := has_cell HX.out 1 rfl; have tc2 := has_cell HX.out 2 rfl; have tc3 := has_cell HX.out 3 rfl
          have tl := has_lt HX.out
          go_wp2_with fail
          clear tc0 tc1 tc2 tc3 tl
          try rw [hp]
          clear hp
          refine (hasL_any wr wr.heap.size AO cO O p (by omega) (Nat.le_refl _) (own_ilB HO.out)).mono ?_
          rintro e u1 ⟨rfl, hb⟩
          have kk := own_callB HO.out hb; clear HO; have HO := Lib.hid kk; clear kk
          have kk := R4.out.below (hb.mono hwW); clear R4; have R4 := Lib.hid kk; clear kk
          have kk := has_call HX.out hb; clear HX; have HX := Lib.hid kk; clear kk
          have kk := bthen ZB.out hb; clear ZB; have ZB := Lib.hid kk; clear kk
          have hwu : D ≤ u1.heap.size := by have := hb.size; omega
          clear hb
          have hlu := has_lt HX.out
          obtain ⟨hh, hhe⟩ : ∃ hh, hasB O p = hh := ⟨_, rfl⟩
          rw [hhe]
          have HHE := Lib.hid hhe; clear hhe
          cases hh
          rotate_left
          · skip
            have tc0 := has_cell HX.out 0 rfl; have tc1 := has_cell HX.out 1 rfl; have tc2 := has_cell HX.out 2 rfl; have tc3 := has_cell HX.out 3 rfl
            have tl := has_lt HX.out
            go_wp2_with fail
            clear tc0 tc1 tc2 tc3 tl
            go_roundw
            case rel => exact ⟨i + 1, O, AO, cO, by omega, by go_num, rfl, HO.out, HOR.out, by omega, HX.out, R4.out, ZB.out, hwu⟩
            case measure => simp [intOf]; omega
          have hsu := ZB.out.size
          have tc0 := has_cell HX.out 0 rfl; have tc1 := has_cell HX.out 1 rfl; have tc2 := has_cell HX.out 2 rfl; have tc3 := has_cell HX.out 3 rfl
          have tl := has_lt HX.out
          go_wp2_with (at_builtin; go_must (refine list_app rfl _ _ 29 rfl D 3 j0 (.int .i64 0) 1 8 Try.underlying29 HJ0.out HY0.out HY1.out HY2.out rfl (by decide) _ O.length _ rfl (HO.out.alloc _) (some ⟨u1.heap.size, 0, none⟩) 1 1 [.int .i64 p] rfl (src_intB (has_new _ _ _)) (by unfold maxLen; omega) (by omega) (by simp; omega) ?_))
          clear tc0 tc1 tc2 tc3 tl
          intro A6 c6 w6 hown6 hgrow6 hrow6
          have hbD : Below D u1 w6 := ((Below.refl D u1).alloc hwu _).grown hgrow6 (by simp; omega) (fun b hb => (hrow6 b hb).1)
          have hx6 := has_grown (has_alloc HX.out (.cells #[.int .i64 p] 3)) hgrow6 (fun e => by have := (hrow6 _ e.symm).1; omega)
          have hr6 := R4.out.below hbD
          have hz6 : Below w1.heap.size w1 w6 := ZB.out.trans (hbD.mono hw1D)
          have hw6 : D ≤ w6.heap.size := by have := hbD.size; omega
          have hor6 := order_addB HOR.out hp0 hpn HHE.out
          rw [← intV_snocB] at hown6
          have HO6 := Lib.hid hown6; have HX6 := Lib.hid hx6; have HR6 := Lib.hid hr6; have HZ6 := Lib.hid hz6; have HOR6 := Lib.hid hor6; clear hown6 hx6 hr6 hz6 hor6 hgrow6 hrow6 hbD
          go_wp2_with fail
          go_roundw
          case rel => exact ⟨i + 1, O ++ [p], A6, c6, by omega, by go_num, by rw [List.length_append]; rfl, by rw [List.length_append]; exact HO6.out, HOR6.out, by rw [List.length_append]; simp; omega, HX6.out, HR6.out, HZ6.out, hw6⟩
          case measure => simp [intOf]; omega
        have kk := R4.out.more hwW; clear R4; have R4 := Lib.hid kk; clear kk
        have tc0 := has_cell HX.out 0 rfl; have tc1 := has_cell HX.out 1 rfl; have tc2 := has_cell HX.out 2 rfl; have tc3 := has_cell HX.out 3 rfl
        have tl := has_lt HX.out
        go_wp2_with fail
        clear tc0 tc1 tc2 tc3 tl
        have hri := rideI_any wr wr.heap.size b r AL AS cL cS R S AO cO O (Nat.le_refl _) (rdIn_more (HIN.out.below ZB.out) ZB.out.size) (by unfold maxLen; omega) (own_ilB HO.out)
        refine hri.mono ?_
        clear hri
        rintro e u8 ⟨hans, hb⟩
        have HOI := Lib.hid (own_ilB HO.out); clear HO
        have kk := has_call HX.out hb; clear HX; have HX := Lib.hid kk; clear kk
        have kk := (R4.out.below hb).more hb.size; clear R4; have R4 := Lib.hid kk; clear kk
        have kk := (HOI.out.below hb).more hb.size; clear HOI; have HOI := Lib.hid kk; clear kk
        have kk := bthen ZB.out hb; clear ZB; have ZB := Lib.hid kk; clear kk
        have hsu8 := hb.size; clear hb
        have hbst := fun d h => HF.out.best O d HOR.out (order_lenB HOR.out) h
        rcases hans with ⟨hno, rfl⟩ | ⟨d, A5, c5, hsome, _, _, rfl⟩
        · clear hbst
          have tc0 := has_cell HX.out 0 rfl; have tc1 := has_cell HX.out 1 rfl; have tc2 := has_cell HX.out 2 rfl; have tc3 := has_cell HX.out 3 rfl
          have tl := has_lt HX.out
          go_wp2_with fail
          clear tc0 tc1 tc2 tc3 tl
          go_roundw
          case rel => exact ⟨k + 1, by omega, by go_num, HX.out, R4.out, ZB.out⟩
          case measure => simp [intOf]; omega
        obtain ⟨g1, g2, g3⟩ := hbst d hsome
        clear hbst hsome
        have ng1 : ¬ ((l.length : Int) < (O.length : Int)) := by omega
        clear g1
        by_cases c1 : O.length = l.length
        · have e1 : ((O.length : Int) == (l.length : Int)) = true := by rw [c1]; simp
          have ng2 : ¬ d.fin < y := fun h => g2 ⟨c1, h⟩
          clear g2
          by_cases c2 : d.fin = y
          · have e2 : (d.fin == y) = true := by rw [c2]; simp
            have g4 := g3 c1 c2; clear g3
            have HG := Lib.hid g4; clear g4 c2
            generalize d.fin = z at *
            clear c1
            have hOl4 : O.length ≤ 4 := by omega
            have tc0 := has_cell HX.out 0 rfl; have tc1 := has_cell HX.out 1 rfl; have tc2 := has_cell HX.out 2 rfl; have tc3 := has_cell HX.out 3 rfl
            have tl := has_lt HX.out
            go_wp2_with fail
            clear tc0 tc1 tc2 tc3 tl
            refine (befL_any u8 u8.heap.size AO A4 cO c4 O l (by omega) (by omega) (Nat.le_refl _) HOI.out R4.out).mono ?_
            rintro e u9 ⟨rfl, hb⟩
            rw [HG.out]
            have kk := has_call HX.out hb; clear HX; have HX := Lib.hid kk; clear kk
            have kk := (R4.out.below hb).more hb.size; clear R4; have R4 := Lib.hid kk; clear kk
            have kk := (HOI.out.below hb).more hb.size; clear HOI; have HOI := Lib.hid kk; clear kk
            have kk := bthen ZB.out hb; clear ZB; have ZB := Lib.hid kk; clear kk
            have hsu9 := hb.size; clear hb
            have tc0 := has_cell HX.out 0 rfl; have tc1 := has_cell HX.out 1 rfl; have tc2 := has_cell HX.out 2 rfl; have tc3 := has_cell HX.out 3 rfl
            have tl := has_lt HX.out
            go_wp2_with fail
            clear tc0 tc1 tc2 tc3 tl
            go_roundw
            case rel => exact ⟨k + 1, by omega, by go_num, HX.out, R4.out, ZB.out⟩
            case measure => simp [intOf]; omega
          · have e2 : (d.fin == y) = false := by simpa using c2
            clear g3 c1 c2
            generalize d.fin = z at *
            have tc0 := has_cell HX.out 0 rfl; have tc1 := has_cell HX.out 1 rfl; have tc2 := has_cell HX.out 2 rfl; have tc3 := has_cell HX.out 3 rfl
            have tl := has_lt HX.out
            go_wp2_with fail
            clear tc0 tc1 tc2 tc3 tl
            go_roundw
            case rel => exact ⟨k + 1, by omega, by go_num, HX.out, R4.out, ZB.out⟩
            case measure => simp [intOf]; omega
        · have e1 : ((O.length : Int) == (l.length : Int)) = false := by rw [beq_eq_false_iff_ne]; omega
          clear g2 g3 c1
          generalize d.fin = z at *
          have tc0 := has_cell HX.out 0 rfl; have tc1 := has_cell HX.out 1 rfl; have tc2 := has_cell HX.out 2 rfl; have tc3 := has_cell HX.out 3 rfl
          have tl := has_lt HX.out
          go_wp2_with fail
          clear tc0 tc1 tc2 tc3 tl
          go_roundw
          case rel => exact ⟨k + 1, by omega, by go_num, HX.out, R4.out, ZB.out⟩
          case measure => simp [intOf]; omega
end Go.Proofs.Ytfimdhbcifjioaa
