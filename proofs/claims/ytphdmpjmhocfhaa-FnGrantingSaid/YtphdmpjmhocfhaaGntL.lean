/- Chapter 5: the walk of the law FnGranting. -/
import Derived.Test.YtphdmpjmhocfhaaGrH
import Derived.Test.YtphdmpjmhocfhaaGntP
import Derived.Test.YtphdmpjmhocfhaaHas
import Derived.Test.YtphdmpjmhocfhaaHasG
import Derived.Test.YtphdmpjmhocfhaaGraU
import Derived.Test.YtphdmpjmhocfhaaPlb
namespace Go.Proofs.Ytphdmpjmhocfhaa
open Go.RowKit
set_option linter.unusedVariables false
def DGr2 (w : World) (e : Ending) (w' : World) : Prop :=
  ∃ (A : Option Addr) (c : Nat) (l : List Gr), e = .returned (.slice A l.length c) ∧ l.length ≤ 8 ∧ (∀ x ∈ l, sixB x) ∧ OR w' w.heap.size 29 A (grV l) ∧ Below w.heap.size w w'
set_option maxRecDepth 100000 in
set_option maxHeartbeats 4000000 in
theorem gntD_any (w : World) (A : Option Addr) (n c : Nat) (hn : n ≤ maxLen) (hS : BS w w.heap.size A n) : Calls Try.prog 5 #[.slice A n c] w (DGr2 w) := by
  have HS := Lib.hid hS; clear hS
  go_enter Try.func5, Try.ntmps5
  go_wp2_with fail
  refine (new_any w w.heap.size A n c hn (Nat.le_refl _) HS.out).mono ?_
  rintro e w1 ⟨rfl, hC1, hb1⟩
  have hlt1 := hC1.lt.2
  have C1 := Lib.hid hC1; have B1 := Lib.hid hb1; clear hC1 hb1
  go_wp2_with fail
  refine (grantsD_any w1 w.heap.size w.heap.size C1.out).mono ?_
  rintro e w2 ⟨v0, l, rfl, hl, hall, hown, hC2, hO2⟩
  obtain ⟨A0, c0, rfl, _⟩ := or_own hown
  have OW2 := Lib.hid hown; have O2 := Lib.hid hO2; have HALL := Lib.hid hall; clear hown hC2 hO2 C1 hall
  go_wp2_with fail
  go_ret
  exact ⟨A0, c0, l, rfl, hl, HALL.out, (own_or OW2.out).more (by omega), B1.out.trans (only_below O2.out (by omega) (Nat.le_refl _))⟩
theorem good_six {l : List Gr} {o k t : Int} (hl : grantsB l = true) (ho : 1 ≤ o ∧ o ≤ 40) (hk : 1 ≤ k ∧ k ≤ 40) (ht : 0 ≤ t ∧ t ≤ 20000) : goodB l o k 1 t = true := by
  unfold goodB; simp only [Bool.and_eq_true]
  exact ⟨⟨⟨⟨hl, inR_iff.2 ho⟩, inR_iff.2 hk⟩, by decide⟩, inR_iff.2 ht⟩
set_option maxRecDepth 100000 in
set_option maxHeartbeats 16000000 in
theorem granting_walk (w : World) (A : Option Addr) (na ca : Nat) (hn : na ≤ maxLen) (hS : BS w w.heap.size A na) : Calls Try.prog 3 #[.slice A na ca] w fun e w' => e = .returned (.bool true) ∧ Below w.heap.size w w' := by
  have HS := Lib.hid hS; clear hS
  have HBG := Lib.hid (fun W => big_any W A na ca hn)
  have HDR := Lib.hid (fun W (h : BS W W.heap.size A na) => gntD_any W A na ca hn h)
  have HPL := Lib.hid (fun W (h : BS W W.heap.size A na) => places_any W A na ca hn h)
  clear hn
  by_cases hbig : (1048576 : Int) < na
  · have hd : decide ((1048576 : Int) < na) = true := by simpa using hbig
    have HD := Lib.hid hd; clear hd
    go_enter Try.func3, Try.ntmps3
    go_wp2_with (refine (HBG.out _).mono ?_; rintro e w' ⟨rfl, hw⟩; rw [hw, HD.out]; clear hw)
    go_ret
    exact ⟨rfl, Below.refl _ _⟩
  have hd : decide ((1048576 : Int) < na) = false := by simpa using hbig
  have HD := Lib.hid hd; clear hd hbig
  go_enter Try.func3, Try.ntmps3
  go_wp2_with (go_at_call 4; refine (HBG.out _).mono ?_; rintro e w' ⟨rfl, hw⟩; rw [hw, HD.out]; clear hw)
  refine (HDR.out w HS.out).mono ?_
  rintro e w1 ⟨A0, c0, l, rfl, hl, hall, hor, hb⟩
  have hs1 := hb.size
  have HG := Lib.hid hor.gr; have ZB := Lib.hid hb; have HALL := Lib.hid hall; clear hor hb hall
  have hl2 : l.length ≤ 1048576 := by omega
  go_wp2_with fail
  refine (HPL.out w1 ((HS.out.below ZB.out).below' hs1)).mono ?_
  rintro e w2 ⟨kb, kc, kl, rfl, hk12, hkall, hkc, hklt, hkge, hb⟩
  have hs2 := hb.size
  have Z2 := Lib.hid hb; clear hb
  obtain ⟨x0, hx0⟩ : ∃ x, kl[0]? = some x := ⟨_, List.getElem?_eq_getElem (by omega)⟩
  obtain ⟨x1, hx1⟩ : ∃ x, kl[1]? = some x := ⟨_, List.getElem?_eq_getElem (by omega)⟩
  obtain ⟨x2, hx2⟩ : ∃ x, kl[2]? = some x := ⟨_, List.getElem?_eq_getElem (by omega)⟩
  obtain ⟨x3, hx3⟩ : ∃ x, kl[3]? = some x := ⟨_, List.getElem?_eq_getElem (by omega)⟩
  obtain ⟨r00, _⟩ := hkall x0 (List.mem_of_getElem? hx0)
  obtain ⟨r10, _⟩ := hkall x1 (List.mem_of_getElem? hx1)
  obtain ⟨r20, _⟩ := hkall x2 (List.mem_of_getElem? hx2)
  obtain ⟨r30, _⟩ := hkall x3 (List.mem_of_getElem? hx3)
  have y0 := hkc 0 x0 hx0; have y1 := hkc 1 x1 hx1; have y2 := hkc 2 x2 hx2; have y3 := hkc 3 x3 hx3
  obtain ⟨a, ha, ha0, ha1⟩ : ∃ a : Int, x0.tmod 6 = a ∧ 0 ≤ a ∧ a ≤ 5 := ⟨_, rfl, by rw [Int.tmod_eq_emod_of_nonneg r00]; omega, by rw [Int.tmod_eq_emod_of_nonneg r00]; omega⟩
  obtain ⟨b, hb, hb0, hb1⟩ : ∃ a : Int, x1.tmod 6 = a ∧ 0 ≤ a ∧ a ≤ 5 := ⟨_, rfl, by rw [Int.tmod_eq_emod_of_nonneg r10]; omega, by rw [Int.tmod_eq_emod_of_nonneg r10]; omega⟩
  obtain ⟨t, ht, ht0, ht1⟩ : ∃ a : Int, x2.tmod 40 = a ∧ 0 ≤ a ∧ a ≤ 39 := ⟨_, rfl, by rw [Int.tmod_eq_emod_of_nonneg r20]; omega, by rw [Int.tmod_eq_emod_of_nonneg r20]; omega⟩
  obtain ⟨d, hd, hd0, hd1⟩ : ∃ a : Int, x3.tmod 3 = a ∧ 0 ≤ a ∧ a ≤ 2 := ⟨_, rfl, by rw [Int.tmod_eq_emod_of_nonneg r30]; omega, by rw [Int.tmod_eq_emod_of_nonneg r30]; omega⟩
  obtain ⟨o, ho⟩ : ∃ o, 1 + a = o := ⟨_, rfl⟩
  obtain ⟨k, hk⟩ : ∃ k, 1 + b = k := ⟨_, rfl⟩
  have wo : IntKind.i64.wrap (1 + a) = o := by rw [IntWalk.i64_in _ (by omega)]; exact ho
  have wk : IntKind.i64.wrap (1 + b) = k := by rw [IntWalk.i64_in _ (by omega)]; exact hk
  have oR : 1 ≤ o ∧ o ≤ 6 := by omega
  have kR : 1 ≤ k ∧ k ≤ 6 := by omega
  clear hx0 hx1 hx2 hx3 hkall hkc
  go_wp2_with fail
  generalize hX : (w2.alloc _) = w3
  have hb3 : Below w2.heap.size w2 w3 := by rw [← hX]; exact balloc _ _
  have kx : Has w3 w2.heap.size 29 #[.int .i64 k, .int .i64 30, .int .i64 0, .int .i64 d, .int .i64 0, .int .i64 100, .bool false] := by rw [← hX]; exact has_new _ _ _
  clear hX ha hb ht hd ho hk wo wk y0 y1 y2 y3 r00 r10 r20 r30
  obtain ⟨bx, hbxe⟩ : ∃ bx, w2.heap.size = bx := ⟨_, rfl⟩
  have hs3 := hb3.size
  have Z3 := Lib.hid (bthen Z2.out hb3); clear hb3 Z2
  rw [hbxe] at kx ⊢
  have hlx := has_lt kx
  have hall := HALL.out
  have hgl : grantsB l = true := by
    unfold grantsB; rw [Bool.and_eq_true]; exact ⟨by simpa using (show l.length ≤ 30 by omega), by rw [List.all_eq_true]; exact fun x hx => (hall x hx).1⟩
  obtain ⟨g, hgd⟩ : ∃ g : Gr, (⟨k, 30, 0, d, 0, 100, false⟩ : Gr) = g := ⟨_, rfl⟩
  have hgB : grantB g = true := by rw [← hgd]; exact grant_ok (by omega)
  obtain ⟨l', hl'⟩ : ∃ l', l ++ [g] = l' := ⟨_, rfl⟩
  have hll : l'.length = l.length + 1 := by rw [← hl']; simp
  have hl3 : l'.length ≤ 1048576 := by omega
  have hgl' : grantsB l' = true := by
    unfold grantsB; rw [Bool.and_eq_true]; refine ⟨by simpa using (show l'.length ≤ 30 by omega), ?_⟩
    rw [List.all_eq_true, ← hl']; intro x hx
    rcases List.mem_append.1 hx with h | h
    · exact (hall x h).1
    · rw [List.mem_singleton] at h; subst h; exact hgB
  have HAD := Lib.hid (show addG l ⟨k, 30, 0, d, 0, 100, false⟩ = (l', true) by rw [hgd, addG_yes hgl (by omega) hgB (by rw [← hgd]), hl'])
  have hgw := good_six (o := o) (k := k) (t := t) hgl (by omega) (by omega) (by omega)
  have hg30 := good_six (o := o) (k := 30) (t := t) hgl' (by omega) (by omega) (by omega)
  obtain ⟨sp, hsp0⟩ : ∃ sp, spareV l o k 1 t = sp := ⟨_, rfl⟩
  have hga : appB 1 t g = true := by
    have h1 : decide ((0 : Int) ≤ t) = true := decide_eq_true (by omega)
    have h2 : decide (t < (100 : Int)) = true := decide_eq_true (by omega)
    unfold appB; rw [hgB, ← hgd]; simp [h1, h2]
  have hnew := spare_new (l := l) (g := g) (owner := o) (p := 1) (t := t) (d := d) (fun q hq => ⟨(hall q hq).2.1, (hall q hq).2.2.1⟩) (by rw [← hgd]; exact ⟨kR.2, by show (6 : Int) < 30; decide⟩) (by rw [← hgd]) (by omega) hga oR.2 (by rw [← hgd]; exact hgw) (by rw [← hgd] at hl' ⊢; rw [hl']; exact hg30)
  rw [hl', ← hgd] at hnew
  dsimp only at hnew
  rw [hsp0] at hnew
  have HNEW := Lib.hid hnew; clear hnew
  have HM := Lib.hid (show mayB l o k 1 t = decide (0 ≤ sp) by rw [← hsp0]; exact (spare_may hgw).symm)
  have HSELF := Lib.hid (show o = k → sp = 5 from fun e => by rw [← hsp0]; subst e; exact spare_self hgw)
  have hspr : -1 ≤ sp ∧ sp ≤ 5 := by
    rw [← hsp0, spareV_good hgw]
    have := spareG_is (f := shortF l o k 1 t) (fun a b hab h => shortF_mono hab h) 6
    omega
  have HF0 := Lib.hid (show mayB l o 30 1 t = false from may_far (fun q hq => (hall q hq).2.2.1) (by omega) oR.2)
  have HMORE := Lib.hid (show ∀ p : Int, mayB l o p 1 t = true → mayB l' o p 1 t = true from fun p h => may_more (fun q hq => by rw [← hl']; exact List.mem_append_left _ hq) hgl' h)
  have HSP := Lib.hid hsp0
  clear hsp0 hga hg30 hgw hgl' hgB hgl hall hgd hl' HALL hll
  have z0 := has_cell kx 0 rfl; have z1 := has_cell kx 1 rfl; have z2 := has_cell kx 2 rfl; have z3 := has_cell kx 3 rfl; have z4 := has_cell kx 4 rfl; have z5 := has_cell kx 5 rfl; have z6 := has_cell kx 6 rfl
  have KX := Lib.hid kx; clear kx
  go_wp2_with fail
  clear z0 z1 z2 z3 z4 z5 z6
  refine (addI_any w3 w1.heap.size A0 c0 l k 30 0 d 0 100 false hl2 (by omega) (HG.out.below Z3.out)).mono ?_
  rintro e w4 hans
  rw [HAD.out] at hans; obtain ⟨A2, c2, rfl, hP, hb⟩ := hans
  dsimp only at hP ⊢
  have hs4 := hb.size
  have kx := has_call KX.out hb; clear KX
  have Z4 := Lib.hid (bthen Z3.out hb); have H2 := Lib.hid hP.gr; clear hb hP Z3
  have z0 := has_cell kx 0 rfl; have z1 := has_cell kx 1 rfl; have z2 := has_cell kx 2 rfl; have z3 := has_cell kx 3 rfl; have z4 := has_cell kx 4 rfl; have z5 := has_cell kx 5 rfl; have z6 := has_cell kx 6 rfl
  have hlx := has_lt kx
  have KX := Lib.hid kx; clear kx
  go_wp2_with fail
  clear z0 z1 z2 z3 z4 z5 z6
  refine (addS_any w4 w1.heap.size A0 c0 l k 30 0 d 0 100 false hl2 (by omega) (HG.out.below Z4.out)).mono ?_
  rintro e w8 hans
  rw [HAD.out] at hans; obtain ⟨A3, c3, rfl, hP, hb⟩ := hans
  dsimp only at hP ⊢
  have hs8 := hb.size
  have kx := has_call KX.out hb; clear KX
  have Z8 := Lib.hid (bthen Z4.out hb); have H3 := Lib.hid hP.gr; have H28 := Lib.hid ((H2.out.below hb).more hs8); clear hb hP Z4 H2
  have hlx := has_lt kx
  have KX := Lib.hid kx; clear kx
  go_wp2_with fail
  refine (sameG_any w8 w8.heap.size A2 A3 c2 c3 l' hl3 (Nat.le_refl _) H28.out H3.out).mono ?_
  rintro e w9 ⟨rfl, hb⟩
  have hs9 := hb.size
  have Z9 := Lib.hid (bthen Z8.out hb); have X9 := Lib.hid hb; clear hb H28
  go_wp2_with fail
  refine (spareI_any w9 w1.heap.size A0 c0 l o k 1 t hl2 (by have := Z9.out.size; omega) (HG.out.below Z9.out)).mono ?_
  rintro e w10 ⟨rfl, hb⟩
  rw [HSP.out]
  have hs10 := hb.size
  have Z10 := Lib.hid (bthen Z9.out hb); have X10 := Lib.hid (bthen X9.out hb); clear hb Z9 X9
  go_wp2_with fail
  refine (spareS_any w10 w1.heap.size A0 c0 l o k 1 t hl2 (by have := Z10.out.size; omega) (HG.out.below Z10.out)).mono ?_
  rintro e w11 ⟨rfl, hb⟩
  rw [HSP.out]
  have hs11 := hb.size
  have Z11 := Lib.hid (bthen Z10.out hb); have X11 := Lib.hid (bthen X10.out hb); clear hb Z10 X10
  have hee : (sp == sp) = true := beq_self_eq_true _
  go_wp2_with fail
  refine (mayI_any w11 w1.heap.size A0 c0 l o k 1 t hl2 (by have := Z11.out.size; omega) (HG.out.below Z11.out)).mono ?_
  rintro e w12 ⟨rfl, hb⟩
  rw [HM.out]
  have hs12 := hb.size
  have Z12 := Lib.hid (bthen Z11.out hb); have X12 := Lib.hid (bthen X11.out hb); clear hb Z11 X11 hee
  have hdd : (decide (0 ≤ sp) == decide (0 ≤ sp)) = true := beq_self_eq_true _
  have hok : ((o == k) = false) ∨ (o = k ∧ sp = 5) := by
    by_cases e : o = k
    · exact .inr ⟨e, HSELF.out e⟩
    · exact .inl (by rw [beq_eq_false_iff_ne]; exact e)
  have GOAL := hok
  clear GOAL
  rcases hok with hok | ⟨hok, hs5⟩
  · skip
    go_wp2_with fail
    go_loopw [14] (fun i wr => ∃ p : Int, i = .int .i64 p ∧ 1 ≤ p ∧ p ≤ 8 ∧ Below w12.heap.size w12 wr) (fun i _ => (8 - intOf i).toNat)
    case atStart => exact ⟨1, rfl, by omega, by omega, Below.refl _ _⟩
    case round =>
      obtain ⟨p, rfl, hp1, hp8, hbr⟩ := hrel
      have hsr := hbr.size
      have ZR := Lib.hid (bthen Z12.out hbr); have XR := Lib.hid (bthen X12.out hbr); have HBR := Lib.hid hbr; clear hbr
      have hzs := ZR.out.size
      have hsr8 : w8.heap.size ≤ wr.heap.size := by have := XR.out.size; omega
      by_cases hp : p ≤ 7
      · cases hm1 : mayB l o p 1 t
        · have HM1 := Lib.hid hm1; clear hm1
          go_wp2_with fail
          refine (mayI_any wr w1.heap.size A0 c0 l o p 1 t hl2 (by omega) (HG.out.below ZR.out)).mono ?_
          rintro e w13 ⟨rfl, hb⟩
          rw [HM1.out]
          have B13 := Lib.hid (bthen HBR.out hb); clear hb
          go_wp2_with fail
          go_roundw
          case rel => exact ⟨p + 1, by go_num, by omega, by omega, B13.out⟩
          case measure => simp [intOf]; omega
        · have HM1 := Lib.hid hm1; have HM2 := Lib.hid (HMORE.out p hm1); clear hm1
          go_wp2_with fail
          refine (mayI_any wr w1.heap.size A0 c0 l o p 1 t hl2 (by omega) (HG.out.below ZR.out)).mono ?_
          rintro e w13 ⟨rfl, hb⟩
          rw [HM1.out]
          have hs13 := hb.size
          have B13 := Lib.hid (bthen HBR.out hb); have X13 := Lib.hid (bthen XR.out hb); clear hb
          go_wp2_with fail
          refine (mayI_any w13 w8.heap.size A3 c3 l' o p 1 t hl3 (by omega) (H3.out.below X13.out)).mono ?_
          rintro e w14 ⟨rfl, hb⟩
          rw [HM2.out]
          have B14 := Lib.hid (bthen B13.out hb); clear hb
          go_wp2_with fail
          go_roundw
          case rel => exact ⟨p + 1, by go_num, by omega, by omega, B14.out⟩
          case measure => simp [intOf]; omega
      · have hbx : bx < wr.heap.size := by omega
        have hcd : wr.cell? ⟨bx, 3, none⟩ = some (.int .i64 d) := has_cell (has_below KX.out XR.out hlx) 3 rfl
        have H3R := Lib.hid (H3.out.below XR.out)
        by_cases hsp : (1 : Int) ≤ sp
        · have HNW := Lib.hid (show mayB l' o 30 1 t = true by rw [HNEW.out.1]; exact decide_eq_true hsp)
          have HMN := Lib.hid (HNEW.out.2 hsp)
          have S0 : (fun W : World => (W.cell? ⟨bx, 3, none⟩ = some (.int .i64 d)) ∧ Below wr.heap.size wr W) wr.drew := ⟨hcd, (Below.refl _ _).drew⟩
          have q1 : decide ((1 : Int) ≤ sp) = true := decide_eq_true hsp; have q2 : decide (sp < 1) = false := decide_eq_false (by omega); have q3 : IntKind.i64.wrap (sp - 1) = sp - 1 := IntWalk.i64_in _ (by omega)
          obtain ⟨mn, hmn⟩ : ∃ mn, (if sp - 1 < d then sp - 1 else d) = mn := ⟨_, rfl⟩
          have HMN2 := Lib.hid (HMN.out.trans (show min d (sp - 1) = mn by rw [← hmn, Int.min_def]; split <;> split <;> omega)); clear HMN
          have nmn : (mn == mn) = true := by simp
          go_wp2_with fail
          refine wp_region_held_drew (S := (fun W : World => (W.cell? ⟨bx, 3, none⟩ = some (.int .i64 d)) ∧ Below wr.heap.size wr W)) (by kernel_rfl) S0 (fun _ => ?_)
          refine any_take (i := 0) (some 114) (.slice A0 l.length c0) rfl rfl (by kernel_rfl) (by kernel_rfl) (by kernel_rfl) (fun _ _ _ h => h) rfl (fun W hSw => ?_) (S0) ?_
          · (try dsimp only at hSw); go_simp <;> with_reducible rfl
          try simp only [Act.put, List.setIfInBounds_toArray, List.set_cons_zero, List.set_cons_succ]
          refine any_take (i := 1) (some 115) (.int .i64 o) rfl rfl (by kernel_rfl) (by kernel_rfl) (by kernel_rfl) (fun _ _ _ h => h) rfl (fun W hSw => ?_) (S0) ?_
          · (try dsimp only at hSw); go_simp <;> with_reducible rfl
          try simp only [Act.put, List.setIfInBounds_toArray, List.set_cons_zero, List.set_cons_succ]
          refine any_take (i := 2) (some 116) (.int .i64 t) rfl rfl (by kernel_rfl) (by kernel_rfl) (by kernel_rfl) (fun _ _ _ h => h) rfl (fun W hSw => ?_) (S0) ?_
          · (try dsimp only at hSw); go_simp <;> with_reducible rfl
          try simp only [Act.put, List.setIfInBounds_toArray, List.set_cons_zero, List.set_cons_succ]
          refine wpAnyH_ready (rs := [3]) (by kernel_rfl) (by simp) ?_
          refine AllReadyH.cons rfl (fun K hK => ?_) AllReadyH.nil
          go_simp
          go_at_call 12
          refine (mayI_any _ w1.heap.size A0 c0 l o 30 1 t hl2 (by have := ZR.out.size; simp; omega) (HG.out.below ZR.out.drew)).mono ?_
          rintro e v1 ⟨rfl, hb8⟩
          rw [HF0.out]
          have hb9v1 : Below wr.heap.size wr v1 := ((Below.refl wr.heap.size wr).drew).trans hb8
          clear hb8
          have S1 : (fun W : World => (W.cell? ⟨bx, 3, none⟩ = some (.int .i64 d)) ∧ Below wr.heap.size wr W) v1 := ⟨(bold hb9v1 _ _ hbx).trans hcd, hb9v1⟩
          go_wp2_with fail
          refine hK.out _ _ S1 (fun _ => ?_)
          clear hK K
          try simp only [Act.put, List.setIfInBounds_toArray, List.set_cons_zero, List.set_cons_succ]
          refine any_take (i := 4) (some 118) (.bool true) rfl rfl (by kernel_rfl) (by kernel_rfl) (by kernel_rfl) (fun _ _ _ h => h) rfl (fun W hSw => ?_) (S1) ?_
          · (try dsimp only at hSw); go_simp <;> with_reducible rfl
          try simp only [Act.put, List.setIfInBounds_toArray, List.set_cons_zero, List.set_cons_succ]
          refine any_take (i := 5) (some 119) (.bool true) rfl rfl (by kernel_rfl) (by kernel_rfl) (by kernel_rfl) (fun _ _ _ h => h) rfl (fun W hSw => ?_) (S1) ?_
          · (try dsimp only at hSw); go_simp <;> with_reducible rfl
          try simp only [Act.put, List.setIfInBounds_toArray, List.set_cons_zero, List.set_cons_succ]
          refine any_take (i := 6) (some 120) (.slice A3 l'.length c3) rfl rfl (by kernel_rfl) (by kernel_rfl) (by kernel_rfl) (fun _ _ _ h => h) rfl (fun W hSw => ?_) (S1) ?_
          · (try dsimp only at hSw); go_simp <;> with_reducible rfl
          try simp only [Act.put, List.setIfInBounds_toArray, List.set_cons_zero, List.set_cons_succ]
          refine any_take (i := 7) (some 121) (.int .i64 o) rfl rfl (by kernel_rfl) (by kernel_rfl) (by kernel_rfl) (fun _ _ _ h => h) rfl (fun W hSw => ?_) (S1) ?_
          · (try dsimp only at hSw); go_simp <;> with_reducible rfl
          try simp only [Act.put, List.setIfInBounds_toArray, List.set_cons_zero, List.set_cons_succ]
          refine any_take (i := 8) (some 122) (.int .i64 t) rfl rfl (by kernel_rfl) (by kernel_rfl) (by kernel_rfl) (fun _ _ _ h => h) rfl (fun W hSw => ?_) (S1) ?_
          · (try dsimp only at hSw); go_simp <;> with_reducible rfl
          try simp only [Act.put, List.setIfInBounds_toArray, List.set_cons_zero, List.set_cons_succ]
          refine any_take (i := 10) (some 124) (.int .i64 sp) rfl rfl (by kernel_rfl) (by kernel_rfl) (by kernel_rfl) (fun _ _ _ h => h) rfl (fun W hSw => ?_) (S1) ?_
          · (try dsimp only at hSw); go_simp <;> with_reducible rfl
          try simp only [Act.put, List.setIfInBounds_toArray, List.set_cons_zero, List.set_cons_succ]
          refine any_take (i := 11) (some 125) (.bool true) rfl rfl (by kernel_rfl) (by kernel_rfl) (by kernel_rfl) (fun _ _ _ h => h) rfl (fun W hSw => ?_) (S1) ?_
          · (try dsimp only at hSw); go_simp <;> with_reducible rfl
          try simp only [Act.put, List.setIfInBounds_toArray, List.set_cons_zero, List.set_cons_succ]
          refine wpAnyH_ready (rs := [9]) (by kernel_rfl) (by simp) ?_
          refine AllReadyH.cons rfl (fun K hK => ?_) AllReadyH.nil
          go_simp
          go_at_call 12
          refine (mayI_any _ w8.heap.size A3 c3 l' o 30 1 t hl3 (by have := S1.2.size; omega) (H3R.out.below (S1.2.mono hsr8))).mono ?_
          rintro e v2 ⟨rfl, hb8⟩
          rw [HNW.out]
          have hb9v2 : Below wr.heap.size wr v2 := bthen S1.2 hb8
          clear hb8
          have S2 : (fun W : World => (W.cell? ⟨bx, 3, none⟩ = some (.int .i64 d)) ∧ Below wr.heap.size wr W) v2 := ⟨(bold hb9v2 _ _ hbx).trans hcd, hb9v2⟩
          go_wp2_with fail
          refine hK.out _ _ S2 (fun _ => ?_)
          clear hK K
          try simp only [Act.put, List.setIfInBounds_toArray, List.set_cons_zero, List.set_cons_succ]
          refine any_take (i := 12) (some 126) (.bool true) rfl rfl (by kernel_rfl) (by kernel_rfl) (by kernel_rfl) (fun _ _ _ h => h) rfl (fun W hSw => ?_) (S2) ?_
          · (try dsimp only at hSw); go_simp <;> with_reducible rfl
          try simp only [Act.put, List.setIfInBounds_toArray, List.set_cons_zero, List.set_cons_succ]
          refine any_take (i := 13) (some 127) (.bool true) rfl rfl (by kernel_rfl) (by kernel_rfl) (by kernel_rfl) (fun _ _ _ h => h) rfl (fun W hSw => ?_) (S2) ?_
          · (try dsimp only at hSw); go_simp <;> with_reducible rfl
          try simp only [Act.put, List.setIfInBounds_toArray, List.set_cons_zero, List.set_cons_succ]
          refine any_take (i := 14) (some 128) (.bool true) rfl rfl (by kernel_rfl) (by kernel_rfl) (by kernel_rfl) (fun _ _ _ h => h) rfl (fun W hSw => ?_) (S2) ?_
          · (try dsimp only at hSw); go_simp <;> with_reducible rfl
          try simp only [Act.put, List.setIfInBounds_toArray, List.set_cons_zero, List.set_cons_succ]
          refine any_take (i := 15) (some 129) (.int .i64 sp) rfl rfl (by kernel_rfl) (by kernel_rfl) (by kernel_rfl) (fun _ _ _ h => h) rfl (fun W hSw => ?_) (S2) ?_
          · (try dsimp only at hSw); go_simp <;> with_reducible rfl
          try simp only [Act.put, List.setIfInBounds_toArray, List.set_cons_zero, List.set_cons_succ]
          refine any_take (i := 16) (some 130) (.bool false) rfl rfl (by kernel_rfl) (by kernel_rfl) (by kernel_rfl) (fun _ _ _ h => h) rfl (fun W hSw => ?_) (S2) ?_
          · (try dsimp only at hSw); go_simp <;> with_reducible rfl
          try simp only [Act.put, List.setIfInBounds_toArray, List.set_cons_zero, List.set_cons_succ]
          refine any_take (i := 17) (some 131) (.bool false) rfl rfl (by kernel_rfl) (by kernel_rfl) (by kernel_rfl) (fun _ _ _ h => h) rfl (fun W hSw => ?_) (S2) ?_
          · (try dsimp only at hSw); go_simp <;> with_reducible rfl
          try simp only [Act.put, List.setIfInBounds_toArray, List.set_cons_zero, List.set_cons_succ]
          refine any_take (i := 18) (some 132) (.slice A3 l'.length c3) rfl rfl (by kernel_rfl) (by kernel_rfl) (by kernel_rfl) (fun _ _ _ h => h) rfl (fun W hSw => ?_) (S2) ?_
          · (try dsimp only at hSw); go_simp <;> with_reducible rfl
          try simp only [Act.put, List.setIfInBounds_toArray, List.set_cons_zero, List.set_cons_succ]
          refine any_take (i := 19) (some 133) (.int .i64 o) rfl rfl (by kernel_rfl) (by kernel_rfl) (by kernel_rfl) (fun _ _ _ h => h) rfl (fun W hSw => ?_) (S2) ?_
          · (try dsimp only at hSw); go_simp <;> with_reducible rfl
          try simp only [Act.put, List.setIfInBounds_toArray, List.set_cons_zero, List.set_cons_succ]
          refine any_take (i := 20) (some 134) (.int .i64 t) rfl rfl (by kernel_rfl) (by kernel_rfl) (by kernel_rfl) (fun _ _ _ h => h) rfl (fun W hSw => ?_) (S2) ?_
          · (try dsimp only at hSw); go_simp <;> with_reducible rfl
          try simp only [Act.put, List.setIfInBounds_toArray, List.set_cons_zero, List.set_cons_succ]
          refine any_take (i := 22) (some 136) (.pointer (some ⟨bx, 3, none⟩)) rfl rfl (by kernel_rfl) (by kernel_rfl) (by kernel_rfl) (fun _ _ _ h => h) rfl (fun W hSw => ?_) (S2) ?_
          · (try dsimp only at hSw); go_simp <;> with_reducible rfl
          try simp only [Act.put, List.setIfInBounds_toArray, List.set_cons_zero, List.set_cons_succ]
          refine any_take (i := 23) (some 137) (.int .i64 d) rfl rfl (by kernel_rfl) (by kernel_rfl) (by kernel_rfl) (fun _ _ _ h => h) rfl (fun W hSw => ?_) (S2) ?_
          · (try dsimp only at hSw); go_simp <;> with_reducible rfl
          try simp only [Act.put, List.setIfInBounds_toArray, List.set_cons_zero, List.set_cons_succ]
          refine any_take (i := 24) (some 138) (.int .i64 sp) rfl rfl (by kernel_rfl) (by kernel_rfl) (by kernel_rfl) (fun _ _ _ h => h) rfl (fun W hSw => ?_) (S2) ?_
          · (try dsimp only at hSw); go_simp <;> with_reducible rfl
          try simp only [Act.put, List.setIfInBounds_toArray, List.set_cons_zero, List.set_cons_succ]
          refine any_take (i := 25) (some 139) (.int .i64 (sp - 1)) rfl rfl (by kernel_rfl) (by kernel_rfl) (by kernel_rfl) (fun _ _ _ h => h) rfl (fun W hSw => ?_) (S2) ?_
          · (try dsimp only at hSw); go_simp <;> with_reducible rfl
          try simp only [Act.put, List.setIfInBounds_toArray, List.set_cons_zero, List.set_cons_succ]
          refine any_take (i := 26) (some 140) (.int .i64 mn) rfl rfl (by kernel_rfl) (by kernel_rfl) (by kernel_rfl) (fun _ _ _ h => h) rfl (fun W hSw => ?_) (S2) ?_
          · (try dsimp only at hSw); go_simp <;> with_reducible rfl
          try simp only [Act.put, List.setIfInBounds_toArray, List.set_cons_zero, List.set_cons_succ]
          refine wpAnyH_ready (rs := [21]) (by kernel_rfl) (by simp) ?_
          refine AllReadyH.cons rfl (fun K hK => ?_) AllReadyH.nil
          go_simp
          go_at_call 10
          refine (spareI_any _ w8.heap.size A3 c3 l' o 30 1 t hl3 (by have := S2.2.size; omega) (H3R.out.below (S2.2.mono hsr8))).mono ?_
          rintro e v3 ⟨rfl, hb8⟩
          rw [HMN2.out]
          have hb9v3 : Below wr.heap.size wr v3 := bthen S2.2 hb8
          clear hb8
          have S3 : (fun W : World => (W.cell? ⟨bx, 3, none⟩ = some (.int .i64 d)) ∧ Below wr.heap.size wr W) v3 := ⟨(bold hb9v3 _ _ hbx).trans hcd, hb9v3⟩
          go_wp2_with fail
          refine hK.out _ _ S3 (fun _ => ?_)
          clear hK K
          try simp only [Act.put, List.setIfInBounds_toArray, List.set_cons_zero, List.set_cons_succ]
          refine any_take (i := 27) (some 141) (.bool true) rfl rfl (by kernel_rfl) (by kernel_rfl) (by kernel_rfl) (fun _ _ _ h => h) rfl (fun W hSw => ?_) (S3) ?_
          · (try dsimp only at hSw); go_simp <;> with_reducible rfl
          try simp only [Act.put, List.setIfInBounds_toArray, List.set_cons_zero, List.set_cons_succ]
          refine any_take (i := 28) (some 142) (.bool true) rfl rfl (by kernel_rfl) (by kernel_rfl) (by kernel_rfl) (fun _ _ _ h => h) rfl (fun W hSw => ?_) (S3) ?_
          · (try dsimp only at hSw); go_simp <;> with_reducible rfl
          try simp only [Act.put, List.setIfInBounds_toArray, List.set_cons_zero, List.set_cons_succ]
          refine any_take (i := 29) (some 143) (.bool true) rfl rfl (by kernel_rfl) (by kernel_rfl) (by kernel_rfl) (fun _ _ _ h => h) rfl (fun W hSw => ?_) (S3) ?_
          · (try dsimp only at hSw); go_simp <;> with_reducible rfl
          try simp only [Act.put, List.setIfInBounds_toArray, List.set_cons_zero, List.set_cons_succ]
          refine any_take (i := 30) (some 2) (.bool true) rfl rfl (by kernel_rfl) (by kernel_rfl) (by kernel_rfl) (fun _ _ _ h => h) rfl (fun W hSw => ?_) (S3) ?_
          · (try dsimp only at hSw); go_simp <;> with_reducible rfl
          try simp only [Act.put, List.setIfInBounds_toArray, List.set_cons_zero, List.set_cons_succ]
          refine wpAnyH_done (by kernel_rfl) ?_ _
          have HB9 := Lib.hid (bthen (bthen ZB.out ZR.out) S3.2)
          clear S0 S1 S2 S3
          go_wp2_with fail
          go_ret
          exact ⟨rfl, HB9.out⟩
        · have HNW := Lib.hid (show mayB l' o 30 1 t = false by rw [HNEW.out.1]; exact decide_eq_false hsp)
          have S0 : (fun W : World => (W.cell? ⟨bx, 3, none⟩ = some (.int .i64 d)) ∧ Below wr.heap.size wr W) wr.drew := ⟨hcd, (Below.refl _ _).drew⟩
          have q1 : decide ((1 : Int) ≤ sp) = false := decide_eq_false hsp; have q2 : decide (sp < 1) = true := decide_eq_true (by omega); have q3 : sp < 1 := by omega
          go_wp2_with fail
          refine wp_region_held_drew (S := (fun W : World => (W.cell? ⟨bx, 3, none⟩ = some (.int .i64 d)) ∧ Below wr.heap.size wr W)) (by kernel_rfl) S0 (fun _ => ?_)
          refine any_take (i := 0) (some 114) (.slice A0 l.length c0) rfl rfl (by kernel_rfl) (by kernel_rfl) (by kernel_rfl) (fun _ _ _ h => h) rfl (fun W hSw => ?_) (S0) ?_
          · (try dsimp only at hSw); go_simp <;> with_reducible rfl
          try simp only [Act.put, List.setIfInBounds_toArray, List.set_cons_zero, List.set_cons_succ]
          refine any_take (i := 1) (some 115) (.int .i64 o) rfl rfl (by kernel_rfl) (by kernel_rfl) (by kernel_rfl) (fun _ _ _ h => h) rfl (fun W hSw => ?_) (S0) ?_
          · (try dsimp only at hSw); go_simp <;> with_reducible rfl
          try simp only [Act.put, List.setIfInBounds_toArray, List.set_cons_zero, List.set_cons_succ]
          refine any_take (i := 2) (some 116) (.int .i64 t) rfl rfl (by kernel_rfl) (by kernel_rfl) (by kernel_rfl) (fun _ _ _ h => h) rfl (fun W hSw => ?_) (S0) ?_
          · (try dsimp only at hSw); go_simp <;> with_reducible rfl
          try simp only [Act.put, List.setIfInBounds_toArray, List.set_cons_zero, List.set_cons_succ]
          refine wpAnyH_ready (rs := [3]) (by kernel_rfl) (by simp) ?_
          refine AllReadyH.cons rfl (fun K hK => ?_) AllReadyH.nil
          go_simp
          go_at_call 12
          refine (mayI_any _ w1.heap.size A0 c0 l o 30 1 t hl2 (by have := ZR.out.size; simp; omega) (HG.out.below ZR.out.drew)).mono ?_
          rintro e v1 ⟨rfl, hb8⟩
          rw [HF0.out]
          have hb9v1 : Below wr.heap.size wr v1 := ((Below.refl wr.heap.size wr).drew).trans hb8
          clear hb8
          have S1 : (fun W : World => (W.cell? ⟨bx, 3, none⟩ = some (.int .i64 d)) ∧ Below wr.heap.size wr W) v1 := ⟨(bold hb9v1 _ _ hbx).trans hcd, hb9v1⟩
          go_wp2_with fail
          refine hK.out _ _ S1 (fun _ => ?_)
          clear hK K
          try simp only [Act.put, List.setIfInBounds_toArray, List.set_cons_zero, List.set_cons_succ]
          refine any_take (i := 4) (some 118) (.bool true) rfl rfl (by kernel_rfl) (by kernel_rfl) (by kernel_rfl) (fun _ _ _ h => h) rfl (fun W hSw => ?_) (S1) ?_
          · (try dsimp only at hSw); go_simp <;> with_reducible rfl
          try simp only [Act.put, List.setIfInBounds_toArray, List.set_cons_zero, List.set_cons_succ]
          refine any_take (i := 5) (some 119) (.bool true) rfl rfl (by kernel_rfl) (by kernel_rfl) (by kernel_rfl) (fun _ _ _ h => h) rfl (fun W hSw => ?_) (S1) ?_
          · (try dsimp only at hSw); go_simp <;> with_reducible rfl
          try simp only [Act.put, List.setIfInBounds_toArray, List.set_cons_zero, List.set_cons_succ]
          refine any_take (i := 6) (some 120) (.slice A3 l'.length c3) rfl rfl (by kernel_rfl) (by kernel_rfl) (by kernel_rfl) (fun _ _ _ h => h) rfl (fun W hSw => ?_) (S1) ?_
          · (try dsimp only at hSw); go_simp <;> with_reducible rfl
          try simp only [Act.put, List.setIfInBounds_toArray, List.set_cons_zero, List.set_cons_succ]
          refine any_take (i := 7) (some 121) (.int .i64 o) rfl rfl (by kernel_rfl) (by kernel_rfl) (by kernel_rfl) (fun _ _ _ h => h) rfl (fun W hSw => ?_) (S1) ?_
          · (try dsimp only at hSw); go_simp <;> with_reducible rfl
          try simp only [Act.put, List.setIfInBounds_toArray, List.set_cons_zero, List.set_cons_succ]
          refine any_take (i := 8) (some 122) (.int .i64 t) rfl rfl (by kernel_rfl) (by kernel_rfl) (by kernel_rfl) (fun _ _ _ h => h) rfl (fun W hSw => ?_) (S1) ?_
          · (try dsimp only at hSw); go_simp <;> with_reducible rfl
          try simp only [Act.put, List.setIfInBounds_toArray, List.set_cons_zero, List.set_cons_succ]
          refine any_take (i := 10) (some 124) (.int .i64 sp) rfl rfl (by kernel_rfl) (by kernel_rfl) (by kernel_rfl) (fun _ _ _ h => h) rfl (fun W hSw => ?_) (S1) ?_
          · (try dsimp only at hSw); go_simp <;> with_reducible rfl
          try simp only [Act.put, List.setIfInBounds_toArray, List.set_cons_zero, List.set_cons_succ]
          refine any_take (i := 11) (some 125) (.bool false) rfl rfl (by kernel_rfl) (by kernel_rfl) (by kernel_rfl) (fun _ _ _ h => h) rfl (fun W hSw => ?_) (S1) ?_
          · (try dsimp only at hSw); go_simp <;> with_reducible rfl
          try simp only [Act.put, List.setIfInBounds_toArray, List.set_cons_zero, List.set_cons_succ]
          refine wpAnyH_ready (rs := [9]) (by kernel_rfl) (by simp) ?_
          refine AllReadyH.cons rfl (fun K hK => ?_) AllReadyH.nil
          go_simp
          go_at_call 12
          refine (mayI_any _ w8.heap.size A3 c3 l' o 30 1 t hl3 (by have := S1.2.size; omega) (H3R.out.below (S1.2.mono hsr8))).mono ?_
          rintro e v2 ⟨rfl, hb8⟩
          rw [HNW.out]
          have hb9v2 : Below wr.heap.size wr v2 := bthen S1.2 hb8
          clear hb8
          have S2 : (fun W : World => (W.cell? ⟨bx, 3, none⟩ = some (.int .i64 d)) ∧ Below wr.heap.size wr W) v2 := ⟨(bold hb9v2 _ _ hbx).trans hcd, hb9v2⟩
          go_wp2_with fail
          refine hK.out _ _ S2 (fun _ => ?_)
          clear hK K
          try simp only [Act.put, List.setIfInBounds_toArray, List.set_cons_zero, List.set_cons_succ]
          refine any_take (i := 12) (some 126) (.bool true) rfl rfl (by kernel_rfl) (by kernel_rfl) (by kernel_rfl) (fun _ _ _ h => h) rfl (fun W hSw => ?_) (S2) ?_
          · (try dsimp only at hSw); go_simp <;> with_reducible rfl
          try simp only [Act.put, List.setIfInBounds_toArray, List.set_cons_zero, List.set_cons_succ]
          refine any_take (i := 13) (some 127) (.bool true) rfl rfl (by kernel_rfl) (by kernel_rfl) (by kernel_rfl) (fun _ _ _ h => h) rfl (fun W hSw => ?_) (S2) ?_
          · (try dsimp only at hSw); go_simp <;> with_reducible rfl
          try simp only [Act.put, List.setIfInBounds_toArray, List.set_cons_zero, List.set_cons_succ]
          refine any_take (i := 14) (some 128) (.bool true) rfl rfl (by kernel_rfl) (by kernel_rfl) (by kernel_rfl) (fun _ _ _ h => h) rfl (fun W hSw => ?_) (S2) ?_
          · (try dsimp only at hSw); go_simp <;> with_reducible rfl
          try simp only [Act.put, List.setIfInBounds_toArray, List.set_cons_zero, List.set_cons_succ]
          refine any_take (i := 15) (some 129) (.int .i64 sp) rfl rfl (by kernel_rfl) (by kernel_rfl) (by kernel_rfl) (fun _ _ _ h => h) rfl (fun W hSw => ?_) (S2) ?_
          · (try dsimp only at hSw); go_simp <;> with_reducible rfl
          try simp only [Act.put, List.setIfInBounds_toArray, List.set_cons_zero, List.set_cons_succ]
          refine any_take (i := 16) (some 130) (.bool true) rfl rfl (by kernel_rfl) (by kernel_rfl) (by kernel_rfl) (fun _ _ _ h => h) rfl (fun W hSw => ?_) (S2) ?_
          · (try dsimp only at hSw); go_simp <;> with_reducible rfl
          try simp only [Act.put, List.setIfInBounds_toArray, List.set_cons_zero, List.set_cons_succ]
          refine any_take (i := 17) (some 131) (.bool true) rfl rfl (by kernel_rfl) (by kernel_rfl) (by kernel_rfl) (fun _ _ _ h => h) rfl (fun W hSw => ?_) (S2) ?_
          · (try dsimp only at hSw); go_simp <;> with_reducible rfl
          try simp only [Act.put, List.setIfInBounds_toArray, List.set_cons_zero, List.set_cons_succ]
          refine any_skip (i := 18) (some 132) rfl rfl (by kernel_rfl) (by kernel_rfl) (by kernel_rfl) (fun _ _ _ h => h) rfl (S2) ?_
          try simp only [Act.put, List.setIfInBounds_toArray, List.set_cons_zero, List.set_cons_succ]
          refine any_skip (i := 19) (some 133) rfl rfl (by kernel_rfl) (by kernel_rfl) (by kernel_rfl) (fun _ _ _ h => h) rfl (S2) ?_
          try simp only [Act.put, List.setIfInBounds_toArray, List.set_cons_zero, List.set_cons_succ]
          refine any_skip (i := 20) (some 134) rfl rfl (by kernel_rfl) (by kernel_rfl) (by kernel_rfl) (fun _ _ _ h => h) rfl (S2) ?_
          try simp only [Act.put, List.setIfInBounds_toArray, List.set_cons_zero, List.set_cons_succ]
          refine any_skip (i := 22) (some 136) rfl rfl (by kernel_rfl) (by kernel_rfl) (by kernel_rfl) (fun _ _ _ h => h) rfl (S2) ?_
          try simp only [Act.put, List.setIfInBounds_toArray, List.set_cons_zero, List.set_cons_succ]
          refine any_skip (i := 23) (some 137) rfl rfl (by kernel_rfl) (by kernel_rfl) (by kernel_rfl) (fun _ _ _ h => h) rfl (S2) ?_
          try simp only [Act.put, List.setIfInBounds_toArray, List.set_cons_zero, List.set_cons_succ]
          refine any_skip (i := 24) (some 138) rfl rfl (by kernel_rfl) (by kernel_rfl) (by kernel_rfl) (fun _ _ _ h => h) rfl (S2) ?_
          try simp only [Act.put, List.setIfInBounds_toArray, List.set_cons_zero, List.set_cons_succ]
          refine any_skip (i := 25) (some 139) rfl rfl (by kernel_rfl) (by kernel_rfl) (by kernel_rfl) (fun _ _ _ h => h) rfl (S2) ?_
          try simp only [Act.put, List.setIfInBounds_toArray, List.set_cons_zero, List.set_cons_succ]
          refine any_skip (i := 26) (some 140) rfl rfl (by kernel_rfl) (by kernel_rfl) (by kernel_rfl) (fun _ _ _ h => h) rfl (S2) ?_
          try simp only [Act.put, List.setIfInBounds_toArray, List.set_cons_zero, List.set_cons_succ]
          refine any_skip (i := 21) (some 135) rfl rfl (by kernel_rfl) (by kernel_rfl) (by kernel_rfl) (fun _ _ _ h => h) rfl (S2) ?_
          try simp only [Act.put, List.setIfInBounds_toArray, List.set_cons_zero, List.set_cons_succ]
          refine any_skip (i := 27) (some 141) rfl rfl (by kernel_rfl) (by kernel_rfl) (by kernel_rfl) (fun _ _ _ h => h) rfl (S2) ?_
          try simp only [Act.put, List.setIfInBounds_toArray, List.set_cons_zero, List.set_cons_succ]
          refine any_take (i := 28) (some 142) (.bool true) rfl rfl (by kernel_rfl) (by kernel_rfl) (by kernel_rfl) (fun _ _ _ h => h) rfl (fun W hSw => ?_) (S2) ?_
          · (try dsimp only at hSw); go_simp <;> with_reducible rfl
          try simp only [Act.put, List.setIfInBounds_toArray, List.set_cons_zero, List.set_cons_succ]
          refine any_take (i := 29) (some 143) (.bool true) rfl rfl (by kernel_rfl) (by kernel_rfl) (by kernel_rfl) (fun _ _ _ h => h) rfl (fun W hSw => ?_) (S2) ?_
          · (try dsimp only at hSw); go_simp <;> with_reducible rfl
          try simp only [Act.put, List.setIfInBounds_toArray, List.set_cons_zero, List.set_cons_succ]
          refine any_take (i := 30) (some 2) (.bool true) rfl rfl (by kernel_rfl) (by kernel_rfl) (by kernel_rfl) (fun _ _ _ h => h) rfl (fun W hSw => ?_) (S2) ?_
          · (try dsimp only at hSw); go_simp <;> with_reducible rfl
          try simp only [Act.put, List.setIfInBounds_toArray, List.set_cons_zero, List.set_cons_succ]
          refine wpAnyH_done (by kernel_rfl) ?_ _
          have HB9 := Lib.hid (bthen (bthen ZB.out ZR.out) S2.2)
          clear S0 S1 S2
          go_wp2_with fail
          go_ret
          exact ⟨rfl, HB9.out⟩
  · have hoo : (o == k) = true := beq_iff_eq.2 hok
    have h55 : (sp != 5) = false := by rw [hs5]; rfl
    clear hok hs5
    go_wp2_with fail
    clear hoo h55
    go_loopw [14] (fun i wr => ∃ p : Int, i = .int .i64 p ∧ 1 ≤ p ∧ p ≤ 8 ∧ Below w12.heap.size w12 wr) (fun i _ => (8 - intOf i).toNat)
    case atStart => exact ⟨1, rfl, by omega, by omega, Below.refl _ _⟩
    case round =>
      obtain ⟨p, rfl, hp1, hp8, hbr⟩ := hrel
      have hsr := hbr.size
      have ZR := Lib.hid (bthen Z12.out hbr); have XR := Lib.hid (bthen X12.out hbr); have HBR := Lib.hid hbr; clear hbr
      have hzs := ZR.out.size
      have hsr8 : w8.heap.size ≤ wr.heap.size := by have := XR.out.size; omega
      by_cases hp : p ≤ 7
      · cases hm1 : mayB l o p 1 t
        · have HM1 := Lib.hid hm1; clear hm1
          go_wp2_with fail
          refine (mayI_any wr w1.heap.size A0 c0 l o p 1 t hl2 (by omega) (HG.out.below ZR.out)).mono ?_
          rintro e w13 ⟨rfl, hb⟩
          rw [HM1.out]
          have B13 := Lib.hid (bthen HBR.out hb); clear hb
          go_wp2_with fail
          go_roundw
          case rel => exact ⟨p + 1, by go_num, by omega, by omega, B13.out⟩
          case measure => simp [intOf]; omega
        · have HM1 := Lib.hid hm1; have HM2 := Lib.hid (HMORE.out p hm1); clear hm1
          go_wp2_with fail
          refine (mayI_any wr w1.heap.size A0 c0 l o p 1 t hl2 (by omega) (HG.out.below ZR.out)).mono ?_
          rintro e w13 ⟨rfl, hb⟩
          rw [HM1.out]
          have hs13 := hb.size
          have B13 := Lib.hid (bthen HBR.out hb); have X13 := Lib.hid (bthen XR.out hb); clear hb
          go_wp2_with fail
          refine (mayI_any w13 w8.heap.size A3 c3 l' o p 1 t hl3 (by omega) (H3.out.below X13.out)).mono ?_
          rintro e w14 ⟨rfl, hb⟩
          rw [HM2.out]
          have B14 := Lib.hid (bthen B13.out hb); clear hb
          go_wp2_with fail
          go_roundw
          case rel => exact ⟨p + 1, by go_num, by omega, by omega, B14.out⟩
          case measure => simp [intOf]; omega
      · have hbx : bx < wr.heap.size := by omega
        have hcd : wr.cell? ⟨bx, 3, none⟩ = some (.int .i64 d) := has_cell (has_below KX.out XR.out hlx) 3 rfl
        have H3R := Lib.hid (H3.out.below XR.out)
        by_cases hsp : (1 : Int) ≤ sp
        · have HNW := Lib.hid (show mayB l' o 30 1 t = true by rw [HNEW.out.1]; exact decide_eq_true hsp)
          have HMN := Lib.hid (HNEW.out.2 hsp)
          have S0 : (fun W : World => (W.cell? ⟨bx, 3, none⟩ = some (.int .i64 d)) ∧ Below wr.heap.size wr W) wr.drew := ⟨hcd, (Below.refl _ _).drew⟩
          have q1 : decide ((1 : Int) ≤ sp) = true := decide_eq_true hsp; have q2 : decide (sp < 1) = false := decide_eq_false (by omega); have q3 : IntKind.i64.wrap (sp - 1) = sp - 1 := IntWalk.i64_in _ (by omega)
          obtain ⟨mn, hmn⟩ : ∃ mn, (if sp - 1 < d then sp - 1 else d) = mn := ⟨_, rfl⟩
          have HMN2 := Lib.hid (HMN.out.trans (show min d (sp - 1) = mn by rw [← hmn, Int.min_def]; split <;> split <;> omega)); clear HMN
          have nmn : (mn == mn) = true := by simp
          go_wp2_with fail
          refine wp_region_held_drew (S := (fun W : World => (W.cell? ⟨bx, 3, none⟩ = some (.int .i64 d)) ∧ Below wr.heap.size wr W)) (by kernel_rfl) S0 (fun _ => ?_)
          refine any_take (i := 0) (some 114) (.slice A0 l.length c0) rfl rfl (by kernel_rfl) (by kernel_rfl) (by kernel_rfl) (fun _ _ _ h => h) rfl (fun W hSw => ?_) (S0) ?_
          · (try dsimp only at hSw); go_simp <;> with_reducible rfl
          try simp only [Act.put, List.setIfInBounds_toArray, List.set_cons_zero, List.set_cons_succ]
          refine any_take (i := 1) (some 115) (.int .i64 o) rfl rfl (by kernel_rfl) (by kernel_rfl) (by kernel_rfl) (fun _ _ _ h => h) rfl (fun W hSw => ?_) (S0) ?_
          · (try dsimp only at hSw); go_simp <;> with_reducible rfl
          try simp only [Act.put, List.setIfInBounds_toArray, List.set_cons_zero, List.set_cons_succ]
          refine any_take (i := 2) (some 116) (.int .i64 t) rfl rfl (by kernel_rfl) (by kernel_rfl) (by kernel_rfl) (fun _ _ _ h => h) rfl (fun W hSw => ?_) (S0) ?_
          · (try dsimp only at hSw); go_simp <;> with_reducible rfl
          try simp only [Act.put, List.setIfInBounds_toArray, List.set_cons_zero, List.set_cons_succ]
          refine wpAnyH_ready (rs := [3]) (by kernel_rfl) (by simp) ?_
          refine AllReadyH.cons rfl (fun K hK => ?_) AllReadyH.nil
          go_simp
          go_at_call 12
          refine (mayI_any _ w1.heap.size A0 c0 l o 30 1 t hl2 (by have := ZR.out.size; simp; omega) (HG.out.below ZR.out.drew)).mono ?_
          rintro e v1 ⟨rfl, hb8⟩
          rw [HF0.out]
          have hb9v1 : Below wr.heap.size wr v1 := ((Below.refl wr.heap.size wr).drew).trans hb8
          clear hb8
          have S1 : (fun W : World => (W.cell? ⟨bx, 3, none⟩ = some (.int .i64 d)) ∧ Below wr.heap.size wr W) v1 := ⟨(bold hb9v1 _ _ hbx).trans hcd, hb9v1⟩
          go_wp2_with fail
          refine hK.out _ _ S1 (fun _ => ?_)
          clear hK K
          try simp only [Act.put, List.setIfInBounds_toArray, List.set_cons_zero, List.set_cons_succ]
          refine any_take (i := 4) (some 118) (.bool true) rfl rfl (by kernel_rfl) (by kernel_rfl) (by kernel_rfl) (fun _ _ _ h => h) rfl (fun W hSw => ?_) (S1) ?_
          · (try dsimp only at hSw); go_simp <;> with_reducible rfl
          try simp only [Act.put, List.setIfInBounds_toArray, List.set_cons_zero, List.set_cons_succ]
          refine any_take (i := 5) (some 119) (.bool true) rfl rfl (by kernel_rfl) (by kernel_rfl) (by kernel_rfl) (fun _ _ _ h => h) rfl (fun W hSw => ?_) (S1) ?_
          · (try dsimp only at hSw); go_simp <;> with_reducible rfl
          try simp only [Act.put, List.setIfInBounds_toArray, List.set_cons_zero, List.set_cons_succ]
          refine any_take (i := 6) (some 120) (.slice A3 l'.length c3) rfl rfl (by kernel_rfl) (by kernel_rfl) (by kernel_rfl) (fun _ _ _ h => h) rfl (fun W hSw => ?_) (S1) ?_
          · (try dsimp only at hSw); go_simp <;> with_reducible rfl
          try simp only [Act.put, List.setIfInBounds_toArray, List.set_cons_zero, List.set_cons_succ]
          refine any_take (i := 7) (some 121) (.int .i64 o) rfl rfl (by kernel_rfl) (by kernel_rfl) (by kernel_rfl) (fun _ _ _ h => h) rfl (fun W hSw => ?_) (S1) ?_
          · (try dsimp only at hSw); go_simp <;> with_reducible rfl
          try simp only [Act.put, List.setIfInBounds_toArray, List.set_cons_zero, List.set_cons_succ]
          refine any_take (i := 8) (some 122) (.int .i64 t) rfl rfl (by kernel_rfl) (by kernel_rfl) (by kernel_rfl) (fun _ _ _ h => h) rfl (fun W hSw => ?_) (S1) ?_
          · (try dsimp only at hSw); go_simp <;> with_reducible rfl
          try simp only [Act.put, List.setIfInBounds_toArray, List.set_cons_zero, List.set_cons_succ]
          refine any_take (i := 10) (some 124) (.int .i64 sp) rfl rfl (by kernel_rfl) (by kernel_rfl) (by kernel_rfl) (fun _ _ _ h => h) rfl (fun W hSw => ?_) (S1) ?_
          · (try dsimp only at hSw); go_simp <;> with_reducible rfl
          try simp only [Act.put, List.setIfInBounds_toArray, List.set_cons_zero, List.set_cons_succ]
          refine any_take (i := 11) (some 125) (.bool true) rfl rfl (by kernel_rfl) (by kernel_rfl) (by kernel_rfl) (fun _ _ _ h => h) rfl (fun W hSw => ?_) (S1) ?_
          · (try dsimp only at hSw); go_simp <;> with_reducible rfl
          try simp only [Act.put, List.setIfInBounds_toArray, List.set_cons_zero, List.set_cons_succ]
          refine wpAnyH_ready (rs := [9]) (by kernel_rfl) (by simp) ?_
          refine AllReadyH.cons rfl (fun K hK => ?_) AllReadyH.nil
          go_simp
          go_at_call 12
          refine (mayI_any _ w8.heap.size A3 c3 l' o 30 1 t hl3 (by have := S1.2.size; omega) (H3R.out.below (S1.2.mono hsr8))).mono ?_
          rintro e v2 ⟨rfl, hb8⟩
          rw [HNW.out]
          have hb9v2 : Below wr.heap.size wr v2 := bthen S1.2 hb8
          clear hb8
          have S2 : (fun W : World => (W.cell? ⟨bx, 3, none⟩ = some (.int .i64 d)) ∧ Below wr.heap.size wr W) v2 := ⟨(bold hb9v2 _ _ hbx).trans hcd, hb9v2⟩
          go_wp2_with fail
          refine hK.out _ _ S2 (fun _ => ?_)
          clear hK K
          try simp only [Act.put, List.setIfInBounds_toArray, List.set_cons_zero, List.set_cons_succ]
          refine any_take (i := 12) (some 126) (.bool true) rfl rfl (by kernel_rfl) (by kernel_rfl) (by kernel_rfl) (fun _ _ _ h => h) rfl (fun W hSw => ?_) (S2) ?_
          · (try dsimp only at hSw); go_simp <;> with_reducible rfl
          try simp only [Act.put, List.setIfInBounds_toArray, List.set_cons_zero, List.set_cons_succ]
          refine any_take (i := 13) (some 127) (.bool true) rfl rfl (by kernel_rfl) (by kernel_rfl) (by kernel_rfl) (fun _ _ _ h => h) rfl (fun W hSw => ?_) (S2) ?_
          · (try dsimp only at hSw); go_simp <;> with_reducible rfl
          try simp only [Act.put, List.setIfInBounds_toArray, List.set_cons_zero, List.set_cons_succ]
          refine any_take (i := 14) (some 128) (.bool true) rfl rfl (by kernel_rfl) (by kernel_rfl) (by kernel_rfl) (fun _ _ _ h => h) rfl (fun W hSw => ?_) (S2) ?_
          · (try dsimp only at hSw); go_simp <;> with_reducible rfl
          try simp only [Act.put, List.setIfInBounds_toArray, List.set_cons_zero, List.set_cons_succ]
          refine any_take (i := 15) (some 129) (.int .i64 sp) rfl rfl (by kernel_rfl) (by kernel_rfl) (by kernel_rfl) (fun _ _ _ h => h) rfl (fun W hSw => ?_) (S2) ?_
          · (try dsimp only at hSw); go_simp <;> with_reducible rfl
          try simp only [Act.put, List.setIfInBounds_toArray, List.set_cons_zero, List.set_cons_succ]
          refine any_take (i := 16) (some 130) (.bool false) rfl rfl (by kernel_rfl) (by kernel_rfl) (by kernel_rfl) (fun _ _ _ h => h) rfl (fun W hSw => ?_) (S2) ?_
          · (try dsimp only at hSw); go_simp <;> with_reducible rfl
          try simp only [Act.put, List.setIfInBounds_toArray, List.set_cons_zero, List.set_cons_succ]
          refine any_take (i := 17) (some 131) (.bool false) rfl rfl (by kernel_rfl) (by kernel_rfl) (by kernel_rfl) (fun _ _ _ h => h) rfl (fun W hSw => ?_) (S2) ?_
          · (try dsimp only at hSw); go_simp <;> with_reducible rfl
          try simp only [Act.put, List.setIfInBounds_toArray, List.set_cons_zero, List.set_cons_succ]
          refine any_take (i := 18) (some 132) (.slice A3 l'.length c3) rfl rfl (by kernel_rfl) (by kernel_rfl) (by kernel_rfl) (fun _ _ _ h => h) rfl (fun W hSw => ?_) (S2) ?_
          · (try dsimp only at hSw); go_simp <;> with_reducible rfl
          try simp only [Act.put, List.setIfInBounds_toArray, List.set_cons_zero, List.set_cons_succ]
          refine any_take (i := 19) (some 133) (.int .i64 o) rfl rfl (by kernel_rfl) (by kernel_rfl) (by kernel_rfl) (fun _ _ _ h => h) rfl (fun W hSw => ?_) (S2) ?_
          · (try dsimp only at hSw); go_simp <;> with_reducible rfl
          try simp only [Act.put, List.setIfInBounds_toArray, List.set_cons_zero, List.set_cons_succ]
          refine any_take (i := 20) (some 134) (.int .i64 t) rfl rfl (by kernel_rfl) (by kernel_rfl) (by kernel_rfl) (fun _ _ _ h => h) rfl (fun W hSw => ?_) (S2) ?_
          · (try dsimp only at hSw); go_simp <;> with_reducible rfl
          try simp only [Act.put, List.setIfInBounds_toArray, List.set_cons_zero, List.set_cons_succ]
          refine any_take (i := 22) (some 136) (.pointer (some ⟨bx, 3, none⟩)) rfl rfl (by kernel_rfl) (by kernel_rfl) (by kernel_rfl) (fun _ _ _ h => h) rfl (fun W hSw => ?_) (S2) ?_
          · (try dsimp only at hSw); go_simp <;> with_reducible rfl
          try simp only [Act.put, List.setIfInBounds_toArray, List.set_cons_zero, List.set_cons_succ]
          refine any_take (i := 23) (some 137) (.int .i64 d) rfl rfl (by kernel_rfl) (by kernel_rfl) (by kernel_rfl) (fun _ _ _ h => h) rfl (fun W hSw => ?_) (S2) ?_
          · (try dsimp only at hSw); go_simp <;> with_reducible rfl
          try simp only [Act.put, List.setIfInBounds_toArray, List.set_cons_zero, List.set_cons_succ]
          refine any_take (i := 24) (some 138) (.int .i64 sp) rfl rfl (by kernel_rfl) (by kernel_rfl) (by kernel_rfl) (fun _ _ _ h => h) rfl (fun W hSw => ?_) (S2) ?_
          · (try dsimp only at hSw); go_simp <;> with_reducible rfl
          try simp only [Act.put, List.setIfInBounds_toArray, List.set_cons_zero, List.set_cons_succ]
          refine any_take (i := 25) (some 139) (.int .i64 (sp - 1)) rfl rfl (by kernel_rfl) (by kernel_rfl) (by kernel_rfl) (fun _ _ _ h => h) rfl (fun W hSw => ?_) (S2) ?_
          · (try dsimp only at hSw); go_simp <;> with_reducible rfl
          try simp only [Act.put, List.setIfInBounds_toArray, List.set_cons_zero, List.set_cons_succ]
          refine any_take (i := 26) (some 140) (.int .i64 mn) rfl rfl (by kernel_rfl) (by kernel_rfl) (by kernel_rfl) (fun _ _ _ h => h) rfl (fun W hSw => ?_) (S2) ?_
          · (try dsimp only at hSw); go_simp <;> with_reducible rfl
          try simp only [Act.put, List.setIfInBounds_toArray, List.set_cons_zero, List.set_cons_succ]
          refine wpAnyH_ready (rs := [21]) (by kernel_rfl) (by simp) ?_
          refine AllReadyH.cons rfl (fun K hK => ?_) AllReadyH.nil
          go_simp
          go_at_call 10
          refine (spareI_any _ w8.heap.size A3 c3 l' o 30 1 t hl3 (by have := S2.2.size; omega) (H3R.out.below (S2.2.mono hsr8))).mono ?_
          rintro e v3 ⟨rfl, hb8⟩
          rw [HMN2.out]
          have hb9v3 : Below wr.heap.size wr v3 := bthen S2.2 hb8
          clear hb8
          have S3 : (fun W : World => (W.cell? ⟨bx, 3, none⟩ = some (.int .i64 d)) ∧ Below wr.heap.size wr W) v3 := ⟨(bold hb9v3 _ _ hbx).trans hcd, hb9v3⟩
          go_wp2_with fail
          refine hK.out _ _ S3 (fun _ => ?_)
          clear hK K
          try simp only [Act.put, List.setIfInBounds_toArray, List.set_cons_zero, List.set_cons_succ]
          refine any_take (i := 27) (some 141) (.bool true) rfl rfl (by kernel_rfl) (by kernel_rfl) (by kernel_rfl) (fun _ _ _ h => h) rfl (fun W hSw => ?_) (S3) ?_
          · (try dsimp only at hSw); go_simp <;> with_reducible rfl
          try simp only [Act.put, List.setIfInBounds_toArray, List.set_cons_zero, List.set_cons_succ]
          refine any_take (i := 28) (some 142) (.bool true) rfl rfl (by kernel_rfl) (by kernel_rfl) (by kernel_rfl) (fun _ _ _ h => h) rfl (fun W hSw => ?_) (S3) ?_
          · (try dsimp only at hSw); go_simp <;> with_reducible rfl
          try simp only [Act.put, List.setIfInBounds_toArray, List.set_cons_zero, List.set_cons_succ]
          refine any_take (i := 29) (some 143) (.bool true) rfl rfl (by kernel_rfl) (by kernel_rfl) (by kernel_rfl) (fun _ _ _ h => h) rfl (fun W hSw => ?_) (S3) ?_
          · (try dsimp only at hSw); go_simp <;> with_reducible rfl
          try simp only [Act.put, List.setIfInBounds_toArray, List.set_cons_zero, List.set_cons_succ]
          refine any_take (i := 30) (some 2) (.bool true) rfl rfl (by kernel_rfl) (by kernel_rfl) (by kernel_rfl) (fun _ _ _ h => h) rfl (fun W hSw => ?_) (S3) ?_
          · (try dsimp only at hSw); go_simp <;> with_reducible rfl
          try simp only [Act.put, List.setIfInBounds_toArray, List.set_cons_zero, List.set_cons_succ]
          refine wpAnyH_done (by kernel_rfl) ?_ _
          have HB9 := Lib.hid (bthen (bthen ZB.out ZR.out) S3.2)
          clear S0 S1 S2 S3
          go_wp2_with fail
          go_ret
          exact ⟨rfl, HB9.out⟩
        · have HNW := Lib.hid (show mayB l' o 30 1 t = false by rw [HNEW.out.1]; exact decide_eq_false hsp)
          have S0 : (fun W : World => (W.cell? ⟨bx, 3, none⟩ = some (.int .i64 d)) ∧ Below wr.heap.size wr W) wr.drew := ⟨hcd, (Below.refl _ _).drew⟩
          have q1 : decide ((1 : Int) ≤ sp) = false := decide_eq_false hsp; have q2 : decide (sp < 1) = true := decide_eq_true (by omega); have q3 : sp < 1 := by omega
          go_wp2_with fail
          refine wp_region_held_drew (S := (fun W : World => (W.cell? ⟨bx, 3, none⟩ = some (.int .i64 d)) ∧ Below wr.heap.size wr W)) (by kernel_rfl) S0 (fun _ => ?_)
          refine any_take (i := 0) (some 114) (.slice A0 l.length c0) rfl rfl (by kernel_rfl) (by kernel_rfl) (by kernel_rfl) (fun _ _ _ h => h) rfl (fun W hSw => ?_) (S0) ?_
          · (try dsimp only at hSw); go_simp <;> with_reducible rfl
          try simp only [Act.put, List.setIfInBounds_toArray, List.set_cons_zero, List.set_cons_succ]
          refine any_take (i := 1) (some 115) (.int .i64 o) rfl rfl (by kernel_rfl) (by kernel_rfl) (by kernel_rfl) (fun _ _ _ h => h) rfl (fun W hSw => ?_) (S0) ?_
          · (try dsimp only at hSw); go_simp <;> with_reducible rfl
          try simp only [Act.put, List.setIfInBounds_toArray, List.set_cons_zero, List.set_cons_succ]
          refine any_take (i := 2) (some 116) (.int .i64 t) rfl rfl (by kernel_rfl) (by kernel_rfl) (by kernel_rfl) (fun _ _ _ h => h) rfl (fun W hSw => ?_) (S0) ?_
          · (try dsimp only at hSw); go_simp <;> with_reducible rfl
          try simp only [Act.put, List.setIfInBounds_toArray, List.set_cons_zero, List.set_cons_succ]
          refine wpAnyH_ready (rs := [3]) (by kernel_rfl) (by simp) ?_
          refine AllReadyH.cons rfl (fun K hK => ?_) AllReadyH.nil
          go_simp
          go_at_call 12
          refine (mayI_any _ w1.heap.size A0 c0 l o 30 1 t hl2 (by have := ZR.out.size; simp; omega) (HG.out.below ZR.out.drew)).mono ?_
          rintro e v1 ⟨rfl, hb8⟩
          rw [HF0.out]
          have hb9v1 : Below wr.heap.size wr v1 := ((Below.refl wr.heap.size wr).drew).trans hb8
          clear hb8
          have S1 : (fun W : World => (W.cell? ⟨bx, 3, none⟩ = some (.int .i64 d)) ∧ Below wr.heap.size wr W) v1 := ⟨(bold hb9v1 _ _ hbx).trans hcd, hb9v1⟩
          go_wp2_with fail
          refine hK.out _ _ S1 (fun _ => ?_)
          clear hK K
          try simp only [Act.put, List.setIfInBounds_toArray, List.set_cons_zero, List.set_cons_succ]
          refine any_take (i := 4) (some 118) (.bool true) rfl rfl (by kernel_rfl) (by kernel_rfl) (by kernel_rfl) (fun _ _ _ h => h) rfl (fun W hSw => ?_) (S1) ?_
          · (try dsimp only at hSw); go_simp <;> with_reducible rfl
          try simp only [Act.put, List.setIfInBounds_toArray, List.set_cons_zero, List.set_cons_succ]
          refine any_take (i := 5) (some 119) (.bool true) rfl rfl (by kernel_rfl) (by kernel_rfl) (by kernel_rfl) (fun _ _ _ h => h) rfl (fun W hSw => ?_) (S1) ?_
          · (try dsimp only at hSw); go_simp <;> with_reducible rfl
          try simp only [Act.put, List.setIfInBounds_toArray, List.set_cons_zero, List.set_cons_succ]
          refine any_take (i := 6) (some 120) (.slice A3 l'.length c3) rfl rfl (by kernel_rfl) (by kernel_rfl) (by kernel_rfl) (fun _ _ _ h => h) rfl (fun W hSw => ?_) (S1) ?_
          · (try dsimp only at hSw); go_simp <;> with_reducible rfl
          try simp only [Act.put, List.setIfInBounds_toArray, List.set_cons_zero, List.set_cons_succ]
          refine any_take (i := 7) (some 121) (.int .i64 o) rfl rfl (by kernel_rfl) (by kernel_rfl) (by kernel_rfl) (fun _ _ _ h => h) rfl (fun W hSw => ?_) (S1) ?_
          · (try dsimp only at hSw); go_simp <;> with_reducible rfl
          try simp only [Act.put, List.setIfInBounds_toArray, List.set_cons_zero, List.set_cons_succ]
          refine any_take (i := 8) (some 122) (.int .i64 t) rfl rfl (by kernel_rfl) (by kernel_rfl) (by kernel_rfl) (fun _ _ _ h => h) rfl (fun W hSw => ?_) (S1) ?_
          · (try dsimp only at hSw); go_simp <;> with_reducible rfl
          try simp only [Act.put, List.setIfInBounds_toArray, List.set_cons_zero, List.set_cons_succ]
          refine any_take (i := 10) (some 124) (.int .i64 sp) rfl rfl (by kernel_rfl) (by kernel_rfl) (by kernel_rfl) (fun _ _ _ h => h) rfl (fun W hSw => ?_) (S1) ?_
          · (try dsimp only at hSw); go_simp <;> with_reducible rfl
          try simp only [Act.put, List.setIfInBounds_toArray, List.set_cons_zero, List.set_cons_succ]
          refine any_take (i := 11) (some 125) (.bool false) rfl rfl (by kernel_rfl) (by kernel_rfl) (by kernel_rfl) (fun _ _ _ h => h) rfl (fun W hSw => ?_) (S1) ?_
          · (try dsimp only at hSw); go_simp <;> with_reducible rfl
          try simp only [Act.put, List.setIfInBounds_toArray, List.set_cons_zero, List.set_cons_succ]
          refine wpAnyH_ready (rs := [9]) (by kernel_rfl) (by simp) ?_
          refine AllReadyH.cons rfl (fun K hK => ?_) AllReadyH.nil
          go_simp
          go_at_call 12
          refine (mayI_any _ w8.heap.size A3 c3 l' o 30 1 t hl3 (by have := S1.2.size; omega) (H3R.out.below (S1.2.mono hsr8))).mono ?_
          rintro e v2 ⟨rfl, hb8⟩
          rw [HNW.out]
          have hb9v2 : Below wr.heap.size wr v2 := bthen S1.2 hb8
          clear hb8
          have S2 : (fun W : World => (W.cell? ⟨bx, 3, none⟩ = some (.int .i64 d)) ∧ Below wr.heap.size wr W) v2 := ⟨(bold hb9v2 _ _ hbx).trans hcd, hb9v2⟩
          go_wp2_with fail
          refine hK.out _ _ S2 (fun _ => ?_)
          clear hK K
          try simp only [Act.put, List.setIfInBounds_toArray, List.set_cons_zero, List.set_cons_succ]
          refine any_take (i := 12) (some 126) (.bool true) rfl rfl (by kernel_rfl) (by kernel_rfl) (by kernel_rfl) (fun _ _ _ h => h) rfl (fun W hSw => ?_) (S2) ?_
          · (try dsimp only at hSw); go_simp <;> with_reducible rfl
          try simp only [Act.put, List.setIfInBounds_toArray, List.set_cons_zero, List.set_cons_succ]
          refine any_take (i := 13) (some 127) (.bool true) rfl rfl (by kernel_rfl) (by kernel_rfl) (by kernel_rfl) (fun _ _ _ h => h) rfl (fun W hSw => ?_) (S2) ?_
          · (try dsimp only at hSw); go_simp <;> with_reducible rfl
          try simp only [Act.put, List.setIfInBounds_toArray, List.set_cons_zero, List.set_cons_succ]
          refine any_take (i := 14) (some 128) (.bool true) rfl rfl (by kernel_rfl) (by kernel_rfl) (by kernel_rfl) (fun _ _ _ h => h) rfl (fun W hSw => ?_) (S2) ?_
          · (try dsimp only at hSw); go_simp <;> with_reducible rfl
          try simp only [Act.put, List.setIfInBounds_toArray, List.set_cons_zero, List.set_cons_succ]
          refine any_take (i := 15) (some 129) (.int .i64 sp) rfl rfl (by kernel_rfl) (by kernel_rfl) (by kernel_rfl) (fun _ _ _ h => h) rfl (fun W hSw => ?_) (S2) ?_
          · (try dsimp only at hSw); go_simp <;> with_reducible rfl
          try simp only [Act.put, List.setIfInBounds_toArray, List.set_cons_zero, List.set_cons_succ]
          refine any_take (i := 16) (some 130) (.bool true) rfl rfl (by kernel_rfl) (by kernel_rfl) (by kernel_rfl) (fun _ _ _ h => h) rfl (fun W hSw => ?_) (S2) ?_
          · (try dsimp only at hSw); go_simp <;> with_reducible rfl
          try simp only [Act.put, List.setIfInBounds_toArray, List.set_cons_zero, List.set_cons_succ]
          refine any_take (i := 17) (some 131) (.bool true) rfl rfl (by kernel_rfl) (by kernel_rfl) (by kernel_rfl) (fun _ _ _ h => h) rfl (fun W hSw => ?_) (S2) ?_
          · (try dsimp only at hSw); go_simp <;> with_reducible rfl
          try simp only [Act.put, List.setIfInBounds_toArray, List.set_cons_zero, List.set_cons_succ]
          refine any_skip (i := 18) (some 132) rfl rfl (by kernel_rfl) (by kernel_rfl) (by kernel_rfl) (fun _ _ _ h => h) rfl (S2) ?_
          try simp only [Act.put, List.setIfInBounds_toArray, List.set_cons_zero, List.set_cons_succ]
          refine any_skip (i := 19) (some 133) rfl rfl (by kernel_rfl) (by kernel_rfl) (by kernel_rfl) (fun _ _ _ h => h) rfl (S2) ?_
          try simp only [Act.put, List.setIfInBounds_toArray, List.set_cons_zero, List.set_cons_succ]
          refine any_skip (i := 20) (some 134) rfl rfl (by kernel_rfl) (by kernel_rfl) (by kernel_rfl) (fun _ _ _ h => h) rfl (S2) ?_
          try simp only [Act.put, List.setIfInBounds_toArray, List.set_cons_zero, List.set_cons_succ]
          refine any_skip (i := 22) (some 136) rfl rfl (by kernel_rfl) (by kernel_rfl) (by kernel_rfl) (fun _ _ _ h => h) rfl (S2) ?_
          try simp only [Act.put, List.setIfInBounds_toArray, List.set_cons_zero, List.set_cons_succ]
          refine any_skip (i := 23) (some 137) rfl rfl (by kernel_rfl) (by kernel_rfl) (by kernel_rfl) (fun _ _ _ h => h) rfl (S2) ?_
          try simp only [Act.put, List.setIfInBounds_toArray, List.set_cons_zero, List.set_cons_succ]
          refine any_skip (i := 24) (some 138) rfl rfl (by kernel_rfl) (by kernel_rfl) (by kernel_rfl) (fun _ _ _ h => h) rfl (S2) ?_
          try simp only [Act.put, List.setIfInBounds_toArray, List.set_cons_zero, List.set_cons_succ]
          refine any_skip (i := 25) (some 139) rfl rfl (by kernel_rfl) (by kernel_rfl) (by kernel_rfl) (fun _ _ _ h => h) rfl (S2) ?_
          try simp only [Act.put, List.setIfInBounds_toArray, List.set_cons_zero, List.set_cons_succ]
          refine any_skip (i := 26) (some 140) rfl rfl (by kernel_rfl) (by kernel_rfl) (by kernel_rfl) (fun _ _ _ h => h) rfl (S2) ?_
          try simp only [Act.put, List.setIfInBounds_toArray, List.set_cons_zero, List.set_cons_succ]
          refine any_skip (i := 21) (some 135) rfl rfl (by kernel_rfl) (by kernel_rfl) (by kernel_rfl) (fun _ _ _ h => h) rfl (S2) ?_
          try simp only [Act.put, List.setIfInBounds_toArray, List.set_cons_zero, List.set_cons_succ]
          refine any_skip (i := 27) (some 141) rfl rfl (by kernel_rfl) (by kernel_rfl) (by kernel_rfl) (fun _ _ _ h => h) rfl (S2) ?_
          try simp only [Act.put, List.setIfInBounds_toArray, List.set_cons_zero, List.set_cons_succ]
          refine any_take (i := 28) (some 142) (.bool true) rfl rfl (by kernel_rfl) (by kernel_rfl) (by kernel_rfl) (fun _ _ _ h => h) rfl (fun W hSw => ?_) (S2) ?_
          · (try dsimp only at hSw); go_simp <;> with_reducible rfl
          try simp only [Act.put, List.setIfInBounds_toArray, List.set_cons_zero, List.set_cons_succ]
          refine any_take (i := 29) (some 143) (.bool true) rfl rfl (by kernel_rfl) (by kernel_rfl) (by kernel_rfl) (fun _ _ _ h => h) rfl (fun W hSw => ?_) (S2) ?_
          · (try dsimp only at hSw); go_simp <;> with_reducible rfl
          try simp only [Act.put, List.setIfInBounds_toArray, List.set_cons_zero, List.set_cons_succ]
          refine any_take (i := 30) (some 2) (.bool true) rfl rfl (by kernel_rfl) (by kernel_rfl) (by kernel_rfl) (fun _ _ _ h => h) rfl (fun W hSw => ?_) (S2) ?_
          · (try dsimp only at hSw); go_simp <;> with_reducible rfl
          try simp only [Act.put, List.setIfInBounds_toArray, List.set_cons_zero, List.set_cons_succ]
          refine wpAnyH_done (by kernel_rfl) ?_ _
          have HB9 := Lib.hid (bthen (bthen ZB.out ZR.out) S2.2)
          clear S0 S1 S2
          go_wp2_with fail
          go_ret
          exact ⟨rfl, HB9.out⟩
end Go.Proofs.Ytphdmpjmhocfhaa
