/- Chapter 3: the walk of the law FnGuesses. -/
import Derived.Test.YtjpafmkmpnibgaaDoorGueP
import Derived.Test.YtjpafmkmpnibgaaDoorDrwE
import Derived.Test.YtjpafmkmpnibgaaDoorTryD
namespace Go.Proofs.YtjpafmkmpnibgaaDoor
open Go.RowKit
set_option linter.unusedVariables false

/-- the drawn numbers lie in block kb -/
def KE (W : World) (kb : Nat) (bs : List Int) : Prop := kb < W.heap.size ∧ ∀ (j : Nat), j < 12 → W.cell? ⟨kb, j, none⟩ = some (.int .i64 (plV bs j))
theorem KE.call {W W' : World} {kb : Nat} {bs : List Int} (h : KE W kb bs) (hb : Below W.heap.size W W') : KE W' kb bs :=
  ⟨Nat.lt_of_lt_of_le h.1 hb.size, fun j hj => (hb.cell (p := ⟨kb, j, none⟩) h.1).trans (h.2 j hj)⟩
theorem KE.setn {W : World} {kb : Nat} {bs : List Int} (h : KE W kb bs) {k : Nat} (hne : kb ≠ k) (i : Nat) (v : Value) : KE (W.setCell ⟨k, i, none⟩ v) kb bs :=
  ⟨by rw [size_set]; exact h.1, fun j hj => (World.cell?_of_block (Below.heap_setCell W ⟨k, i, none⟩ v kb hne)).trans (h.2 j hj)⟩
theorem KE.set5 {W : World} {kb : Nat} {bs : List Int} (h : KE W kb bs) {k : Nat} (hne : kb ≠ k) (a b c d e : Value) : KE (((((W.setCell ⟨k, 0, none⟩ a).setCell ⟨k, 1, none⟩ b).setCell ⟨k, 2, none⟩ c).setCell ⟨k, 3, none⟩ d).setCell ⟨k, 4, none⟩ e) kb bs :=
  ((((h.setn hne 0 a).setn hne 1 b).setn hne 2 c).setn hne 3 d).setn hne 4 e
theorem far5 {W : World} {g k : Nat} {t : TypeId} {cs : Array Value} (h : Has W g t cs) (hne : g ≠ k) (a b c d e : Value) : Has (((((W.setCell ⟨k, 0, none⟩ a).setCell ⟨k, 1, none⟩ b).setCell ⟨k, 2, none⟩ c).setCell ⟨k, 3, none⟩ d).setCell ⟨k, 4, none⟩ e) g t cs :=
  has_far (has_far (has_far (has_far (has_far h (p := ⟨k, 0, none⟩) hne a) (p := ⟨k, 1, none⟩) hne b) (p := ⟨k, 2, none⟩) hne c) (p := ⟨k, 3, none⟩) hne d) (p := ⟨k, 4, none⟩) hne e
/-- a try with a wrong code of a lock that has its state -/
theorem gue_try {q : Nat} {s t p u now c : Int} (h : GInv q t p u now c) (s0 : 1 ≤ s) (s1 : s ≤ 100000) (h0 : 0 ≤ now) (hn : now ≤ 300) :
    ∃ (q' : Nat) (t' p' u' r c' : Int), lkT s (enterK s 0 t p u (findN (fun m => shownL s m [wrongS]) 0 (fcnt 0 5 1)) 1 now) = .tuple #[.agg #[.int .i64 s, .int .i64 0, .int .i64 t', .int .i64 p', .int .i64 u'], .int .i64 r] ∧ GInv q' t' p' u' now c' ∧ ((r = 1 ∧ c' = c) ∨ ((r != 1) = true ∧ c' = c + 1)) := by
  by_cases hw : now < u
  · exact ⟨q, t, p, u, 1, c, by rw [wrong_wait (h.lock s0 s1) h0 (by omega) hw]; rfl, h, .inl ⟨rfl, rfl⟩⟩
  · obtain ⟨q', t', p', u', r, hr, hne, _, hg⟩ := h.step hw hn
    exact ⟨q', t', p', u', r, c + 1, by rw [wrong_try (h.lock s0 s1) h0 (by omega) hw, hr]; rfl, hg, .inr ⟨hne, rfl⟩⟩
theorem all_try {q : Nat} {s t p u T c : Int} (h : AInv q t p u T c) (s0 : 1 ≤ s) (s1 : s ≤ 100000) (h0 : 0 ≤ T) (hn : T ≤ 300) :
    (T < u ∧ lkT s (enterK s 0 t p u (findN (fun m => shownL s m [wrongS]) 0 (fcnt 0 5 1)) 1 T) = .tuple #[.agg #[.int .i64 s, .int .i64 0, .int .i64 t, .int .i64 p, .int .i64 u], .int .i64 1]) ∨
    (¬ T < u ∧ ∃ (q' : Nat) (t' p' u' r : Int), lkT s (enterK s 0 t p u (findN (fun m => shownL s m [wrongS]) 0 (fcnt 0 5 1)) 1 T) = .tuple #[.agg #[.int .i64 s, .int .i64 0, .int .i64 t', .int .i64 p', .int .i64 u'], .int .i64 r] ∧ (r == 1) = false ∧ AInv q' t' p' u' T (c + 1) ∧ ((q' = q) ∨ (q' = q + 1 ∧ t' = 0 ∧ T < u'))) := by
  by_cases hw : T < u
  · exact .inl ⟨hw, by rw [wrong_wait (h.lock hn s0 s1) h0 (by omega) hw]; rfl⟩
  · obtain ⟨q', t', p', u', r, hr, hne, hg, hc⟩ := h.step hw
    exact .inr ⟨hw, q', t', p', u', r, by rw [wrong_try (h.lock hn s0 s1) h0 (by omega) hw, hr]; rfl, hne, hg, hc⟩
set_option maxRecDepth 100000 in
set_option maxHeartbeats 8000000 in
theorem gues_walk (w : World) (A : Option Addr) (na ca : Nat) (hn : na ≤ maxLen) (hS : BS w w.heap.size A na) (hR : Rounds w) :
    Calls Tryd.prog 8 #[.slice A na ca] w fun e w' => e = .returned (.bool true) ∧ Below w.heap.size w w' := by
  obtain ⟨bs, hbs, hBL⟩ := bl_of hS
  subst hbs
  have HS := Lib.hid hBL; have HR := Lib.hid hR; clear hS hR hBL
  have HBG := Lib.hid (fun W => big_any W A bs.length ca hn)
  have HPL := Lib.hid (fun W (h : BL W W.heap.size A bs) => placesE_any W A ca bs hn h)
  clear hn
  generalize bs.length = na at HBG HPL ⊢
  by_cases hbig : (1048576 : Int) < na
  · have hd : decide ((1048576 : Int) < na) = true := by simpa using hbig
    have HD := Lib.hid hd; clear hd
    go_enter Tryd.func8, Tryd.ntmps8
    go_wp2_with (refine (HBG.out _).mono ?_; rintro e w' ⟨rfl, hw⟩; rw [hw, HD.out]; clear hw)
    go_ret
    exact ⟨rfl, Below.refl _ _⟩
  have hd : decide ((1048576 : Int) < na) = false := by simpa using hbig
  have HD := Lib.hid hd; clear hd hbig
  go_enter Tryd.func8, Tryd.ntmps8
  go_wp2_with (go_at_call 23; refine (HBG.out _).mono ?_; rintro e w' ⟨rfl, hw⟩; rw [hw, HD.out]; clear hw)
  refine (HPL.out w HS.out).mono ?_
  rintro e w1 ⟨b1, c1, rfl, hc1, hlt1, hge1, hb1⟩
  have y0 := hc1 0 (by omega)
  have hv0 := plV_bd bs 0
  obtain ⟨v0, hv0e⟩ : ∃ v, plV bs 0 = v := ⟨_, rfl⟩
  rw [hv0e] at y0 hv0
  obtain ⟨hv00, hv01⟩ := hv0
  have HV0 := Lib.hid hv0e
  clear hc1 hge1 hv0e
  go_wp2_with fail
  clear y0
  generalize hsv : 1 + v0 = s
  have s0 : 1 ≤ s := by omega
  have s1 : s ≤ 100000 := by omega
  have HSV := Lib.hid hsv
  clear hsv hv00 hv01 hlt1
  have HNK := Lib.hid (newK_yes (s := s) (secB_iff.2 (by omega)))
  refine (newKI_any w1 s).mono ?_
  rintro e w2 ⟨rfl, hb2⟩
  rw [HNK.out]
  have c2 := bthen hb1 hb2
  clear hb1 hb2
  go_wp2_with fail
  generalize hW3 : (w2.alloc (.cells #[.int .i64 s, .int .i64 0, .int .i64 0, .int .i64 0, .int .i64 0] 27)) = w3
  have b3 : Below w2.heap.size w2 w3 := by rw [← hW3]; exact balloc _ _
  have K3 := Lib.hid (show Has w3 w2.heap.size 27 #[.int .i64 s, .int .i64 0, .int .i64 0, .int .i64 0, .int .i64 0] by rw [← hW3]; exact has_new _ _ _)
  have z3 : w3.heap.size = w2.heap.size + 1 := by rw [← hW3]; simp
  clear hW3
  have c3 := bthen c2 b3
  have z2 := c2.size
  refine (HPL.out w3 ((HS.out.below c3).more c3.size)).mono ?_
  rintro e w4 ⟨kb, kc, rfl, hkc, hklt, hkge, hb4⟩
  have KE4 := Lib.hid (show KE w4 kb bs from ⟨hklt, hkc⟩)
  have K4 := Lib.hid (has_call K3.out hb4)
  have C4 := Lib.hid (bthen c3 hb4)
  have y0 := hkc 0 (by omega)
  rw [HV0.out] at y0
  clear hkc c2 c3 b3 hb4 K3 HPL HS
  have hs2 := HSV.out
  go_wp2_with fail
  clear y0
  try rw [hs2]
  clear hs2 HSV HV0
  refine (newKS_any w4 s).mono ?_
  rintro e w5 ⟨rfl, hb5⟩
  rw [HNK.out]
  have KE5 := Lib.hid (KE4.out.call hb5); have K5 := Lib.hid (has_call K4.out hb5); have C5 := Lib.hid (bthen C4.out hb5)
  have z5 := hb5.size
  clear hb5 KE4 K4 C4 HNK
  have e0 := has_cell K5.out 0 rfl; have e1 := has_cell K5.out 1 rfl; have e2 := has_cell K5.out 2 rfl; have e3 := has_cell K5.out 3 rfl; have e4 := has_cell K5.out 4 rfl; have elt := has_lt K5.out
  have hss : (s != s) = false := by simp
  go_wp2_with fail
  clear e0 e1 e2 e3 e4 elt hss
  generalize hW6 : (w5.alloc (.cells #[.int .i64 s, .int .i64 0, .int .i64 0, .int .i64 0, .int .i64 0] 27)) = w6
  have b6 : Below w5.heap.size w5 w6 := by rw [← hW6]; exact balloc _ _
  have M6 := Lib.hid (show Has w6 w5.heap.size 27 #[.int .i64 s, .int .i64 0, .int .i64 0, .int .i64 0, .int .i64 0] by rw [← hW6]; exact has_new _ _ _)
  clear hW6
  have KE6 := Lib.hid (KE5.out.call b6); have K6 := Lib.hid (has_call K5.out b6); have C6 := Lib.hid (bthen C5.out b6)
  have hAB : w2.heap.size ≠ w5.heap.size := by omega
  have hBA : w5.heap.size ≠ w2.heap.size := by omega
  have hkA : kb ≠ w2.heap.size := by omega
  have hkB : kb ≠ w5.heap.size := by omega
  have hA : w.heap.size ≤ w2.heap.size := z2
  have hB : w.heap.size ≤ w5.heap.size := by omega
  generalize w2.heap.size = lA at *
  generalize w5.heap.size = lB at *
  clear b6 KE5 K5 C5 z3 z2 z5 hklt hkge
  go_loopw [8, 9, 10] (fun nowv nv iv wr => ∃ (k q : Nat) (t p u now c : Int), k ≤ 12 ∧ iv = .int .i64 k ∧ nowv = .int .i64 now ∧ nv = .int .i64 c ∧ GInv q t p u now c ∧ 0 ≤ now ∧ now ≤ 5 * k ∧ 0 ≤ c ∧ c ≤ 4 * k ∧ Has wr lA 27 #[.int .i64 s, .int .i64 0, .int .i64 t, .int .i64 p, .int .i64 u] ∧ Has wr lB 27 #[.int .i64 s, .int .i64 0, .int .i64 0, .int .i64 0, .int .i64 0] ∧ KE wr kb bs ∧ Below w.heap.size w wr) (fun _ _ iv _ => 12 - (intOf iv).toNat)
  case atStart => exact ⟨0, 0, 0, 0, 0, 0, 0, by omega, rfl, rfl, rfl, ⟨by omega, by decide, by decide, by omega, by omega, fun h => by omega, fun h => by omega⟩, by omega, by omega, by omega, by omega, K6.out, M6.out, KE6.out, C6.out⟩
  case round =>
    obtain ⟨k, q, t, p, u, now, c, hk, rfl, rfl, rfl, hG, hw0, hw1, hc0, hc1, hK, hM, hKE, hC⟩ := hrel
    have G := Lib.hid hG; have K := Lib.hid hK; have M := Lib.hid hM; have E := Lib.hid hKE; have C := Lib.hid hC
    clear hG hK hM hKE hC K6 M6 KE6 C6
    by_cases hlt : k < 12
    · have y0 := E.out.2 k hlt
      have y1 := E.out.2 (11 - k) (by omega)
      have hx0 := plV_bd bs k
      have hx1 := plV_bd bs (11 - k)
      generalize plV bs k = x0 at *
      generalize plV bs (11 - k) = x1 at *
      obtain ⟨r00, r01⟩ := hx0
      obtain ⟨r10, r11⟩ := hx1
      have h6a := Int.emod_nonneg x0 (show (6 : Int) ≠ 0 by omega)
      have h6b := Int.emod_lt_of_pos x0 (show (0 : Int) < 6 by omega)
      have h5a := Int.emod_nonneg x1 (show (5 : Int) ≠ 0 by omega)
      have h5b := Int.emod_lt_of_pos x1 (show (0 : Int) < 5 by omega)
      have hidx : (11 : Int) - (k : Int) = ((11 - k : Nat) : Int) := by omega
      have klt := E.out.1
      go_wp2_with fail
      clear y0 y1 klt hidx
      generalize hnw : now + x0 % 6 = now2 at *
      have hn20 : 0 ≤ now2 := by omega
      have hn21 : now2 ≤ 5 * ((k : Int) + 1) := by omega
      have G2 := Lib.hid (G.out.later (now' := now2) (by omega))
      generalize htt : x1 % 5 = tt0 at *
      clear hnw htt h6a h6b r00 r01 r10 r11 G
      have hd12 : decide ((k : Int) < 12) = true := decide_eq_true (by omega)
      try rw [hd12]
      clear hd12
      go_loopw [9, 11] (fun nv tv wr => ∃ (q : Nat) (t p u c tt : Int), nv = .int .i64 c ∧ tv = .int .i64 tt ∧ 0 ≤ tt ∧ GInv q t p u now2 c ∧ 0 ≤ c ∧ c + tt ≤ 4 * ((k : Int) + 1) ∧ Has wr lA 27 #[.int .i64 s, .int .i64 0, .int .i64 t, .int .i64 p, .int .i64 u] ∧ Has wr lB 27 #[.int .i64 s, .int .i64 0, .int .i64 0, .int .i64 0, .int .i64 0] ∧ KE wr kb bs ∧ Below w.heap.size w wr) (fun _ tv _ => (intOf tv).toNat)
      case atStart => exact ⟨q, t, p, u, c, tt0, rfl, rfl, h5a, G2.out, hc0, by omega, K.out, M.out, E.out, C.out⟩
      case round =>
        clear G2 K M E C hc0 hc1 h5a h5b
        obtain ⟨q, t, p, u, c, tt, rfl, rfl, ht0, hG, hc0, hct, hK, hM, hKE, hC⟩ := hrel
        have G := Lib.hid hG; have K := Lib.hid hK; have M := Lib.hid hM; have E := Lib.hid hKE; have C := Lib.hid hC
        clear hG hK hM hKE hC
        by_cases htp : 0 < tt
        · obtain ⟨q', t', p', u', r, c', hT, hG', hcs⟩ := gue_try G.out s0 s1 hn20 (by omega)
          have HT := Lib.hid hT; have G' := Lib.hid hG'; have HCS := Lib.hid hcs
          clear hT hG' hcs G
          have e0 := has_cell K.out 0 rfl; have e1 := has_cell K.out 1 rfl; have e2 := has_cell K.out 2 rfl; have e3 := has_cell K.out 3 rfl; have e4 := has_cell K.out 4 rfl; have elt := has_lt K.out
          go_wp2_with fail
          clear e0 e1 e2 e3 e4 elt
          refine (tryI_any _ s 0 t p u now2 wrongS (HR.out.below C.out)).mono ?_
          rintro e v1 ⟨rfl, hb⟩
          rw [HT.out]
          have K1 := Lib.hid (has_call K.out hb); have M1 := Lib.hid (has_call M.out hb); have E1 := Lib.hid (E.out.call hb); have C1 := Lib.hid (bthen C.out hb)
          clear hb K M E C
          have e0 := has_cell K1.out 0 rfl; have e1 := has_cell K1.out 1 rfl; have e2 := has_cell K1.out 2 rfl; have e3 := has_cell K1.out 3 rfl; have e4 := has_cell K1.out 4 rfl; have elt := has_lt K1.out
          go_wp2_with fail
          clear e0 e1 e2 e3 e4 elt
          generalize hW : (v1.alloc (.cells #[.int .i64 s, .int .i64 0, .int .i64 t', .int .i64 p', .int .i64 u'] 27)) = v2
          have hb : Below v1.heap.size v1 v2 := by rw [← hW]; exact balloc _ _
          have X2 := Lib.hid (show Has v2 v1.heap.size 27 #[.int .i64 s, .int .i64 0, .int .i64 t', .int .i64 p', .int .i64 u'] by rw [← hW]; exact has_new _ _ _)
          clear hW
          have K2 := Lib.hid (has_call K1.out hb); have M2 := Lib.hid (has_call M1.out hb); have E2 := Lib.hid (E1.out.call hb); have C2 := Lib.hid (bthen C1.out hb)
          clear hb K1 M1 E1 C1
          refine (tryS_any _ s 0 t p u now2 wrongS).mono ?_
          rintro e v3 ⟨rfl, hb⟩
          rw [HT.out]
          have X3 := Lib.hid (has_call X2.out hb); have K3 := Lib.hid (has_call K2.out hb); have M3 := Lib.hid (has_call M2.out hb); have E3 := Lib.hid (E2.out.call hb); have C3 := Lib.hid (bthen C2.out hb)
          clear hb X2 K2 M2 E2 C2 HT
          have hb := balloc v3 (.cells #[.int .i64 s, .int .i64 0, .int .i64 t', .int .i64 p', .int .i64 u'] 27)
          have k3 := has_call K3.out hb
          have e0 := has_cell k3 0 rfl; have e1 := has_cell k3 1 rfl; have e2 := has_cell k3 2 rfl; have e3 := has_cell k3 3 rfl; have e4 := has_cell k3 4 rfl; have elt := has_lt k3
          have f0 := has_free k3 0; have f1 := has_free k3 1; have f2 := has_free k3 2; have f3 := has_free k3 3; have f4 := has_free k3 4
          have x0 := has_cell X3.out 0 rfl; have x1 := has_cell X3.out 1 rfl; have x2 := has_cell X3.out 2 rfl; have x3 := has_cell X3.out 3 rfl; have x4 := has_cell X3.out 4 rfl; have xlt := has_lt X3.out
          have FK := Lib.hid (hset5 k3 (.int .i64 s) (.int .i64 0) (.int .i64 t') (.int .i64 p') (.int .i64 u'))
          have FM := Lib.hid (far5 (has_call M3.out hb) hBA (.int .i64 s) (.int .i64 0) (.int .i64 t') (.int .i64 p') (.int .i64 u'))
          have FE := Lib.hid ((E3.out.call hb).set5 hkA (.int .i64 s) (.int .i64 0) (.int .i64 t') (.int .i64 p') (.int .i64 u'))
          have FC := Lib.hid (bset5 hA (.int .i64 s) (.int .i64 0) (.int .i64 t') (.int .i64 p') (.int .i64 u') (bthen C3.out hb))
          clear hb k3 X3 K3 M3 E3 C3
          rcases HCS.out with ⟨hr1, hcc⟩ | ⟨hr1, hcc⟩
          · subst hr1; subst hcc
            go_wp2_with fail
            go_roundw
            case rel => exact ⟨q', t', p', u', _, tt - 1, rfl, rfl, by omega, G'.out, hc0, by omega, FK.out, FM.out, FE.out, FC.out⟩
            case measure => simp [intOf]; omega
          · subst hcc
            go_wp2_with fail
            go_roundw
            case rel => exact ⟨q', t', p', u', c + 1, tt - 1, rfl, rfl, by omega, G'.out, by omega, by omega, FK.out, FM.out, FE.out, FC.out⟩
            case measure => simp [intOf]; omega
        · go_wp2_with fail
          go_roundw
          case rel => exact ⟨k + 1, q, t, p, u, now2, c, by omega, by go_num, rfl, rfl, G.out, hn20, by omega, hc0, by omega, K.out, M.out, E.out, C.out⟩
          case measure => simp [intOf]; omega
    · have HLE := Lib.hid (G.out.le hw0 (by omega))
      have y1 := E.out.2 1 (by omega)
      have klt := E.out.1
      have hx1 := plV_bd bs 1
      generalize plV bs 1 = x1 at *
      obtain ⟨r10, r11⟩ := hx1
      have h5a := Int.emod_nonneg x1 (show (120 : Int) ≠ 0 by omega)
      have h5b := Int.emod_lt_of_pos x1 (show (0 : Int) < 120 by omega)
      go_wp2_with fail
      clear y1 klt
      generalize hen : x1 % 120 = en at *
      clear hen r10 r11 G K E
      go_loopw [16, 18] (fun allv tv wr => ∃ (q : Nat) (p u T a : Int), allv = .int .i64 a ∧ tv = .int .i64 T ∧ AInv q 0 p u T a ∧ (0 < q → sP (q - 1) ≤ T - 1) ∧ 0 ≤ T ∧ T ≤ en + 1 ∧ 0 ≤ a ∧ Has wr lB 27 #[.int .i64 s, .int .i64 0, .int .i64 0, .int .i64 p, .int .i64 u] ∧ Below w.heap.size w wr) (fun _ tv _ => (en + 1 - intOf tv).toNat)
      case atStart => exact ⟨0, 0, 0, 0, 0, rfl, rfl, ⟨by omega, by decide, by decide, by decide, by decide, by omega, fun h => by omega, fun h => by omega⟩, fun h => by omega, by omega, by omega, by omega, M.out, C.out⟩
      case round =>
        clear M C
        obtain ⟨q0, p, u, T, a, rfl, rfl, hA0, hlast, hT0, hT1, ha0, hM, hC⟩ := hrel
        have AI := Lib.hid hA0; have LA := Lib.hid hlast; have M := Lib.hid hM; have C := Lib.hid hC
        clear hA0 hlast hM hC
        by_cases hTe : T ≤ en
        · go_wp2_with fail
          go_loopw [16] (fun allv wr => ∃ (q : Nat) (t p u a : Int), allv = .int .i64 a ∧ AInv q t p u T a ∧ ((q = q0) ∨ (q = q0 + 1 ∧ t = 0 ∧ T < u)) ∧ 0 ≤ a ∧ Has wr lB 27 #[.int .i64 s, .int .i64 0, .int .i64 t, .int .i64 p, .int .i64 u] ∧ Below w.heap.size w wr) (fun allv _ => (3 * (q0 : Int) + 4 - intOf allv).toNat)
          case atStart => exact ⟨q0, 0, p, u, a, rfl, AI.out, .inl rfl, ha0, M.out, C.out⟩
          case round =>
            clear AI LA M C ha0
            obtain ⟨q, t, p, u, a, rfl, hA0, hqq, ha0, hM, hC⟩ := hrel
            have hqa : a ≤ 3 * (q0 : Int) + 3 ∧ q ≤ q0 + 1 := by
              obtain ⟨g1, g2, g3, g4, g5, g6, g7, g8⟩ := hA0
              omega
            have hqb : sP q ≤ T + 64 := hA0.2.2.2.2.1
            have hqs := sP_ge q
            obtain ⟨hqa1, hqa2⟩ := hqa
            have hab : a ≤ 600 := by
              obtain ⟨g1, g2, g3, g4, g5, g6, g7, g8⟩ := hA0
              omega
            have AI := Lib.hid hA0; have M := Lib.hid hM; have C := Lib.hid hC; have QQ := Lib.hid hqq
            clear hA0 hM hC hqb hqs hqq
            have e0 := has_cell M.out 0 rfl; have e1 := has_cell M.out 1 rfl; have e2 := has_cell M.out 2 rfl; have e3 := has_cell M.out 3 rfl; have e4 := has_cell M.out 4 rfl; have elt := has_lt M.out
            go_wp2_with fail
            clear e0 e1 e2 e3 e4 elt
            refine (tryS_any _ s 0 t p u T wrongS).mono ?_
            rintro e v1 ⟨rfl, hb⟩
            have M1 := Lib.hid (has_call M.out hb); have C1 := Lib.hid (bthen C.out hb)
            clear hb M C
            rcases all_try AI.out s0 s1 hT0 (by omega) with ⟨hwu, hT⟩ | ⟨hwu, q', t', p', u', r, hT, hr, hA', hq'⟩
            · rw [hT]
              clear hT
              have hnx := AI.out.next hwu
              have hl8 := AI.out.2.2.2.2.2.2.2
              have HNX := Lib.hid hnx.1; have HL8 := Lib.hid hl8
              obtain rfl : t = 0 := hnx.2
              clear hnx hl8
              go_wp2_with fail
              go_roundw
              case rel => exact ⟨q, p, u, T + 1, a, rfl, by go_num, HNX.out, fun h => by have := HL8.out h; omega, by omega, by omega, ha0, has_call M1.out (balloc _ _), bthen C1.out (balloc _ _)⟩
              case measure => simp [intOf]; omega
            · rw [hT]
              have HA' := Lib.hid hA'; have HQ' := Lib.hid hq'
              clear hT hA' hq'
              have hb := balloc v1 (.cells #[.int .i64 s, .int .i64 0, .int .i64 t', .int .i64 p', .int .i64 u'] 27)
              have k3 := has_call M1.out hb
              have e0 := has_cell k3 0 rfl; have e1 := has_cell k3 1 rfl; have e2 := has_cell k3 2 rfl; have e3 := has_cell k3 3 rfl; have e4 := has_cell k3 4 rfl; have elt := has_lt k3
              have f0 := has_free k3 0; have f1 := has_free k3 1; have f2 := has_free k3 2; have f3 := has_free k3 3; have f4 := has_free k3 4
              have FK := Lib.hid (hset5 k3 (.int .i64 s) (.int .i64 0) (.int .i64 t') (.int .i64 p') (.int .i64 u'))
              have FC := Lib.hid (bset5 hB (.int .i64 s) (.int .i64 0) (.int .i64 t') (.int .i64 p') (.int .i64 u') (bthen C1.out hb))
              clear hb k3 M1 C1
              go_wp2_with fail
              go_roundw
              case rel => exact ⟨q', t', p', u', a + 1, rfl, HA'.out, by have h1 := QQ.out; have h2 := HQ'.out; omega, by omega, FK.out, FC.out⟩
              case measure => simp [intOf]; have h1 := QQ.out; obtain ⟨g1, g2, g3, g4, g5, g6, g7, g8⟩ := AI.out; omega
        · have hTn : T = en + 1 := by omega
          subst hTn
          have HALL := Lib.hid (AI.out.all rfl (fun h => by have := LA.out h; omega) h5a (by omega))
          have hle := HLE.out
          go_wp2_with fail
          refine (mostI_any _ now).mono ?_
          rintro e w9 ⟨rfl, hw9⟩
          rw [hw9]
          clear hw9
          generalize mostV now = mv at *
          go_wp2_with fail
          refine (mostI_any _ en).mono ?_
          rintro e w10 ⟨rfl, hw10⟩
          rw [hw10, HALL.out]
          clear hw10
          go_wp2_with fail
          go_ret
          exact ⟨rfl, C.out⟩
end Go.Proofs.YtjpafmkmpnibgaaDoor
