/- Chapter 3: the walk of the law FnCounts. -/
import Derived.Test.YtjpafmkmpnibgabDoorLkD
import Derived.Test.YtjpafmkmpnibgabDoorTryD
namespace Go.Proofs.YtjpafmkmpnibgabDoor
open Go.RowKit
set_option linter.unusedVariables false

/-- the numbers kl lie in block kb -/
def KB (W : World) (kb : Nat) (kl : List Int) : Prop := kb < W.heap.size ∧ ∀ (j : Nat) (x : Int), kl[j]? = some x → W.cell? ⟨kb, j, none⟩ = some (.int .i64 x)
theorem KB.call {W W' : World} {kb : Nat} {kl : List Int} (h : KB W kb kl) (hb : Below W.heap.size W W') : KB W' kb kl :=
  ⟨Nat.lt_of_lt_of_le h.1 hb.size, fun j x hx => (hb.cell (p := ⟨kb, j, none⟩) h.1).trans (h.2 j x hx)⟩
theorem KB.setn {W : World} {kb : Nat} {kl : List Int} (h : KB W kb kl) {k : Nat} (hne : kb ≠ k) (i : Nat) (v : Value) : KB (W.setCell ⟨k, i, none⟩ v) kb kl :=
  ⟨by rw [size_set]; exact h.1, fun j x hx => (World.cell?_of_block (Below.heap_setCell W ⟨k, i, none⟩ v kb hne)).trans (h.2 j x hx)⟩
/-- what becomes of a valid lock -/
theorem enter_sum {s n t p u m now : Int} (hl : lockB s n t p u = true) (h0 : 0 ≤ now) (h1 : now ≤ 20000) (hm : m ≤ 1000000) :
    ∃ n' t' p' u' r : Int, enterK s n t p u m 1 now = (n', t', p', u', r) ∧ lockB s n' t' p' u' = true ∧ ((r = 0 ∧ 0 ≤ m ∧ n' = m + 1) ∨ (1 ≤ r ∧ r ≤ 3 ∧ n' = n)) := by
  have ht : inR now 0 20000 = true := inR_iff.2 ⟨h0, h1⟩
  have hb := lockB_iff.1 hl
  have hp := pow2_bd hb.2.2.2.1.2
  by_cases hw : now < u
  · exact ⟨_, _, _, _, _, enterK_wait hl ht hw, hl, .inr ⟨by omega, by omega, rfl⟩⟩
  by_cases hm0 : 0 ≤ m
  · exact ⟨_, _, _, _, _, enterK_open hl ht hw hm0 (by omega), by rw [lockB_iff]; omega, .inl ⟨rfl, hm0, rfl⟩⟩
  · by_cases h2 : t < 2
    · exact ⟨_, _, _, _, _, (enterK_wrong hl ht hw hm0).trans (refK_lt h2), by rw [lockB_iff]; omega, .inr ⟨by omega, by omega, rfl⟩⟩
    · exact ⟨_, _, _, _, _, (enterK_wrong hl ht hw hm0).trans (refK_ge h2), by rw [lockB_iff]; omega, .inr ⟨by omega, by omega, rfl⟩⟩
theorem match_bd (s n : Int) (tx : ByteArray) (hn : 0 ≤ n) (hn1 : n ≤ 1000001) : findN (fun m => shownL s m [tx]) n (fcnt n 5 1) = -1 ∨ (n ≤ findN (fun m => shownL s m [tx]) n (fcnt n 5 1) ∧ findN (fun m => shownL s m [tx]) n (fcnt n 5 1) ≤ 1000000 ∧ codeT s (findN (fun m => shownL s m [tx]) n (fcnt n 5 1)) = tx) := by
  rcases findN_bd (fun m => shownL s m [tx]) (fcnt n 5 1) n with h | ⟨h1, h2, h3⟩
  · exact .inl h
  · refine .inr ⟨h1, by unfold fcnt at h2 ⊢; omega, ?_⟩
    have h4 : shownL s (findN (fun m => shownL s m [tx]) n (fcnt n 5 1)) [tx] = true := h3
    rw [shown1] at h4
    exact of_decide_eq_true h4
theorem tn_some {r : Int} (h0 : 0 ≤ r) (h1 : r ≤ 3) : ((tnV r).toList == (⟨#[]⟩ : ByteArray).toList) = false := by
  have hc : r = 0 ∨ r = 1 ∨ r = 2 ∨ r = 3 := by omega
  rcases hc with rfl | rfl | rfl | rfl <;> exact str_ne (by decide)
set_option maxRecDepth 100000 in
set_option maxHeartbeats 8000000 in
theorem cnts_walk (w : World) (A : Option Addr) (na ca : Nat) (hn : na ≤ maxLen) (hS : BS w w.heap.size A na) (hR : Rounds w) :
    Calls Tryd.prog 3 #[.slice A na ca] w fun e w' => e = .returned (.bool true) ∧ Below w.heap.size w w' := by
  have HS := Lib.hid hS; have HR := Lib.hid hR; clear hS hR
  by_cases hbig : (1048576 : Int) < na
  · have hd : decide ((1048576 : Int) < na) = true := by simpa using hbig
    have HD := Lib.hid hd; clear hd
    go_enter Tryd.func3, Tryd.ntmps3
    go_wp2_with (refine (big_any _ A na ca hn).mono ?_; rintro e w' ⟨rfl, hw⟩; rw [hw, HD.out]; clear hw)
    go_ret
    exact ⟨rfl, Below.refl _ _⟩
  have hd : decide ((1048576 : Int) < na) = false := by simpa using hbig
  have HD := Lib.hid hd; clear hd hbig
  go_enter Tryd.func3, Tryd.ntmps3
  go_wp2_with (go_at_call 6; refine (big_any _ A na ca hn).mono ?_; rintro e w' ⟨rfl, hw⟩; rw [hw, HD.out]; clear hw)
  refine (drawLock_any w A na ca hn HS.out).mono ?_
  rintro e w1 ⟨ds, dn, dt, dp, du, rfl, hD, hb1⟩
  have hdl := hD.lock
  unfold DrL at hD
  obtain ⟨_, ⟨dn0, dn1⟩, _, _, du0, du1⟩ := hD
  have HDL := Lib.hid hdl; clear hdl
  go_wp2_with fail
  generalize hW2 : (w1.alloc (.cells #[.int .i64 ds, .int .i64 dn, .int .i64 dt, .int .i64 dp, .int .i64 du] 25)) = w2
  have b2 : Below w1.heap.size w1 w2 := by rw [← hW2]; exact balloc _ _
  have K2 := Lib.hid (show Has w2 w1.heap.size 25 #[.int .i64 ds, .int .i64 dn, .int .i64 dt, .int .i64 dp, .int .i64 du] by rw [← hW2]; exact has_new _ _ _)
  have z2 : w2.heap.size = w1.heap.size + 1 := by rw [← hW2]; simp
  clear hW2
  have c2 := bthen hb1 b2
  refine (places_any w2 A na ca hn ((HS.out.below c2).below' c2.size)).mono ?_
  rintro e w3 ⟨kb, kc, kl, rfl, hk12, hkall, hkc, hklt, hkge, hb3⟩
  have c3 := bthen c2 hb3
  have k3 := has_call K2.out hb3
  have hbl : w.heap.size ≤ w1.heap.size := hb1.size
  have hne : kb ≠ w1.heap.size := by omega
  have T3 := Lib.hid (show KB w3 kb kl from ⟨hklt, hkc⟩)
  have HALL := Lib.hid hkall
  have e4 := has_cell k3 4 rfl
  have lt3 := has_lt k3
  have K3 := Lib.hid k3; have C3 := Lib.hid c3
  clear k3 c3 hkall hkc c2 b2 hb1 hb3 hklt hkge K2 z2 HS
  go_wp2_with fail
  clear e4 lt3
  go_loopw [5, 6, 7] (fun lastv nowv iv wr => ∃ (k : Nat) (s n t p u last now : Int), k ≤ 10 ∧ iv = .int .i64 k ∧ lastv = .int .i64 last ∧ nowv = .int .i64 now ∧ lockB s n t p u = true ∧ last < n ∧ -1 ≤ last ∧ 0 ≤ now ∧ now ≤ 29 + 3 * k ∧ Has wr w1.heap.size 25 #[.int .i64 s, .int .i64 n, .int .i64 t, .int .i64 p, .int .i64 u] ∧ KB wr kb kl ∧ Below w.heap.size w wr) (fun _ _ iv _ => 10 - (intOf iv).toNat)
  case atStart => exact ⟨0, ds, dn, dt, dp, du, -1, du, by omega, rfl, rfl, rfl, HDL.out, by omega, by omega, du0, by omega, K3.out, T3.out, C3.out⟩
  case round =>
    obtain ⟨k, s, n, t, p, u, last, now, hk, rfl, rfl, rfl, hlk, hln, hl1, hnow0, hnow1, hK, hT, hC⟩ := hrel
    have HLK := Lib.hid hlk; have K := Lib.hid hK; have T := Lib.hid hT; have C := Lib.hid hC
    have hlb := (lockB_iff.1 hlk).2.1
    obtain ⟨n0, n1⟩ := hlb
    clear hlk hK hT hC K3 T3 C3 HDL dn0 dn1 du0 du1
    by_cases hlt : k < 10
    · obtain ⟨x0, hx0⟩ : ∃ x, kl[k]? = some x := ⟨_, List.getElem?_eq_getElem (by omega)⟩
      obtain ⟨x1, hx1⟩ : ∃ x, kl[11 - k]? = some x := ⟨_, List.getElem?_eq_getElem (by omega)⟩
      have hr0 := HALL.out x0 (List.mem_of_getElem? hx0)
      have hr1 := HALL.out x1 (List.mem_of_getElem? hx1)
      obtain ⟨r00, r01⟩ := hr0
      obtain ⟨r10, r11⟩ := hr1
      obtain ⟨d, hm8, hd0, hd1⟩ : ∃ d : Int, x0.tmod 8 = d ∧ 0 ≤ d ∧ d ≤ 7 := ⟨_, rfl, by rw [Int.tmod_eq_emod_of_nonneg r00]; omega, by rw [Int.tmod_eq_emod_of_nonneg r00]; omega⟩
      have hwr1 : IntKind.i64.wrap (n + d) = n + d := IntWalk.i64_in _ (by omega)
      have hwr2 : IntKind.i64.wrap (n + d - 2) = n + d - 2 := IntWalk.i64_in _ (by omega)
      have y0 := T.out.2 k x0 hx0
      have HX1 := Lib.hid hx1
      clear hx0 hx1
      have klt := T.out.1

      have e0 := has_cell K.out 0 rfl
      have e1 := has_cell K.out 1 rfl
      have e2 := has_cell K.out 2 rfl
      have e3 := has_cell K.out 3 rfl
      have e4 := has_cell K.out 4 rfl
      have elt := has_lt K.out
      go_wp2_with fail
      go_quiet (fail)
      clear y0 hm8 hwr1 hwr2 klt
      clear e0 e1 e2 e3 e4 elt
      generalize hq : n + d - 2 = q at *
      clear hq hd0 hd1
      generalize hWd : wr.drewN _ = wd
      have hb : Below wr.heap.size wr wd := by rw [← hWd]; exact below_drewN (Below.refl _ _) _
      clear hWd
      have K_ := Lib.hid (has_call K.out hb); clear K; have K := K_; clear K_
      have T_ := Lib.hid (T.out.call hb); clear T; have T := T_; clear T_
      have C_ := Lib.hid (bthen C.out hb); clear C; have C := C_; clear C_
      clear hb
      have e0 := has_cell K.out 0 rfl
      have e1 := has_cell K.out 1 rfl
      have e2 := has_cell K.out 2 rfl
      have e3 := has_cell K.out 3 rfl
      have e4 := has_cell K.out 4 rfl
      have elt := has_lt K.out
      go_wp2_with fail
      refine (codeS_any _ s q).mono ?_
      rintro e w4 ⟨rfl, hb⟩
      generalize htx : codeT s q = tx
      clear htx
      clear e0 e1 e2 e3 e4 elt
      have K_ := Lib.hid (has_call K.out hb); clear K; have K := K_; clear K_
      have T_ := Lib.hid (T.out.call hb); clear T; have T := T_; clear T_
      have C_ := Lib.hid (bthen C.out hb); clear C; have C := C_; clear C_
      clear hb
      have hidx : (11 : Int) - (k : Int) = ((11 - k : Nat) : Int) := by omega
      have y1 := T.out.2 (11 - k) x1 HX1.out
      have klt := T.out.1
      have h4a := Int.emod_nonneg x1 (show (4 : Int) ≠ 0 by omega)
      have h4b := Int.emod_lt_of_pos x1 (show (0 : Int) < 4 by omega)
      have e0 := has_cell K.out 0 rfl
      have e1 := has_cell K.out 1 rfl
      have e2 := has_cell K.out 2 rfl
      have e3 := has_cell K.out 3 rfl
      have e4 := has_cell K.out 4 rfl
      have elt := has_lt K.out
      go_wp2_with fail
      clear y1 klt hidx HX1
      generalize hnw : now + x1 % 4 = now2 at *
      have hw0 : 0 ≤ now2 := by omega
      have hw1 : now2 ≤ 29 + 3 * ((k : Int) + 1) := by omega
      clear hnw h4a h4b
      clear e0 e1 e2 e3 e4 elt
      obtain ⟨M, hM⟩ : ∃ M, findN (fun m => shownL s m [tx]) n (fcnt n 5 1) = M := ⟨_, rfl⟩
      have hmb := match_bd s n tx n0 n1
      rw [hM] at hmb
      have hmv : matV s n t p u tx = M := by rw [matV_yes HLK.out, hM]
      obtain ⟨n', t', p', u', r, hE, hlk2, hcase⟩ := enter_sum (m := M) (now := now2) HLK.out hw0 (by omega) (by omega)
      have HT := Lib.hid (show lkT s (enterK s n t p u (findN (fun m => shownL s m [tx]) n (fcnt n 5 1)) 1 now2) = .tuple #[.agg #[.int .i64 s, .int .i64 n', .int .i64 t', .int .i64 p', .int .i64 u'], .int .i64 r] by rw [hM, hE]; rfl)
      have HMV := Lib.hid hmv; have HMB := Lib.hid hmb; have HL2 := Lib.hid hlk2; have HCS := Lib.hid hcase
      clear hE hM hmv hmb hlk2 hcase
      refine (matI_any _ s n t p u tx (HR.out.below C.out)).mono ?_
      rintro e w5 ⟨rfl, hb⟩
      rw [HMV.out]
      have K_ := Lib.hid (has_call K.out hb); clear K; have K := K_; clear K_
      have T_ := Lib.hid (T.out.call hb); clear T; have T := T_; clear T_
      have C_ := Lib.hid (bthen C.out hb); clear C; have C := C_; clear C_
      clear hb
      have e0 := has_cell K.out 0 rfl
      have e1 := has_cell K.out 1 rfl
      have e2 := has_cell K.out 2 rfl
      have e3 := has_cell K.out 3 rfl
      have e4 := has_cell K.out 4 rfl
      have elt := has_lt K.out
      go_wp2_with fail
      refine (tryI_any _ s n t p u now2 tx (HR.out.below C.out)).mono ?_
      rintro e w6 ⟨rfl, hb⟩
      rw [HT.out]
      clear e0 e1 e2 e3 e4 elt
      have K_ := Lib.hid (has_call K.out hb); clear K; have K := K_; clear K_
      have T_ := Lib.hid (T.out.call hb); clear T; have T := T_; clear T_
      have C_ := Lib.hid (bthen C.out hb); clear C; have C := C_; clear C_
      clear hb
      have e0 := has_cell K.out 0 rfl
      have e1 := has_cell K.out 1 rfl
      have e2 := has_cell K.out 2 rfl
      have e3 := has_cell K.out 3 rfl
      have e4 := has_cell K.out 4 rfl
      have elt := has_lt K.out
      go_wp2_with fail
      clear e0 e1 e2 e3 e4 elt
      generalize hW : (w6.alloc (.cells #[.int .i64 s, .int .i64 n', .int .i64 t', .int .i64 p', .int .i64 u'] 25)) = w7
      have hb : Below w6.heap.size w6 w7 := by rw [← hW]; exact balloc _ _
      have X := Lib.hid (show Has w7 w6.heap.size 25 #[.int .i64 s, .int .i64 n', .int .i64 t', .int .i64 p', .int .i64 u'] by rw [← hW]; exact has_new _ _ _)
      clear hW
      have K_ := Lib.hid (has_call K.out hb); clear K; have K := K_; clear K_
      have T_ := Lib.hid (T.out.call hb); clear T; have T := T_; clear T_
      have C_ := Lib.hid (bthen C.out hb); clear C; have C := C_; clear C_
      clear hb
      try go_wp2_with fail
      refine (tryS_any _ s n t p u now2 tx).mono ?_
      rintro e w8 ⟨rfl, hb⟩
      rw [HT.out]
      have K_ := Lib.hid (has_call K.out hb); clear K; have K := K_; clear K_
      have X_ := Lib.hid (has_call X.out hb); clear X; have X := X_; clear X_
      have T_ := Lib.hid (T.out.call hb); clear T; have T := T_; clear T_
      have C_ := Lib.hid (bthen C.out hb); clear C; have C := C_; clear C_
      clear hb HT
      have v0 := has_cell X.out 0 rfl
      have v1 := has_cell X.out 1 rfl
      have v2 := has_cell X.out 2 rfl
      have v3 := has_cell X.out 3 rfl
      have v4 := has_cell X.out 4 rfl
      have vlt := has_lt X.out
      have e0 := has_cell K.out 0 rfl
      have e1 := has_cell K.out 1 rfl
      have e2 := has_cell K.out 2 rfl
      have e3 := has_cell K.out 3 rfl
      have e4 := has_cell K.out 4 rfl
      have elt := has_lt K.out
      have hr03 : 0 ≤ r ∧ r ≤ 3 := by have := HCS.out; omega
      have hnm := tn_some hr03.1 hr03.2
      generalize hnmq : tnV r = nm at *
      have HNM := Lib.hid hnm; have HNQ := Lib.hid hnmq; clear hnm hnmq hr03
      go_wp2_with fail
      clear v0 v1 v2 v3 v4 vlt
      clear e0 e1 e2 e3 e4 elt
      generalize hW : (w8.alloc (.cells #[.int .i64 s, .int .i64 n', .int .i64 t', .int .i64 p', .int .i64 u'] 25)) = w9
      have hb : Below w8.heap.size w8 w9 := by rw [← hW]; exact balloc _ _
      have Y := Lib.hid (show Has w9 w8.heap.size 25 #[.int .i64 s, .int .i64 n', .int .i64 t', .int .i64 p', .int .i64 u'] by rw [← hW]; exact has_new _ _ _)
      clear hW
      have K_ := Lib.hid (has_call K.out hb); clear K; have K := K_; clear K_
      have T_ := Lib.hid (T.out.call hb); clear T; have T := T_; clear T_
      have C_ := Lib.hid (bthen C.out hb); clear C; have C := C_; clear C_
      clear hb X
      try go_wp2_with fail
      refine (tnI_any _ r).mono ?_
      rintro e w10 ⟨rfl, hb⟩
      rw [HNQ.out]
      have K_ := Lib.hid (has_call K.out hb); clear K; have K := K_; clear K_
      have Y_ := Lib.hid (has_call Y.out hb); clear Y; have Y := Y_; clear Y_
      have T_ := Lib.hid (T.out.call hb); clear T; have T := T_; clear T_
      have C_ := Lib.hid (bthen C.out hb); clear C; have C := C_; clear C_
      clear hb
      have hnm : ¬ nm.toList = [] := fun h => by have h2 := HNM.out; rw [h, ByteArray.toList_eq] at h2; simp at h2
      have hnm2 : nm.toList.isEmpty = false := by rw [← Bool.not_eq_true, List.isEmpty_iff]; exact hnm
      have e0 := has_cell K.out 0 rfl
      have e1 := has_cell K.out 1 rfl
      have e2 := has_cell K.out 2 rfl
      have e3 := has_cell K.out 3 rfl
      have e4 := has_cell K.out 4 rfl
      have elt := has_lt K.out
      go_wp2_with fail
      clear hnm hnm2
      clear e0 e1 e2 e3 e4 elt
      refine (matS_any _ s n t p u tx).mono ?_
      rintro e w11 ⟨rfl, hb⟩
      rw [HMV.out]
      have K_ := Lib.hid (has_call K.out hb); clear K; have K := K_; clear K_
      have Y_ := Lib.hid (has_call Y.out hb); clear Y; have Y := Y_; clear Y_
      have T_ := Lib.hid (T.out.call hb); clear T; have T := T_; clear T_
      have C_ := Lib.hid (bthen C.out hb); clear C; have C := C_; clear C_
      clear hb
      have hmm : (M != M) = false := by simp
      rcases HCS.out with ⟨hr, hM0, hn2⟩ | ⟨hr1, hr3, hn2⟩
      · subst hr; subst hn2
        have hmb := HMB.out
        have hmc : n ≤ M ∧ M ≤ 1000000 ∧ codeT s M = tx := by rcases hmb with h | h; exact absurd hM0 (by omega); exact h
        obtain ⟨hmn, hmx, hct⟩ := hmc
        have hyn : (M + 1 != M + 1) = false := by simp
        have hml : ¬ M ≤ last := by omega
        have hmn2 : ¬ M < n := by omega
        have HCT := Lib.hid hct; clear hct hmb
        have e0 := has_cell K.out 0 rfl; have e1 := has_cell K.out 1 rfl; have v1 := has_cell Y.out 1 rfl; have elt := has_lt K.out; have vlt := has_lt Y.out
        go_wp2_with fail
        clear e0 e1 v1 elt vlt hyn hmm hml hmn2
        refine (codeI_any _ s M (HR.out.below C.out)).mono ?_
        rintro e w12 ⟨rfl, hb⟩
        rw [HCT.out]
        have K_ := Lib.hid (has_call K.out hb); clear K; have K := K_; clear K_
        have Y_ := Lib.hid (has_call Y.out hb); clear Y; have Y := Y_; clear Y_
        have T_ := Lib.hid (T.out.call hb); clear T; have T := T_; clear T_
        have C_ := Lib.hid (bthen C.out hb); clear C; have C := C_; clear C_; clear hb
        have e0 := has_cell K.out 0 rfl; have e1 := has_cell K.out 1 rfl; have e2 := has_cell K.out 2 rfl; have e3 := has_cell K.out 3 rfl; have e4 := has_cell K.out 4 rfl
        have f0 := has_free K.out 0; have f1 := has_free K.out 1; have f2 := has_free K.out 2; have f3 := has_free K.out 3; have f4 := has_free K.out 4
        have v0 := has_cell Y.out 0 rfl; have v1 := has_cell Y.out 1 rfl; have v2 := has_cell Y.out 2 rfl; have v3 := has_cell Y.out 3 rfl; have v4 := has_cell Y.out 4 rfl
        have elt := has_lt K.out; have vlt := has_lt Y.out
        have X1 := Lib.hid (hset5 K.out (.int .i64 s) (.int .i64 (M + 1)) (.int .i64 t') (.int .i64 p') (.int .i64 u'))
        have T1 := Lib.hid (((((T.out.setn hne 0 (.int .i64 s)).setn hne 1 (.int .i64 (M + 1))).setn hne 2 (.int .i64 t')).setn hne 3 (.int .i64 p')).setn hne 4 (.int .i64 u'))
        have C1 := Lib.hid (bset5 hbl (.int .i64 s) (.int .i64 (M + 1)) (.int .i64 t') (.int .i64 p') (.int .i64 u') C.out)
        go_wp2_with fail
        go_roundw
        case rel => exact ⟨k + 1, s, (M + 1), t', p', u', M, now2, by omega, by go_num, rfl, rfl, HL2.out, by omega, by omega, hw0, by omega, X1.out, T1.out, C1.out⟩
        case measure => simp [intOf]; omega
      · obtain rfl : n' = n := hn2
        have hr0 : (r == 0) = false := by simp; omega
        have hr00 : (r != 0) = true := by simp; omega
        have hyn : (n' != n') = false := by simp
        have e0 := has_cell K.out 0 rfl; have e1 := has_cell K.out 1 rfl; have e2 := has_cell K.out 2 rfl; have e3 := has_cell K.out 3 rfl; have e4 := has_cell K.out 4 rfl
        have f0 := has_free K.out 0; have f1 := has_free K.out 1; have f2 := has_free K.out 2; have f3 := has_free K.out 3; have f4 := has_free K.out 4
        have v0 := has_cell Y.out 0 rfl; have v1 := has_cell Y.out 1 rfl; have v2 := has_cell Y.out 2 rfl; have v3 := has_cell Y.out 3 rfl; have v4 := has_cell Y.out 4 rfl
        have elt := has_lt K.out; have vlt := has_lt Y.out
        have X1 := Lib.hid (hset5 K.out (.int .i64 s) (.int .i64 n') (.int .i64 t') (.int .i64 p') (.int .i64 u'))
        have T1 := Lib.hid (((((T.out.setn hne 0 (.int .i64 s)).setn hne 1 (.int .i64 n')).setn hne 2 (.int .i64 t')).setn hne 3 (.int .i64 p')).setn hne 4 (.int .i64 u'))
        have C1 := Lib.hid (bset5 hbl (.int .i64 s) (.int .i64 n') (.int .i64 t') (.int .i64 p') (.int .i64 u') C.out)
        go_wp2_with fail
        go_roundw
        case rel => exact ⟨k + 1, s, n', t', p', u', last, now2, by omega, by go_num, rfl, rfl, HL2.out, by omega, by omega, hw0, by omega, X1.out, T1.out, C1.out⟩
        case measure => simp [intOf]; omega
    · have e0 := has_cell K.out 0 rfl; have e1 := has_cell K.out 1 rfl; have e2 := has_cell K.out 2 rfl; have e3 := has_cell K.out 3 rfl; have e4 := has_cell K.out 4 rfl; have elt := has_lt K.out
      go_wp2_with fail
      refine (lockI_any _ s n t p u).mono ?_
      rintro e w4 ⟨rfl, hb⟩
      rw [HLK.out]
      have C1 := Lib.hid (bthen C.out hb)
      clear e0 e1 e2 e3 e4 elt hb
      go_wp2_with fail
      go_ret
      exact ⟨rfl, C1.out⟩
end Go.Proofs.YtjpafmkmpnibgabDoor
