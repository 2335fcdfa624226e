/- Chapter 3: the walk of the law FnResync. -/
import Derived.Test.YtjpafmkmpnibgabDoorLkD
import Derived.Test.YtjpafmkmpnibgabDoorPrsL
import Derived.Test.YtjpafmkmpnibgabDoorTryD
import Derived.Test.YtjpafmkmpnibgabDoorLckC
import Derived.Test.YtjpafmkmpnibgabDoorPadW
namespace Go.Proofs.YtjpafmkmpnibgabDoor
open Go.RowKit
set_option linter.unusedVariables false

/-- two codes of a pad bring the lock up to it -/
theorem pad_resyncs {s n t p u c now : Int} (hl : lockB s n t p u = true) (hc0 : n ≤ c) (hc1 : c < n + 39) (hc2 : c + 1 ≤ 1000000) (hu : u ≤ now) (hn : now ≤ 20000) :
    ∃ m : Int, n ≤ m ∧ m ≤ c ∧ enterK s n t p u (findN (fun m => shownL s m [codeT s c, codeT s (c + 1)]) n (fcnt n 40 2)) 2 now = (m + 2, 0, 0, u, 0) := by
  have hb := lockB_iff.1 hl
  have hP : (fun m => shownL s m [codeT s c, codeT s (c + 1)]) c = true := by show shownL s c [codeT s c, codeT s (c + 1)] = true; rw [shown2_b rfl]; simp
  have h := findN_hit (fun m => shownL s m [codeT s c, codeT s (c + 1)]) c hP (fcnt n 40 2) n hc0 (by unfold fcnt; omega)
  refine ⟨_, h.1, h.2, enterK_open hl (inR_iff.2 ⟨by omega, hn⟩) (by omega) (by omega) (by omega)⟩
set_option maxRecDepth 100000 in
set_option maxHeartbeats 8000000 in
theorem fres_walk (w : World) (A : Option Addr) (na ca : Nat) (hn : na ≤ maxLen) (hS : BS w w.heap.size A na) (hR : Rounds w) :
    Calls Tryd.prog 5 #[.slice A na ca] w fun e w' => e = .returned (.bool true) ∧ Below w.heap.size w w' := by
  have HS := Lib.hid hS; have HR := Lib.hid hR; clear hS hR
  by_cases hbig : (1048576 : Int) < na
  · have hd : decide ((1048576 : Int) < na) = true := by simpa using hbig
    have HD := Lib.hid hd; clear hd
    go_enter Tryd.func5, Tryd.ntmps5
    go_wp2_with (refine (big_any _ A na ca hn).mono ?_; rintro e w' ⟨rfl, hw⟩; rw [hw, HD.out]; clear hw)
    go_ret
    exact ⟨rfl, Below.refl _ _⟩
  have hd : decide ((1048576 : Int) < na) = false := by simpa using hbig
  have HD := Lib.hid hd; clear hd hbig
  go_enter Tryd.func5, Tryd.ntmps5
  go_wp2_with (go_at_call 6; refine (big_any _ A na ca hn).mono ?_; rintro e w' ⟨rfl, hw⟩; rw [hw, HD.out]; clear hw)
  refine (drawLock_any w A na ca hn HS.out).mono ?_
  rintro e w1 ⟨s, n0, t, p, u, rfl, hD, hb1⟩
  unfold DrL at hD
  obtain ⟨⟨s0, s1⟩, ⟨n00, n01⟩, ⟨t0, t1⟩, ⟨p0, p1⟩, u0, u1⟩ := hD
  have hnm0 := Int.emod_nonneg n0 (show (1000 : Int) ≠ 0 by omega)
  have hnm1 := Int.emod_lt_of_pos n0 (show (0 : Int) < 1000 by omega)
  go_wp2_with fail
  generalize hn1 : n0 % 1000 = n at *
  clear hn1 n00 n01
  have HLK := Lib.hid (show lockB s n t p u = true by rw [lockB_iff]; omega)
  generalize hW2 : (w1.alloc (.cells #[.int .i64 s, .int .i64 n, .int .i64 t, .int .i64 p, .int .i64 u] 25)) = w2
  have b2 : Below w1.heap.size w1 w2 := by rw [← hW2]; exact balloc _ _
  have K2 := Lib.hid (show Has w2 w1.heap.size 25 #[.int .i64 s, .int .i64 n, .int .i64 t, .int .i64 p, .int .i64 u] by rw [← hW2]; exact has_new _ _ _)
  clear hW2
  have c2 := bthen hb1 b2
  refine (places_any w2 A na ca hn ((HS.out.below c2).below' c2.size)).mono ?_
  rintro e w3 ⟨kb, kc, kl, rfl, hk12, hkall, hkc, hklt, hkge, hb3⟩
  have c3 := bthen c2 hb3
  have k3 := has_call K2.out hb3
  obtain ⟨x0, hx0⟩ : ∃ x, kl[0]? = some x := ⟨_, List.getElem?_eq_getElem (by omega)⟩
  have hr0 := hkall x0 (List.mem_of_getElem? hx0)
  have y0 := hkc 0 x0 hx0
  obtain ⟨r00, r01⟩ := hr0
  obtain ⟨d, hm7, hd0, hd1⟩ : ∃ d : Int, x0.tmod 39 = d ∧ 0 ≤ d ∧ d ≤ 38 := ⟨_, rfl, by rw [Int.tmod_eq_emod_of_nonneg r00]; omega, by rw [Int.tmod_eq_emod_of_nonneg r00]; omega⟩
  have hwr : IntKind.i64.wrap (n + d) = n + d := IntWalk.i64_in _ (by omega)
  have C3 := Lib.hid c3
  clear hx0 hkall hkc c3 c2 b2 hb1 K2 HS
  have e0 := has_cell k3 0 rfl; have e1 := has_cell k3 1 rfl
  have lt3 := has_lt k3
  have K3 := Lib.hid k3; clear k3
  go_wp2_with fail
  go_region
  clear e0 e1 y0 hm7 hwr
  obtain ⟨pc, hpc⟩ : ∃ pc : Int, n + d = pc := ⟨_, rfl⟩
  have hp0 : n ≤ pc := by omega
  have hp6 : pc ≤ n + 38 := by omega
  rw [hpc]
  clear hpc hd0 hd1
  generalize hW4 : (w3.alloc (.cells #[.int .i64 s, .int .i64 pc] 36)).drew = w4
  have b4 : Below w3.heap.size w3 w4 := by rw [← hW4]; exact (balloc _ _).drew
  have m4 : Has w4 w3.heap.size 36 #[.int .i64 s, .int .i64 pc] := by rw [← hW4]; exact has_drew (has_new _ _ _)
  clear hW4
  have K4 := Lib.hid (has_call K3.out b4)
  have C4 := Lib.hid (bthen C3.out b4)
  clear b4 K3 C3 hb3 hklt hkge
  obtain ⟨m, hm0, hm1, hE⟩ := pad_resyncs (now := u) HLK.out hp0 (by omega) (by omega) (by omega) (by omega)
  have HT := Lib.hid (show lkT s (enterK s n t p u (findN (fun m => shownL s m [codeT s pc, codeT s (pc + 1)]) n (fcnt n 40 2)) 2 u) = .tuple #[.agg #[.int .i64 s, .int .i64 (m + 2), .int .i64 0, .int .i64 0, .int .i64 u], .int .i64 0] by rw [hE]; rfl)
  clear hE
  obtain ⟨rr, HT2, hrr⟩ : ∃ rr : Int, Hid (lkT s (enterK s n t p u (findN (fun m => shownL s m [codeT s pc, codeT s (pc + 1)]) n (fcnt n 40 2)) 2 (u - 1)) = .tuple #[.agg #[.int .i64 s, .int .i64 n, .int .i64 t, .int .i64 p, .int .i64 u], .int .i64 rr]) ∧ (rr = 1 ∨ (u = 0 ∧ rr = 4)) := by
    by_cases hu : u = 0
    · exact ⟨4, Lib.hid (by rw [enterK_bad (fun h => by have := inR_iff.1 h.2; omega)]; rfl), .inr ⟨hu, rfl⟩⟩
    · exact ⟨1, Lib.hid (by rw [enterK_wait HLK.out (inR_iff.2 ⟨by omega, by omega⟩) (by omega)]; rfl), .inl rfl⟩
  have HP1 := Lib.hid (prsV_yes (s := s) (c := pc) (padB_iff.2 (by omega)) (by omega))
  have HP2 := Lib.hid (prsV_yes (s := s) (c := pc + 1) (padB_iff.2 (by omega)) (by omega))
  obtain ⟨ta, hta⟩ : ∃ ta, codeT s pc = ta := ⟨_, rfl⟩
  obtain ⟨tb, htb⟩ : ∃ tb, codeT s (pc + 1) = tb := ⟨_, rfl⟩
  rw [hta] at HT HT2 HP1
  rw [htb] at HT HT2 HP2
  clear hta htb

  have K := K4; have M := Lib.hid m4; have C := C4; clear K4 m4 C4
  have l0 := has_cell M.out 0 rfl
  have l1 := has_cell M.out 1 rfl
  have llt := has_lt M.out
  go_wp2_with fail
  refine (prsI_any _ s pc (HR.out.below C.out)).mono ?_
  rintro e w5 ⟨rfl, hb⟩
  rw [HP1.out]
  clear l0 l1 llt
  have K_ := Lib.hid (has_call K.out hb); clear K; have K := K_; clear K_
  have M_ := Lib.hid (has_call M.out hb); clear M; have M := M_; clear M_
  have C_ := Lib.hid (bthen C.out hb); clear C; have C := C_; clear C_
  clear hb HP1
  go_wp2_with fail
  generalize hW : (w5.alloc (.cells #[.int .i64 s, .int .i64 (pc + 1)] 36)) = w6
  have hb : Below w5.heap.size w5 w6 := by rw [← hW]; exact balloc _ _
  have X := Lib.hid (show Has w6 w5.heap.size 36 #[.int .i64 s, .int .i64 (pc + 1)] by rw [← hW]; exact has_new _ _ _)
  clear hW
  have K_ := Lib.hid (has_call K.out hb); clear K; have K := K_; clear K_
  have M_ := Lib.hid (has_call M.out hb); clear M; have M := M_; clear M_
  have C_ := Lib.hid (bthen C.out hb); clear C; have C := C_; clear C_
  clear hb
  refine (prsI_any _ s (pc + 1) (HR.out.below C.out)).mono ?_
  rintro e w7 ⟨rfl, hb⟩
  rw [HP2.out]
  have K_ := Lib.hid (has_call K.out hb); clear K; have K := K_; clear K_
  have M_ := Lib.hid (has_call M.out hb); clear M; have M := M_; clear M_
  have X_ := Lib.hid (has_call X.out hb); clear X; have X := X_; clear X_
  have C_ := Lib.hid (bthen C.out hb); clear C; have C := C_; clear C_
  clear hb HP2
  have e0 := has_cell K.out 0 rfl
  have e1 := has_cell K.out 1 rfl
  have e2 := has_cell K.out 2 rfl
  have e3 := has_cell K.out 3 rfl
  have e4 := has_cell K.out 4 rfl
  have elt := has_lt K.out
  go_wp2_with fail
  clear e0 e1 e2 e3 e4 elt
  generalize hW : (w7.alloc (.cells #[.int .i64 s, .int .i64 (pc + 1 + 1)] 36)) = w8
  have hb : Below w7.heap.size w7 w8 := by rw [← hW]; exact balloc _ _
  have Y := Lib.hid (show Has w8 w7.heap.size 36 #[.int .i64 s, .int .i64 (pc + 1 + 1)] by rw [← hW]; exact has_new _ _ _)
  clear hW
  have K_ := Lib.hid (has_call K.out hb); clear K; have K := K_; clear K_
  have M_ := Lib.hid (has_call M.out hb); clear M; have M := M_; clear M_
  have C_ := Lib.hid (bthen C.out hb); clear C; have C := C_; clear C_
  clear hb X
  try go_wp2_with fail
  refine (resI_any _ s n t p u u ta tb (HR.out.below C.out)).mono ?_
  rintro e w9 ⟨rfl, hb⟩
  rw [HT.out]
  have K_ := Lib.hid (has_call K.out hb); clear K; have K := K_; clear K_
  have M_ := Lib.hid (has_call M.out hb); clear M; have M := M_; clear M_
  have Y_ := Lib.hid (has_call Y.out hb); clear Y; have Y := Y_; clear Y_
  have C_ := Lib.hid (bthen C.out hb); clear C; have C := C_; clear C_
  clear hb
  have e0 := has_cell K.out 0 rfl
  have e1 := has_cell K.out 1 rfl
  have e2 := has_cell K.out 2 rfl
  have e3 := has_cell K.out 3 rfl
  have e4 := has_cell K.out 4 rfl
  have elt := has_lt K.out
  go_wp2_with fail
  clear e0 e1 e2 e3 e4 elt
  generalize hW : (w9.alloc (.cells #[.int .i64 s, .int .i64 (m + 2), .int .i64 0, .int .i64 0, .int .i64 u] 25)) = w10
  have hb : Below w9.heap.size w9 w10 := by rw [← hW]; exact balloc _ _
  have Z := Lib.hid (show Has w10 w9.heap.size 25 #[.int .i64 s, .int .i64 (m + 2), .int .i64 0, .int .i64 0, .int .i64 u] by rw [← hW]; exact has_new _ _ _)
  clear hW
  have K_ := Lib.hid (has_call K.out hb); clear K; have K := K_; clear K_
  have M_ := Lib.hid (has_call M.out hb); clear M; have M := M_; clear M_
  have Y_ := Lib.hid (has_call Y.out hb); clear Y; have Y := Y_; clear Y_
  have C_ := Lib.hid (bthen C.out hb); clear C; have C := C_; clear C_
  clear hb
  try go_wp2_with fail
  refine (resS_any _ s n t p u u ta tb).mono ?_
  rintro e w11 ⟨rfl, hb⟩
  rw [HT.out]
  have K_ := Lib.hid (has_call K.out hb); clear K; have K := K_; clear K_
  have M_ := Lib.hid (has_call M.out hb); clear M; have M := M_; clear M_
  have Y_ := Lib.hid (has_call Y.out hb); clear Y; have Y := Y_; clear Y_
  have Z_ := Lib.hid (has_call Z.out hb); clear Z; have Z := Z_; clear Z_
  have C_ := Lib.hid (bthen C.out hb); clear C; have C := C_; clear C_
  clear hb HT
  have e0 := has_cell K.out 0 rfl
  have e1 := has_cell K.out 1 rfl
  have e2 := has_cell K.out 2 rfl
  have e3 := has_cell K.out 3 rfl
  have e4 := has_cell K.out 4 rfl
  have elt := has_lt K.out
  have hwu : IntKind.i64.wrap (u - 1) = u - 1 := IntWalk.i64_in _ (by omega)
  go_wp2_with fail
  clear e0 e1 e2 e3 e4 elt
  generalize hW : (w11.alloc (.cells #[.int .i64 s, .int .i64 (m + 2), .int .i64 0, .int .i64 0, .int .i64 u] 25)) = w12
  have hb : Below w11.heap.size w11 w12 := by rw [← hW]; exact balloc _ _
  have V := Lib.hid (show Has w12 w11.heap.size 25 #[.int .i64 s, .int .i64 (m + 2), .int .i64 0, .int .i64 0, .int .i64 u] by rw [← hW]; exact has_new _ _ _)
  clear hW
  have K_ := Lib.hid (has_call K.out hb); clear K; have K := K_; clear K_
  have M_ := Lib.hid (has_call M.out hb); clear M; have M := M_; clear M_
  have Y_ := Lib.hid (has_call Y.out hb); clear Y; have Y := Y_; clear Y_
  have Z_ := Lib.hid (has_call Z.out hb); clear Z; have Z := Z_; clear Z_
  have C_ := Lib.hid (bthen C.out hb); clear C; have C := C_; clear C_
  clear hb
  try go_wp2_with fail
  refine (resI_any _ s n t p u (u - 1) ta tb (HR.out.below C.out)).mono ?_
  rintro e w13 ⟨rfl, hb⟩
  rw [HT2.out]
  have K_ := Lib.hid (has_call K.out hb); clear K; have K := K_; clear K_
  have M_ := Lib.hid (has_call M.out hb); clear M; have M := M_; clear M_
  have Y_ := Lib.hid (has_call Y.out hb); clear Y; have Y := Y_; clear Y_
  have Z_ := Lib.hid (has_call Z.out hb); clear Z; have Z := Z_; clear Z_
  have V_ := Lib.hid (has_call V.out hb); clear V; have V := V_; clear V_
  have C_ := Lib.hid (bthen C.out hb); clear C; have C := C_; clear C_
  clear hb HT2 hwu
  have hcc : (pc + 1 + 1 == pc + 2) = true := by simp; omega
  have hm2 : m + 2 ≤ pc + 1 + 1 := by omega
  have hm3 : n + 2 ≤ m + 2 := by omega
  rcases hrr with rfl | ⟨rfl, rfl⟩
  all_goals
    have e0 := has_cell K.out 0 rfl
    have e1 := has_cell K.out 1 rfl
    have e2 := has_cell K.out 2 rfl
    have e3 := has_cell K.out 3 rfl
    have e4 := has_cell K.out 4 rfl
    have elt := has_lt K.out
    have l0 := has_cell M.out 0 rfl
    have l1 := has_cell M.out 1 rfl
    have llt := has_lt M.out
    have y0 := has_cell Y.out 0 rfl
    have y1 := has_cell Y.out 1 rfl
    have ylt := has_lt Y.out
    have z0 := has_cell Z.out 0 rfl
    have z1 := has_cell Z.out 1 rfl
    have z2 := has_cell Z.out 2 rfl
    have z3 := has_cell Z.out 3 rfl
    have z4 := has_cell Z.out 4 rfl
    have zlt := has_lt Z.out
    have v0 := has_cell V.out 0 rfl
    have v1 := has_cell V.out 1 rfl
    have v2 := has_cell V.out 2 rfl
    have v3 := has_cell V.out 3 rfl
    have v4 := has_cell V.out 4 rfl
    have vlt := has_lt V.out
    go_wp2_with fail
    go_ret
    exact ⟨rfl, bthen C.out (balloc _ _)⟩
end Go.Proofs.YtjpafmkmpnibgabDoor
