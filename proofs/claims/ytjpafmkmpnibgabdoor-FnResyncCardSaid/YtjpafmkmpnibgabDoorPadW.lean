/- Chapter 3: the walk of the law FnPads. -/
import Derived.Test.YtjpafmkmpnibgabDoorLkD
import Derived.Test.YtjpafmkmpnibgabDoorPrsL
import Derived.Test.YtjpafmkmpnibgabDoorTryC
import Derived.Test.YtjpafmkmpnibgabDoorLckC
import Derived.StillTailTactics
import Derived.Deep.RegionHeld3
namespace Go.Proofs.YtjpafmkmpnibgabDoor
open Go.RowKit
set_option linter.unusedVariables false

theorem findN_hit (P : Int → Bool) (j : Int) (hj : P j = true) : ∀ (n : Nat) (k : Int), k ≤ j → j < k + n → k ≤ findN P k n ∧ findN P k n ≤ j
  | 0, k, h, h' => by omega
  | n + 1, k, h, h' => by
    cases hp : P k
    · rw [findN_no P k n hp]
      have hne : k ≠ j := fun e => by rw [e, hj] at hp; cases hp
      have := findN_hit P j hj n (k + 1) (by omega) (by omega)
      omega
    · rw [findN_yes P k n hp]; omega
theorem keep6 {w0 W W' : World} {g kb : Nat} {a b c d e f : Value} (hg : g < w0.heap.size) (hk : kb < w0.heap.size)
    (k : (W.cell? ⟨g, 0, none⟩ = some a ∧ W.cell? ⟨g, 1, none⟩ = some b ∧ W.cell? ⟨g, 2, none⟩ = some c ∧ W.cell? ⟨g, 3, none⟩ = some d ∧ W.cell? ⟨g, 4, none⟩ = some e ∧ W.cell? ⟨kb, 1, none⟩ = some f) ∧ Below w0.heap.size w0 W) (hb : Below w0.heap.size W W') :
    (W'.cell? ⟨g, 0, none⟩ = some a ∧ W'.cell? ⟨g, 1, none⟩ = some b ∧ W'.cell? ⟨g, 2, none⟩ = some c ∧ W'.cell? ⟨g, 3, none⟩ = some d ∧ W'.cell? ⟨g, 4, none⟩ = some e ∧ W'.cell? ⟨kb, 1, none⟩ = some f) ∧ Below w0.heap.size w0 W' :=
  ⟨⟨(hb.cell (p := ⟨g, 0, none⟩) hg).trans k.1.1, (hb.cell (p := ⟨g, 1, none⟩) hg).trans k.1.2.1, (hb.cell (p := ⟨g, 2, none⟩) hg).trans k.1.2.2.1, (hb.cell (p := ⟨g, 3, none⟩) hg).trans k.1.2.2.2.1, (hb.cell (p := ⟨g, 4, none⟩) hg).trans k.1.2.2.2.2.1, (hb.cell (p := ⟨kb, 1, none⟩) hk).trans k.1.2.2.2.2.2⟩, k.2.trans hb⟩
theorem keep6c {w0 W W' : World} {g kb : Nat} {a b c d e f : Value} (hg : g < w0.heap.size) (hk : kb < w0.heap.size)
    (k : (W.cell? ⟨g, 0, none⟩ = some a ∧ W.cell? ⟨g, 1, none⟩ = some b ∧ W.cell? ⟨g, 2, none⟩ = some c ∧ W.cell? ⟨g, 3, none⟩ = some d ∧ W.cell? ⟨g, 4, none⟩ = some e ∧ W.cell? ⟨kb, 1, none⟩ = some f) ∧ Below w0.heap.size w0 W) (hb : Below W.heap.size W W') :
    (W'.cell? ⟨g, 0, none⟩ = some a ∧ W'.cell? ⟨g, 1, none⟩ = some b ∧ W'.cell? ⟨g, 2, none⟩ = some c ∧ W'.cell? ⟨g, 3, none⟩ = some d ∧ W'.cell? ⟨g, 4, none⟩ = some e ∧ W'.cell? ⟨kb, 1, none⟩ = some f) ∧ Below w0.heap.size w0 W' :=
  keep6 hg hk k (hb.mono k.2.size)
/-- a pad's code opens the lock with a count that is not beyond the pad's -/
theorem pad_opens {s n t p u c now : Int} (hl : lockB s n t p u = true) (hc0 : n ≤ c) (hc1 : c < n + 5) (hc2 : c ≤ 1000000) (hu : u ≤ now) (hn : now ≤ 20000) :
    ∃ m : Int, n ≤ m ∧ m ≤ c ∧ enterK s n t p u (findN (fun m => shownL s m [codeT s c]) n (fcnt n 5 1)) 1 now = (m + 1, 0, 0, u, 0) := by
  have hb := lockB_iff.1 hl
  have hP : (fun m => shownL s m [codeT s c]) c = true := by show shownL s c [codeT s c] = true; rw [shown1]; simp
  have h := findN_hit (fun m => shownL s m [codeT s c]) c hP (fcnt n 5 1) n hc0 (by unfold fcnt; omega)
  refine ⟨_, h.1, h.2, enterK_open hl (inR_iff.2 ⟨by omega, hn⟩) (by omega) (by omega) (by omega)⟩

set_option maxRecDepth 100000 in
set_option maxHeartbeats 8000000 in
theorem pads_walk (w : World) (A : Option Addr) (na ca : Nat) (hn : na ≤ maxLen) (hS : BS w w.heap.size A na) (hR : Rounds w) :
    Calls Tryd.prog 4 #[.slice A na ca] w fun e w' => e = .returned (.bool true) ∧ Below w.heap.size w w' := by
  have HS := Lib.hid hS; have HR := Lib.hid hR; clear hS hR
  by_cases hbig : (1048576 : Int) < na
  · have hd : decide ((1048576 : Int) < na) = true := by simpa using hbig
    have HD := Lib.hid hd; clear hd
    go_enter Tryd.func4, Tryd.ntmps4
    go_wp2_with (refine (big_any _ A na ca hn).mono ?_; rintro e w' ⟨rfl, hw⟩; rw [hw, HD.out]; clear hw)
    go_ret
    exact ⟨rfl, Below.refl _ _⟩
  have hd : decide ((1048576 : Int) < na) = false := by simpa using hbig
  have HD := Lib.hid hd; clear hd hbig
  go_enter Tryd.func4, Tryd.ntmps4
  go_wp2_with (go_at_call 6; refine (big_any _ A na ca hn).mono ?_; rintro e w' ⟨rfl, hw⟩; rw [hw, HD.out]; clear hw)
  refine (drawLock_any w A na ca hn HS.out).mono ?_
  rintro e w1 ⟨s, n, t, p, u, rfl, hD, hb1⟩
  have hlk := hD.lock
  unfold DrL at hD
  obtain ⟨⟨s0, s1⟩, ⟨n0, n1⟩, ⟨t0, t1⟩, ⟨p0, p1⟩, u0, u1⟩ := hD
  have HLK := Lib.hid hlk; clear hlk
  go_wp2_with fail
  generalize hW2 : (w1.alloc (.cells #[.int .i64 s, .int .i64 n, .int .i64 t, .int .i64 p, .int .i64 u] 25)) = w2
  have b2 : Below w1.heap.size w1 w2 := by rw [← hW2]; exact balloc _ _
  have K2 := Lib.hid (show Has w2 w1.heap.size 25 #[.int .i64 s, .int .i64 n, .int .i64 t, .int .i64 p, .int .i64 u] by rw [← hW2]; exact has_new _ _ _)
  clear hW2
  have c2 := bthen hb1 b2
  refine (places_any w2 A na ca hn ((HS.out.below c2).below' c2.size)).mono ?_
  rintro e w3 ⟨kb, kc, kl, rfl, hk12, hkall, hkc, hklt, hkge, hb3⟩
  have c3 := bthen c2 hb3
  have k3 := has_call K2.out hb3
  obtain ⟨x0, hx0⟩ : ∃ x, kl[0]? = some x := ⟨_, List.getElem?_eq_getElem (by omega)⟩
  obtain ⟨x1, hx1⟩ : ∃ x, kl[1]? = some x := ⟨_, List.getElem?_eq_getElem (by omega)⟩
  have hr0 := hkall x0 (List.mem_of_getElem? hx0)
  have hr1 := hkall x1 (List.mem_of_getElem? hx1)
  have y0 := hkc 0 x0 hx0
  have y1 := hkc 1 x1 hx1
  obtain ⟨r00, r01⟩ := hr0
  obtain ⟨r10, r11⟩ := hr1
  obtain ⟨d, hm7, hd0, hd1⟩ : ∃ d : Int, x0.tmod 7 = d ∧ 0 ≤ d ∧ d ≤ 6 := ⟨_, rfl, by rw [Int.tmod_eq_emod_of_nonneg r00]; omega, by rw [Int.tmod_eq_emod_of_nonneg r00]; omega⟩
  obtain ⟨q, hq50, hq0, hq1⟩ : ∃ q : Int, x1.tmod 50 = q ∧ 0 ≤ q ∧ q ≤ 49 := ⟨_, rfl, by rw [Int.tmod_eq_emod_of_nonneg r10]; omega, by rw [Int.tmod_eq_emod_of_nonneg r10]; omega⟩
  have HQ50 := Lib.hid hq50; clear hq50
  have hwr : IntKind.i64.wrap (n + d) = n + d := IntWalk.i64_in _ (by omega)
  have C3 := Lib.hid c3
  clear hx0 hx1 hkall hkc c3 c2 b2 hb1 K2 HS
  have Y1 := Lib.hid y1
  have e0 := has_cell k3 0 rfl; have e1 := has_cell k3 1 rfl
  have lt3 := has_lt k3
  have K3 := Lib.hid k3; clear k3
  go_wp2_with fail
  go_region
  clear e0 e1 y0 y1 hm7 hwr
  obtain ⟨pc, hpc⟩ : ∃ pc : Int, n + d = pc := ⟨_, rfl⟩
  have hp0 : n ≤ pc := by omega
  have hp6 : pc ≤ n + 6 := by omega
  rw [hpc]
  clear hpc hd0 hd1
  generalize hW4 : (w3.alloc (.cells #[.int .i64 s, .int .i64 pc] 36)).drew = w4
  have b4 : Below w3.heap.size w3 w4 := by rw [← hW4]; exact (balloc _ _).drew
  have m4 : Has w4 w3.heap.size 36 #[.int .i64 s, .int .i64 pc] := by rw [← hW4]; exact has_drew (has_new _ _ _)
  clear hW4
  have k4 := has_call K3.out b4
  have Y4 := Lib.hid ((bold b4 kb 1 hklt).trans Y1.out)
  have C4 := Lib.hid (bthen C3.out b4)
  have hklt4 : kb < w4.heap.size := Nat.lt_of_lt_of_le hklt b4.size
  have l0 := has_cell m4 0 rfl; have l1 := has_cell m4 1 rfl
  have e0 := has_cell k4 0 rfl; have e1 := has_cell k4 1 rfl; have e2 := has_cell k4 2 rfl; have e3 := has_cell k4 3 rfl; have e4 := has_cell k4 4 rfl
  have ltk := has_lt k4; have ltm := has_lt m4
  have K4 := Lib.hid k4; have M4 := Lib.hid m4
  clear k4 m4 b4 K3 Y1 C3 hb3 hklt hkge
  by_cases h5 : pc - n < 5
  · by_cases hM : pc ≤ 1000000
    · have HCAN := Lib.hid (can_yes (ps := s) (pc := pc) (s := s) (n := n) (t := t) (p := p) (u := u) (by unfold CanP; omega)).symm
      have HPRS := Lib.hid (prsV_yes (s := s) (c := pc) (padB_iff.2 (by omega)) hM)
      obtain ⟨m, hm0, hm1, hE⟩ := pad_opens (now := u + q) HLK.out hp0 (by omega) hM (by omega) (by omega)
      have HT := Lib.hid (show lkT s (enterK s n t p u (findN (fun m => shownL s m [codeT s pc]) n (fcnt n 5 1)) 1 (u + q)) = .tuple #[.agg #[.int .i64 s, .int .i64 (m + 1), .int .i64 0, .int .i64 0, .int .i64 u], .int .i64 0] by rw [hE]; rfl)
      clear hE
      go_wp2_with fail
      refine (canI_any _ s pc s n t p u).mono ?_
      rintro e w5 ⟨rfl, hb5⟩
      rw [HCAN.out]
      have k5 := has_call K4.out hb5; have m5 := has_call M4.out hb5
      have Y5 := Lib.hid ((bold hb5 kb 1 hklt4).trans Y4.out); have C5 := Lib.hid (bthen C4.out hb5)
      have hklt5 : kb < w5.heap.size := Nat.lt_of_lt_of_le hklt4 hb5.size
      clear l0 l1 e0 e1 e2 e3 e4 ltk ltm hb5 K4 M4 Y4 C4 hklt4 HCAN
      have e0 := has_cell k5 0 rfl; have e1 := has_cell k5 1 rfl; have e2 := has_cell k5 2 rfl; have e3 := has_cell k5 3 rfl; have e4 := has_cell k5 4 rfl
      have ltk := has_lt k5
      have K5 := Lib.hid k5; have M5 := Lib.hid m5; clear k5 m5
      go_wp2_with fail
      refine (lockI_any _ s n t p u).mono ?_
      rintro e w6 ⟨rfl, hb6⟩
      rw [HLK.out]
      have k6 := has_call K5.out hb6; have m6 := has_call M5.out hb6
      have Y6 := Lib.hid ((bold hb6 kb 1 hklt5).trans Y5.out); have C6 := Lib.hid (bthen C5.out hb6)
      have hklt6 : kb < w6.heap.size := Nat.lt_of_lt_of_le hklt5 hb6.size
      clear e0 e1 e2 e3 e4 ltk hb6 K5 M5 Y5 C5 hklt5
      have l0 := has_cell m6 0 rfl; have l1 := has_cell m6 1 rfl
      have ltm := has_lt m6
      have K6 := Lib.hid k6; have M6 := Lib.hid m6; clear k6 m6
      go_wp2_with fail
      refine (prsI_any _ s pc (HR.out.below C6.out)).mono ?_
      rintro e w7 ⟨rfl, hb7⟩
      rw [HPRS.out]
      have k7 := has_call K6.out hb7; have m7 := has_call M6.out hb7
      have Y7 := Lib.hid ((bold hb7 kb 1 hklt6).trans Y6.out); have C7 := Lib.hid (bthen C6.out hb7)
      have hklt7 : kb < w7.heap.size := Nat.lt_of_lt_of_le hklt6 hb7.size
      clear l0 l1 ltm hb7 K6 M6 Y6 C6 hklt6 HPRS
      have l0 := has_cell m7 0 rfl; have l1 := has_cell m7 1 rfl
      have ltm := has_lt m7; have ltk := has_lt k7
      have K7 := Lib.hid k7; have M7 := Lib.hid m7; clear k7 m7
      go_wp2_with fail
      generalize hW8 : (w7.alloc (.cells #[.int .i64 s, .int .i64 (pc + 1)] 36)) = w8
      have b8 : Below w7.heap.size w7 w8 := by rw [← hW8]; exact balloc _ _
      have X8 := Lib.hid (show Has w8 w7.heap.size 36 #[.int .i64 s, .int .i64 (pc + 1)] by rw [← hW8]; exact has_new _ _ _)
      clear hW8
      have k8 := has_call K7.out b8; have M8 := Lib.hid (has_call M7.out b8)
      have y8 := (bold b8 kb 1 hklt7).trans Y7.out; have C8 := Lib.hid (bthen C7.out b8)
      have hklt8 : kb < w8.heap.size := Nat.lt_of_lt_of_le hklt7 b8.size
      have hz8 := b8.size
      clear l0 l1 b8 K7 M7 Y7 C7
      have e0 := has_cell k8 0 rfl; have e1 := has_cell k8 1 rfl; have e2 := has_cell k8 2 rfl; have e3 := has_cell k8 3 rfl; have e4 := has_cell k8 4 rfl
      have K8 := Lib.hid k8; clear k8
      have hq50 := HQ50.out
      have hwr : IntKind.i64.wrap (u + q) = u + q := IntWalk.i64_in _ (by omega)
      have RD := Lib.hid (HR.out.below C8.out)
      have lt8 : w1.heap.size < w8.heap.size := by omega
      have S00 : (fun W : World => (W.cell? ⟨w1.heap.size, 0, none⟩ = some (.int .i64 s) ∧ W.cell? ⟨w1.heap.size, 1, none⟩ = some (.int .i64 n) ∧ W.cell? ⟨w1.heap.size, 2, none⟩ = some (.int .i64 t) ∧ W.cell? ⟨w1.heap.size, 3, none⟩ = some (.int .i64 p) ∧ W.cell? ⟨w1.heap.size, 4, none⟩ = some (.int .i64 u) ∧ W.cell? ⟨kb, 1, none⟩ = some (.int .i64 x1)) ∧ Below w8.heap.size w8 W) w8 := ⟨⟨e0, e1, e2, e3, e4, y8⟩, Below.refl _ _⟩
      have S0 : (fun W : World => (W.cell? ⟨w1.heap.size, 0, none⟩ = some (.int .i64 s) ∧ W.cell? ⟨w1.heap.size, 1, none⟩ = some (.int .i64 n) ∧ W.cell? ⟨w1.heap.size, 2, none⟩ = some (.int .i64 t) ∧ W.cell? ⟨w1.heap.size, 3, none⟩ = some (.int .i64 p) ∧ W.cell? ⟨w1.heap.size, 4, none⟩ = some (.int .i64 u) ∧ W.cell? ⟨kb, 1, none⟩ = some (.int .i64 x1)) ∧ Below w8.heap.size w8 W) w8.drew := ⟨⟨e0, e1, e2, e3, e4, y8⟩, (Below.refl _ _).drew⟩
      clear e0 e1 e2 e3 e4 y8
      go_region_held3 (fun W : World => (W.cell? ⟨w1.heap.size, 0, none⟩ = some (.int .i64 s) ∧ W.cell? ⟨w1.heap.size, 1, none⟩ = some (.int .i64 n) ∧ W.cell? ⟨w1.heap.size, 2, none⟩ = some (.int .i64 t) ∧ W.cell? ⟨w1.heap.size, 3, none⟩ = some (.int .i64 p) ∧ W.cell? ⟨w1.heap.size, 4, none⟩ = some (.int .i64 u) ∧ W.cell? ⟨kb, 1, none⟩ = some (.int .i64 x1)) ∧ Below w8.heap.size w8 W) (first | (with_reducible assumption) | (with_reducible refine keep6c lt8 hklt8 ?_ (balloc _ _)); (with_reducible assumption) | (with_reducible refine keep6c lt8 hklt8 ?_ (balloc _ _).drew); (with_reducible assumption) | (with_reducible refine keep6 lt8 hklt8 ?_ (bset5 (Nat.le_refl _) _ _ _ _ _ (Below.refl _ _))); (with_reducible assumption)) (first
        | (go_at_call 11; refine (tryI_any _ s n t p u _ _ (RD.out.below (by with_reducible (first | exact (Below.refl _ _).drew | exact (balloc _ _).drew | exact (balloc _ _))))).mono ?_; rintro e w9 ⟨rfl, hb9⟩; rw [HT.out]; have S9 := keep6c lt8 hklt8 (by with_reducible assumption) hb9; first | (have mz : Has w9 w8.heap.size 25 #[.int .i64 0, .int .i64 0, .int .i64 0, .int .i64 0, .int .i64 0] := (by with_reducible exact has_call (has_drew (has_new _ _ _)) hb9); have z0 := has_cell mz 0 rfl; have z1 := has_cell mz 1 rfl; have z2 := has_cell mz 2 rfl; have z3 := has_cell mz 3 rfl; have z4 := has_cell mz 4 rfl; have f0 := has_free mz 0; have f1 := has_free mz 1; have f2 := has_free mz 2; have f3 := has_free mz 3; have f4 := has_free mz 4; have ltz := has_lt mz) | skip))
      ·
        have bW : Below w8.heap.size w8 (w9.alloc (.cells #[.int .i64 s, .int .i64 (m + 1), .int .i64 0, .int .i64 0, .int .i64 u] 25)) := S9.2.alloc S9.2.size _
        have yW : Has (w9.alloc (.cells #[.int .i64 s, .int .i64 (m + 1), .int .i64 0, .int .i64 0, .int .i64 u] 25)) w9.heap.size 25 #[.int .i64 s, .int .i64 (m + 1), .int .i64 0, .int .i64 0, .int .i64 u] := has_new _ _ _
        clear S00 S0 S9 hb9
        generalize hW : (w9.alloc (.cells #[.int .i64 s, .int .i64 (m + 1), .int .i64 0, .int .i64 0, .int .i64 u] 25)) = wW at bW yW ⊢
        clear hW
        have cW := bthen C8.out bW
        have pW := has_call M8.out bW; have xW := has_call X8.out bW
        clear bW hq50 hwr RD HT K8 X8 M8 C8 HQ50
        have l0 := has_cell pW 0 rfl; have l1 := has_cell pW 1 rfl; have ltp := has_lt pW
        have x0 := has_cell xW 0 rfl; have x1 := has_cell xW 1 rfl; have ltx := has_lt xW
        have v0 := has_cell yW 0 rfl; have v1 := has_cell yW 1 rfl; have v2 := has_cell yW 2 rfl; have v3 := has_cell yW 3 rfl; have v4 := has_cell yW 4 rfl; have lty := has_lt yW
        have YW := Lib.hid yW; have PW := Lib.hid pW; have XW := Lib.hid xW; have CW := Lib.hid cW; clear yW pW xW cW
        generalize hcode : codeT s pc = tx at *
        go_wp2_with fail
        refine (codeS_any _ s pc).mono ?_
        rintro e w10 ⟨rfl, hb10⟩
        rw [hcode]
        clear l0 l1 ltp x0 x1 ltx v0 v1 v2 v3 v4 lty
        have yV := has_call YW.out hb10; have pV := has_call PW.out hb10; have xV := has_call XW.out hb10; have CV := Lib.hid (bthen CW.out hb10)
        clear YW PW XW CW hb10 hcode
        have l0 := has_cell pV 0 rfl; have l1 := has_cell pV 1 rfl; have ltp := has_lt pV
        have x0 := has_cell xV 0 rfl; have x1 := has_cell xV 1 rfl; have ltx := has_lt xV
        have v0 := has_cell yV 0 rfl; have v1 := has_cell yV 1 rfl; have v2 := has_cell yV 2 rfl; have v3 := has_cell yV 3 rfl; have v4 := has_cell yV 4 rfl; have lty := has_lt yV
        clear yV pV xV
        by_cases hx : 1000000 < pc + 1
        · go_wp2_with fail
          go_ret
          exact ⟨rfl, CV.out⟩
        · have HC2 := Lib.hid (can_yes (ps := s) (pc := pc + 1) (s := s) (n := m + 1) (t := 0) (p := 0) (u := u) (by unfold CanP; omega)).symm
          go_wp2_with fail
          refine (canI_any _ s (pc + 1) s (m + 1) 0 0 u).mono ?_
          rintro e w11 ⟨rfl, hb11⟩
          rw [HC2.out]
          have CE := Lib.hid (bthen CV.out hb11)
          clear l0 l1 ltp x0 x1 ltx v0 v1 v2 v3 v4 lty hb11
          go_wp2_with fail
          go_ret
          exact ⟨rfl, CE.out⟩
      ·
        clear z0 z1 z2 z3 z4 f0 f1 f2 f3 f4 ltz
        have bW : Below w8.heap.size w8 (((((w9.setCell ⟨w8.heap.size, 0, none⟩ (.int .i64 s)).setCell ⟨w8.heap.size, 1, none⟩ (.int .i64 (m + 1))).setCell ⟨w8.heap.size, 2, none⟩ (.int .i64 0)).setCell ⟨w8.heap.size, 3, none⟩ (.int .i64 0)).setCell ⟨w8.heap.size, 4, none⟩ (.int .i64 u)) := bset5 (Nat.le_refl _) _ _ _ _ _ S9.2
        have yW : Has (((((w9.setCell ⟨w8.heap.size, 0, none⟩ (.int .i64 s)).setCell ⟨w8.heap.size, 1, none⟩ (.int .i64 (m + 1))).setCell ⟨w8.heap.size, 2, none⟩ (.int .i64 0)).setCell ⟨w8.heap.size, 3, none⟩ (.int .i64 0)).setCell ⟨w8.heap.size, 4, none⟩ (.int .i64 u)) w8.heap.size 25 #[.int .i64 s, .int .i64 (m + 1), .int .i64 0, .int .i64 0, .int .i64 u] := hset5 mz _ _ _ _ _
        clear S00 S0 S9 hb9
        generalize hW : (((((w9.setCell ⟨w8.heap.size, 0, none⟩ (.int .i64 s)).setCell ⟨w8.heap.size, 1, none⟩ (.int .i64 (m + 1))).setCell ⟨w8.heap.size, 2, none⟩ (.int .i64 0)).setCell ⟨w8.heap.size, 3, none⟩ (.int .i64 0)).setCell ⟨w8.heap.size, 4, none⟩ (.int .i64 u)) = wW at bW yW ⊢
        clear hW
        have cW := bthen C8.out bW
        have pW := has_call M8.out bW; have xW := has_call X8.out bW
        clear bW hq50 hwr RD HT K8 X8 M8 C8 HQ50
        have l0 := has_cell pW 0 rfl; have l1 := has_cell pW 1 rfl; have ltp := has_lt pW
        have x0 := has_cell xW 0 rfl; have x1 := has_cell xW 1 rfl; have ltx := has_lt xW
        have v0 := has_cell yW 0 rfl; have v1 := has_cell yW 1 rfl; have v2 := has_cell yW 2 rfl; have v3 := has_cell yW 3 rfl; have v4 := has_cell yW 4 rfl; have lty := has_lt yW
        have YW := Lib.hid yW; have PW := Lib.hid pW; have XW := Lib.hid xW; have CW := Lib.hid cW; clear yW pW xW cW
        generalize hcode : codeT s pc = tx at *
        go_wp2_with fail
        refine (codeS_any _ s pc).mono ?_
        rintro e w10 ⟨rfl, hb10⟩
        rw [hcode]
        clear l0 l1 ltp x0 x1 ltx v0 v1 v2 v3 v4 lty
        have yV := has_call YW.out hb10; have pV := has_call PW.out hb10; have xV := has_call XW.out hb10; have CV := Lib.hid (bthen CW.out hb10)
        clear YW PW XW CW hb10 hcode
        have l0 := has_cell pV 0 rfl; have l1 := has_cell pV 1 rfl; have ltp := has_lt pV
        have x0 := has_cell xV 0 rfl; have x1 := has_cell xV 1 rfl; have ltx := has_lt xV
        have v0 := has_cell yV 0 rfl; have v1 := has_cell yV 1 rfl; have v2 := has_cell yV 2 rfl; have v3 := has_cell yV 3 rfl; have v4 := has_cell yV 4 rfl; have lty := has_lt yV
        clear yV pV xV
        by_cases hx : 1000000 < pc + 1
        · go_wp2_with fail
          go_ret
          exact ⟨rfl, CV.out⟩
        · have HC2 := Lib.hid (can_yes (ps := s) (pc := pc + 1) (s := s) (n := m + 1) (t := 0) (p := 0) (u := u) (by unfold CanP; omega)).symm
          go_wp2_with fail
          refine (canI_any _ s (pc + 1) s (m + 1) 0 0 u).mono ?_
          rintro e w11 ⟨rfl, hb11⟩
          rw [HC2.out]
          have CE := Lib.hid (bthen CV.out hb11)
          clear l0 l1 ltp x0 x1 ltx v0 v1 v2 v3 v4 lty hb11
          go_wp2_with fail
          go_ret
          exact ⟨rfl, CE.out⟩
    ·
      have HCAN := Lib.hid (can_no (ps := s) (pc := pc) (s := s) (n := n) (t := t) (p := p) (u := u) (by unfold CanP; omega)).symm
      have HPRS := Lib.hid (prsV_no (s := s) (c := pc) (fun h => hM h.2))
      go_wp2_with fail
      refine (canI_any _ s pc s n t p u).mono ?_
      rintro e w5 ⟨rfl, hb5⟩
      rw [HCAN.out]
      have k5 := has_call K4.out hb5; have M5 := Lib.hid (has_call M4.out hb5); have C5 := Lib.hid (bthen C4.out hb5)
      clear l0 l1 e0 e1 e2 e3 e4 ltk ltm hb5 K4 M4 Y4 C4 HCAN
      have e0 := has_cell k5 0 rfl; have e1 := has_cell k5 1 rfl; have e2 := has_cell k5 2 rfl; have e3 := has_cell k5 3 rfl; have e4 := has_cell k5 4 rfl
      have ltk := has_lt k5
      clear k5
      go_wp2_with fail
      refine (lockI_any _ s n t p u).mono ?_
      rintro e w6 ⟨rfl, hb6⟩
      rw [HLK.out]
      have m6 := has_call M5.out hb6; have C6 := Lib.hid (bthen C5.out hb6)
      clear e0 e1 e2 e3 e4 ltk hb6 M5 C5
      have l0 := has_cell m6 0 rfl; have l1 := has_cell m6 1 rfl
      have ltm := has_lt m6
      have M6 := Lib.hid m6; clear m6
      go_wp2_with fail
      refine (prsI_any _ s pc (HR.out.below C6.out)).mono ?_
      rintro e w7 ⟨rfl, hb7⟩
      rw [HPRS.out]
      have m7 := has_call M6.out hb7; have C7 := Lib.hid (bthen C6.out hb7)
      clear l0 l1 ltm hb7 M6 C6 HPRS
      have l0 := has_cell m7 0 rfl; have l1 := has_cell m7 1 rfl
      have ltm := has_lt m7
      clear m7
      go_wp2_with fail
      go_ret
      exact ⟨rfl, bthen C7.out (balloc _ _)⟩
  · by_cases hM : pc ≤ 1000000
    ·
      have HCAN := Lib.hid (can_no (ps := s) (pc := pc) (s := s) (n := n) (t := t) (p := p) (u := u) (by unfold CanP; omega)).symm
      have HPRS := Lib.hid (prsV_yes (s := s) (c := pc) (padB_iff.2 (by omega)) hM)
      go_wp2_with fail
      refine (canI_any _ s pc s n t p u).mono ?_
      rintro e w5 ⟨rfl, hb5⟩
      rw [HCAN.out]
      have k5 := has_call K4.out hb5; have M5 := Lib.hid (has_call M4.out hb5); have C5 := Lib.hid (bthen C4.out hb5)
      clear l0 l1 e0 e1 e2 e3 e4 ltk ltm hb5 K4 M4 Y4 C4 HCAN
      have e0 := has_cell k5 0 rfl; have e1 := has_cell k5 1 rfl; have e2 := has_cell k5 2 rfl; have e3 := has_cell k5 3 rfl; have e4 := has_cell k5 4 rfl
      have ltk := has_lt k5
      clear k5
      go_wp2_with fail
      refine (lockI_any _ s n t p u).mono ?_
      rintro e w6 ⟨rfl, hb6⟩
      rw [HLK.out]
      have m6 := has_call M5.out hb6; have C6 := Lib.hid (bthen C5.out hb6)
      clear e0 e1 e2 e3 e4 ltk hb6 M5 C5
      have l0 := has_cell m6 0 rfl; have l1 := has_cell m6 1 rfl
      have ltm := has_lt m6
      have M6 := Lib.hid m6; clear m6
      go_wp2_with fail
      refine (prsI_any _ s pc (HR.out.below C6.out)).mono ?_
      rintro e w7 ⟨rfl, hb7⟩
      rw [HPRS.out]
      have m7 := has_call M6.out hb7; have C7 := Lib.hid (bthen C6.out hb7)
      clear l0 l1 ltm hb7 M6 C6 HPRS
      have l0 := has_cell m7 0 rfl; have l1 := has_cell m7 1 rfl
      have ltm := has_lt m7
      clear m7
      go_wp2_with fail
      go_ret
      exact ⟨rfl, bthen C7.out (balloc _ _)⟩
    ·
      have HCAN := Lib.hid (can_no (ps := s) (pc := pc) (s := s) (n := n) (t := t) (p := p) (u := u) (by unfold CanP; omega)).symm
      have HPRS := Lib.hid (prsV_no (s := s) (c := pc) (fun h => hM h.2))
      go_wp2_with fail
      refine (canI_any _ s pc s n t p u).mono ?_
      rintro e w5 ⟨rfl, hb5⟩
      rw [HCAN.out]
      have k5 := has_call K4.out hb5; have M5 := Lib.hid (has_call M4.out hb5); have C5 := Lib.hid (bthen C4.out hb5)
      clear l0 l1 e0 e1 e2 e3 e4 ltk ltm hb5 K4 M4 Y4 C4 HCAN
      have e0 := has_cell k5 0 rfl; have e1 := has_cell k5 1 rfl; have e2 := has_cell k5 2 rfl; have e3 := has_cell k5 3 rfl; have e4 := has_cell k5 4 rfl
      have ltk := has_lt k5
      clear k5
      go_wp2_with fail
      refine (lockI_any _ s n t p u).mono ?_
      rintro e w6 ⟨rfl, hb6⟩
      rw [HLK.out]
      have m6 := has_call M5.out hb6; have C6 := Lib.hid (bthen C5.out hb6)
      clear e0 e1 e2 e3 e4 ltk hb6 M5 C5
      have l0 := has_cell m6 0 rfl; have l1 := has_cell m6 1 rfl
      have ltm := has_lt m6
      have M6 := Lib.hid m6; clear m6
      go_wp2_with fail
      refine (prsI_any _ s pc (HR.out.below C6.out)).mono ?_
      rintro e w7 ⟨rfl, hb7⟩
      rw [HPRS.out]
      have m7 := has_call M6.out hb7; have C7 := Lib.hid (bthen C6.out hb7)
      clear l0 l1 ltm hb7 M6 C6 HPRS
      have l0 := has_cell m7 0 rfl; have l1 := has_cell m7 1 rfl
      have ltm := has_lt m7
      clear m7
      go_wp2_with fail
      go_ret
      exact ⟨rfl, bthen C7.out (balloc _ _)⟩
end Go.Proofs.YtjpafmkmpnibgabDoor
