
/- Chapter 9: the program's stayOk (gen_npu.py). -/
import Derived.Test.YtjpkpfmpjgeeiaaGreatQ40
import Derived.Test.YtjpkpfmpjgeeiaaGreatQ37
import Derived.Test.YtjpkpfmpjgeeiaaGreatQ17
import Derived.Test.YtjpkpfmpjgeeiaaGreatQ26
import Derived.Test.YtjpkpfmpjgeeiaaGreatQ27
import Derived.Deep.RegionHeld3
import Derived.Deep.DeepCutAuto
namespace Go.Proofs.YtjpkpfmpjgeeiaaGreat
open Go.RowKit
set_option linter.unusedVariables false
set_option maxRecDepth 100000
set_option maxHeartbeats 8000000 in
theorem stayI_any (w : World) (g o B : Nat) (n : Net) (k : Nat) (p : Pc) (hp : n.pc[k]? = some p) (H : NetIn w g o n) (hB : B ≤ w.heap.size) (hV : NetV w B n) (hl : n.pc.length ≤ 12) (hcb : 0 ≤ n.tm.price * n.tm.most ∧ n.tm.price * n.tm.most ≤ 2000000) (hcc : 0 ≤ n.tm.cap ∧ n.tm.cap ≤ 100000000) (hs : p.stage = 2 → 0 ≤ p.site ∧ p.site < n.st.length) :
    Calls Tryz.prog 86 #[.pointer (some ⟨g, o, none⟩), .int .i64 ((k : Int) + 1)] w fun e w' => e = .returned (.bool (stayB n k p)) ∧ Below w.heap.size w w' := by
  have hl1 := hV.l1; have hl2 := hV.l2
  have hkl : k < n.pc.length := (List.getElem?_eq_some_iff.1 hp).1
  obtain ⟨b, off, p', hA, hbB, hp', hc0, hc1, hc2, hc3, hc4, hc5, hc6, hc7, hc8, hc9, hc10, hc11, hc12⟩ := hV.pl.at_ hkl
  obtain rfl : p = p' := by rw [hp] at hp'; injection hp'
  have HV := Lib.hid hV; have HH := Lib.hid H; have HSS := Lib.hid hs; clear hV H hp hp' hs
  have hbw : b < w.heap.size := by omega
  go_enter Tryz.func86, Tryz.ntmps86
  go_wp2_with fail
  refine (parN_any _ g o n k b off hkl hl2 hA HH.out).mono ?_
  rintro e w' ⟨rfl, hw⟩
  rw [hw]; clear hw hA
  go_upto_region 2 with fail
  clear hc0 hc1 hc2 hc3 hc4 hc5 hc6 hc7 hc8 hc9 hc10 hc11 hc12
  generalize hW : w.alloc (.cells #[.int .i64 p.size, .int .i64 p.owner, .int .i64 p.site, .int .i64 p.stage, .int .i64 p.since, .int .i64 p.ext, .int .i64 p.ls, .int .i64 p.ln, .int .i64 p.lt, .int .i64 p.lp, .int .i64 p.lu, .int .i64 p.who, .int .i64 p.fee] 55) = w1
  have b1 : Below w.heap.size w w1 := by rw [← hW]; exact balloc _ _
  have k1 : Has w1 w.heap.size 55 #[.int .i64 p.size, .int .i64 p.owner, .int .i64 p.site, .int .i64 p.stage, .int .i64 p.since, .int .i64 p.ext, .int .i64 p.ls, .int .i64 p.ln, .int .i64 p.lt, .int .i64 p.lp, .int .i64 p.lu, .int .i64 p.who, .int .i64 p.fee] := by rw [← hW]; exact has_new _ _ _
  clear hW
  have hs1 := b1.size
  have kk := HH.out.later b1; clear HH; have HH := Lib.hid kk; clear kk
  have BB := Lib.hid b1; have K := Lib.hid k1; clear k1 b1
  have q0 := has_cell K.out 0 rfl; have q1 := has_cell K.out 1 rfl; have q2 := has_cell K.out 2 rfl; have q3 := has_cell K.out 3 rfl; have q4 := has_cell K.out 4 rfl; have q5 := has_cell K.out 5 rfl; have q6 := has_cell K.out 6 rfl; have q7 := has_cell K.out 7 rfl; have q8 := has_cell K.out 8 rfl; have q9 := has_cell K.out 9 rfl; have q10 := has_cell K.out 10 rfl; have q11 := has_cell K.out 11 rfl; have q12 := has_cell K.out 12 rfl; have ql := has_lt K.out
  go_wp2_with fail
  clear q0 q1 q2 q3 q4 q5 q6 q7 q8 q9 q10 q11 q12 ql
  refine (unplI_any w1 g o B n p HH.out (by omega) (HV.out.later hB BB.out).si hl1 HSS.out).mono ?_
  rintro e w2 ⟨rfl, hb⟩
  have kk := bthen BB.out hb; clear BB; have BB := Lib.hid kk; clear kk
  have kk := HH.out.later hb; clear HH; have HH := Lib.hid kk; clear kk
  have kk := has_call K.out hb; clear K; have K := Lib.hid kk; clear kk
  have hsw2 := hb.size; clear hb
  clear HSS
  cases hu : unplB n.st p
  rotate_left
  · have hsv : stayB n k p = (p.since == 0 && p.ext == 0 && p.ls == 0 && p.ln == 0 && p.lt == 0 && p.lp == 0 && p.lu == 0 && p.who == 0 && p.fee == 0) := by unfold stayB; rw [if_pos hu]
    have HSV := Lib.hid hsv; clear hsv
    have q0 := has_cell K.out 0 rfl; have q1 := has_cell K.out 1 rfl; have q2 := has_cell K.out 2 rfl; have q3 := has_cell K.out 3 rfl; have q4 := has_cell K.out 4 rfl; have q5 := has_cell K.out 5 rfl; have q6 := has_cell K.out 6 rfl; have q7 := has_cell K.out 7 rfl; have q8 := has_cell K.out 8 rfl; have q9 := has_cell K.out 9 rfl; have q10 := has_cell K.out 10 rfl; have q11 := has_cell K.out 11 rfl; have q12 := has_cell K.out 12 rfl; have ql := has_lt K.out
    go_wp2_with fail
    all_goals (go_ret; exact ⟨rbool (by rw [HSV.out]; simp [*]), BB.out⟩)
  have hsv : stayB n k p = (inR p.since 0 n.now && inR p.ext 0 n.tm.most && lockB p.ls p.ln p.lt p.lp p.lu && p.ls == secV n.secret ((k : Int) + 1) && (if p.stage = 4 then perB p.who && inR p.fee 0 (n.tm.cap + n.tm.price * n.tm.most) else p.who == 0 && p.fee == 0)) := by unfold stayB; rw [if_neg (by simp [hu])]
  have HSV := Lib.hid hsv; clear hsv hu
  go_upto_region 4 with fail
  have hgs := HH.out.lt
  by_cases c1 : p.since < 0
  · have d1 : inR p.since 0 n.now = false := by unfold inR; simp; omega
    have hlp := has_lt K.out; have hlg := HH.out.lt
    have pc0 := has_cell (has_drew K.out) 0 rfl; have pc1 := has_cell (has_drew K.out) 1 rfl; have pc2 := has_cell (has_drew K.out) 2 rfl; have pc3 := has_cell (has_drew K.out) 3 rfl; have pc4 := has_cell (has_drew K.out) 4 rfl; have pc5 := has_cell (has_drew K.out) 5 rfl; have pc6 := has_cell (has_drew K.out) 6 rfl; have pc7 := has_cell (has_drew K.out) 7 rfl; have pc8 := has_cell (has_drew K.out) 8 rfl; have pc9 := has_cell (has_drew K.out) 9 rfl; have pc10 := has_cell (has_drew K.out) 10 rfl; have pc11 := has_cell (has_drew K.out) 11 rfl; have pc12 := has_cell (has_drew K.out) 12 rfl
    have nc0 := (HH.out.later (Below.refl _ _).drew).c 0 _ rfl; have nc1 := (HH.out.later (Below.refl _ _).drew).c 1 _ rfl; have nc2 := (HH.out.later (Below.refl _ _).drew).c 2 _ rfl; have nc3 := (HH.out.later (Below.refl _ _).drew).c 3 _ rfl; have nc4 := (HH.out.later (Below.refl _ _).drew).c 4 _ rfl; have nc5 := (HH.out.later (Below.refl _ _).drew).c 5 _ rfl; have nc6 := (HH.out.later (Below.refl _ _).drew).c 6 _ rfl; have nc7 := (HH.out.later (Below.refl _ _).drew).c 7 _ rfl; have nc8 := (HH.out.later (Below.refl _ _).drew).c 8 _ rfl; have nc9 := (HH.out.later (Below.refl _ _).drew).c 9 _ rfl; have nc10 := (HH.out.later (Below.refl _ _).drew).c 10 _ rfl; have nc11 := (HH.out.later (Below.refl _ _).drew).c 11 _ rfl; have nc12 := (HH.out.later (Below.refl _ _).drew).c 12 _ rfl; have nc13 := (HH.out.later (Below.refl _ _).drew).c 13 _ rfl; have nc14 := (HH.out.later (Below.refl _ _).drew).c 14 _ rfl
    rw [Nat.add_zero] at nc0
    have S0 : (fun W : World => (W.cell? ⟨w.heap.size, 0, none⟩ = some (.int .i64 p.size) ∧ W.cell? ⟨w.heap.size, 1, none⟩ = some (.int .i64 p.owner) ∧ W.cell? ⟨w.heap.size, 2, none⟩ = some (.int .i64 p.site) ∧ W.cell? ⟨w.heap.size, 3, none⟩ = some (.int .i64 p.stage) ∧ W.cell? ⟨w.heap.size, 4, none⟩ = some (.int .i64 p.since) ∧ W.cell? ⟨w.heap.size, 5, none⟩ = some (.int .i64 p.ext) ∧ W.cell? ⟨w.heap.size, 6, none⟩ = some (.int .i64 p.ls) ∧ W.cell? ⟨w.heap.size, 7, none⟩ = some (.int .i64 p.ln) ∧ W.cell? ⟨w.heap.size, 8, none⟩ = some (.int .i64 p.lt) ∧ W.cell? ⟨w.heap.size, 9, none⟩ = some (.int .i64 p.lp) ∧ W.cell? ⟨w.heap.size, 10, none⟩ = some (.int .i64 p.lu) ∧ W.cell? ⟨w.heap.size, 11, none⟩ = some (.int .i64 p.who) ∧ W.cell? ⟨w.heap.size, 12, none⟩ = some (.int .i64 p.fee) ∧ W.cell? ⟨g, o, none⟩ = some (.int .i64 n.tm.keep) ∧ W.cell? ⟨g, o + 1, none⟩ = some (.int .i64 n.tm.free) ∧ W.cell? ⟨g, o + 2, none⟩ = some (.int .i64 n.tm.step) ∧ W.cell? ⟨g, o + 3, none⟩ = some (.int .i64 n.tm.rate) ∧ W.cell? ⟨g, o + 4, none⟩ = some (.int .i64 n.tm.cap) ∧ W.cell? ⟨g, o + 5, none⟩ = some (.int .i64 n.tm.longer) ∧ W.cell? ⟨g, o + 6, none⟩ = some (.int .i64 n.tm.price) ∧ W.cell? ⟨g, o + 7, none⟩ = some (.int .i64 n.tm.most) ∧ W.cell? ⟨g, o + 8, none⟩ = some (.int .i64 n.room) ∧ W.cell? ⟨g, o + 9, none⟩ = some (.int .i64 n.secret) ∧ W.cell? ⟨g, o + 10, none⟩ = some (.int .i64 n.now) ∧ W.cell? ⟨g, o + 11, none⟩ = some (.slice n.AS n.st.length n.cS) ∧ W.cell? ⟨g, o + 12, none⟩ = some (.slice n.AP n.pc.length n.cP) ∧ W.cell? ⟨g, o + 13, none⟩ = some (.slice n.AG n.gr.length n.cG) ∧ W.cell? ⟨g, o + 14, none⟩ = some (.slice n.AJ n.jr.length n.cJ)) ∧ Below w2.heap.size w2 W) w2.drew := ⟨⟨pc0, pc1, pc2, pc3, pc4, pc5, pc6, pc7, pc8, pc9, pc10, pc11, pc12, nc0, nc1, nc2, nc3, nc4, nc5, nc6, nc7, nc8, nc9, nc10, nc11, nc12, nc13, nc14⟩, (Below.refl _ _).drew⟩
    clear pc0 pc1 pc2 pc3 pc4 pc5 pc6 pc7 pc8 pc9 pc10 pc11 pc12 nc0 nc1 nc2 nc3 nc4 nc5 nc6 nc7 nc8 nc9 nc10 nc11 nc12 nc13 nc14
    refine wp_region_held_drew (S := (fun W : World => (W.cell? ⟨w.heap.size, 0, none⟩ = some (.int .i64 p.size) ∧ W.cell? ⟨w.heap.size, 1, none⟩ = some (.int .i64 p.owner) ∧ W.cell? ⟨w.heap.size, 2, none⟩ = some (.int .i64 p.site) ∧ W.cell? ⟨w.heap.size, 3, none⟩ = some (.int .i64 p.stage) ∧ W.cell? ⟨w.heap.size, 4, none⟩ = some (.int .i64 p.since) ∧ W.cell? ⟨w.heap.size, 5, none⟩ = some (.int .i64 p.ext) ∧ W.cell? ⟨w.heap.size, 6, none⟩ = some (.int .i64 p.ls) ∧ W.cell? ⟨w.heap.size, 7, none⟩ = some (.int .i64 p.ln) ∧ W.cell? ⟨w.heap.size, 8, none⟩ = some (.int .i64 p.lt) ∧ W.cell? ⟨w.heap.size, 9, none⟩ = some (.int .i64 p.lp) ∧ W.cell? ⟨w.heap.size, 10, none⟩ = some (.int .i64 p.lu) ∧ W.cell? ⟨w.heap.size, 11, none⟩ = some (.int .i64 p.who) ∧ W.cell? ⟨w.heap.size, 12, none⟩ = some (.int .i64 p.fee) ∧ W.cell? ⟨g, o, none⟩ = some (.int .i64 n.tm.keep) ∧ W.cell? ⟨g, o + 1, none⟩ = some (.int .i64 n.tm.free) ∧ W.cell? ⟨g, o + 2, none⟩ = some (.int .i64 n.tm.step) ∧ W.cell? ⟨g, o + 3, none⟩ = some (.int .i64 n.tm.rate) ∧ W.cell? ⟨g, o + 4, none⟩ = some (.int .i64 n.tm.cap) ∧ W.cell? ⟨g, o + 5, none⟩ = some (.int .i64 n.tm.longer) ∧ W.cell? ⟨g, o + 6, none⟩ = some (.int .i64 n.tm.price) ∧ W.cell? ⟨g, o + 7, none⟩ = some (.int .i64 n.tm.most) ∧ W.cell? ⟨g, o + 8, none⟩ = some (.int .i64 n.room) ∧ W.cell? ⟨g, o + 9, none⟩ = some (.int .i64 n.secret) ∧ W.cell? ⟨g, o + 10, none⟩ = some (.int .i64 n.now) ∧ W.cell? ⟨g, o + 11, none⟩ = some (.slice n.AS n.st.length n.cS) ∧ W.cell? ⟨g, o + 12, none⟩ = some (.slice n.AP n.pc.length n.cP) ∧ W.cell? ⟨g, o + 13, none⟩ = some (.slice n.AG n.gr.length n.cG) ∧ W.cell? ⟨g, o + 14, none⟩ = some (.slice n.AJ n.jr.length n.cJ)) ∧ Below w2.heap.size w2 W)) (by kernel_rfl) S0 (fun _ => ?_)
    refine tk9 (i := 0) (some 25) (.pointer (some ⟨w.heap.size, 4, none⟩)) rfl rfl (fun W hSw => ?_) S0 ?_
    · (try dsimp only at hSw); go_simp <;> with_reducible rfl
    try simp only [Act.put, l9a, l9z, l9s]
    refine tk9 (i := 1) (some 26) (.int .i64 p.since) rfl rfl (fun W hSw => ?_) S0 ?_
    · (try dsimp only at hSw); go_simp <;> with_reducible rfl
    try simp only [Act.put, l9a, l9z, l9s]
    refine tk9 (i := 2) (some 27) (.bool true) rfl rfl (fun W hSw => ?_) S0 ?_
    · (try dsimp only at hSw); go_simp <;> with_reducible rfl
    try simp only [Act.put, l9a, l9z, l9s]
    refine tk9 (i := 3) (some 28) (.bool true) rfl rfl (fun W hSw => ?_) S0 ?_
    · (try dsimp only at hSw); go_simp <;> with_reducible rfl
    try simp only [Act.put, l9a, l9z, l9s]
    refine sk9 (i := 4) (some 29) rfl rfl S0 ?_
    try simp only [Act.put, l9a, l9z, l9s]
    refine sk9 (i := 5) (some 30) rfl rfl S0 ?_
    try simp only [Act.put, l9a, l9z, l9s]
    refine sk9 (i := 6) (some 31) rfl rfl S0 ?_
    try simp only [Act.put, l9a, l9z, l9s]
    refine sk9 (i := 7) (some 32) rfl rfl S0 ?_
    try simp only [Act.put, l9a, l9z, l9s]
    refine sk9 (i := 8) (some 33) rfl rfl S0 ?_
    try simp only [Act.put, l9a, l9z, l9s]
    refine sk9 (i := 9) (some 34) rfl rfl S0 ?_
    try simp only [Act.put, l9a, l9z, l9s]
    refine sk9 (i := 10) (some 35) rfl rfl S0 ?_
    try simp only [Act.put, l9a, l9z, l9s]
    refine tk9 (i := 11) (some 36) (.bool true) rfl rfl (fun W hSw => ?_) S0 ?_
    · (try dsimp only at hSw); go_simp <;> with_reducible rfl
    try simp only [Act.put, l9a, l9z, l9s]
    refine tk9 (i := 12) (some 37) (.bool true) rfl rfl (fun W hSw => ?_) S0 ?_
    · (try dsimp only at hSw); go_simp <;> with_reducible rfl
    try simp only [Act.put, l9a, l9z, l9s]
    refine sk9 (i := 13) (some 38) rfl rfl S0 ?_
    try simp only [Act.put, l9a, l9z, l9s]
    refine sk9 (i := 14) (some 39) rfl rfl S0 ?_
    try simp only [Act.put, l9a, l9z, l9s]
    refine sk9 (i := 15) (some 40) rfl rfl S0 ?_
    try simp only [Act.put, l9a, l9z, l9s]
    refine sk9 (i := 16) (some 41) rfl rfl S0 ?_
    try simp only [Act.put, l9a, l9z, l9s]
    refine sk9 (i := 17) (some 42) rfl rfl S0 ?_
    try simp only [Act.put, l9a, l9z, l9s]
    refine sk9 (i := 18) (some 43) rfl rfl S0 ?_
    try simp only [Act.put, l9a, l9z, l9s]
    refine sk9 (i := 19) (some 44) rfl rfl S0 ?_
    try simp only [Act.put, l9a, l9z, l9s]
    refine sk9 (i := 20) (some 45) rfl rfl S0 ?_
    try simp only [Act.put, l9a, l9z, l9s]
    refine tk9 (i := 21) (some 46) (.bool true) rfl rfl (fun W hSw => ?_) S0 ?_
    · (try dsimp only at hSw); go_simp <;> with_reducible rfl
    try simp only [Act.put, l9a, l9z, l9s]
    refine wpAnyH_done (by kernel_rfl) ?_ _
    have hbreg : Below w2.heap.size w2 w2.drew := S0.2
    clear S0
    go_wp2_with fail
    go_ret
    exact ⟨rbool (by rw [HSV.out]; simp [d1]), bthen BB.out hbreg⟩
  by_cases c2 : n.now < p.since
  · have d1 : inR p.since 0 n.now = false := by unfold inR; simp; omega
    have hlp := has_lt K.out; have hlg := HH.out.lt
    have pc0 := has_cell (has_drew K.out) 0 rfl; have pc1 := has_cell (has_drew K.out) 1 rfl; have pc2 := has_cell (has_drew K.out) 2 rfl; have pc3 := has_cell (has_drew K.out) 3 rfl; have pc4 := has_cell (has_drew K.out) 4 rfl; have pc5 := has_cell (has_drew K.out) 5 rfl; have pc6 := has_cell (has_drew K.out) 6 rfl; have pc7 := has_cell (has_drew K.out) 7 rfl; have pc8 := has_cell (has_drew K.out) 8 rfl; have pc9 := has_cell (has_drew K.out) 9 rfl; have pc10 := has_cell (has_drew K.out) 10 rfl; have pc11 := has_cell (has_drew K.out) 11 rfl; have pc12 := has_cell (has_drew K.out) 12 rfl
    have nc0 := (HH.out.later (Below.refl _ _).drew).c 0 _ rfl; have nc1 := (HH.out.later (Below.refl _ _).drew).c 1 _ rfl; have nc2 := (HH.out.later (Below.refl _ _).drew).c 2 _ rfl; have nc3 := (HH.out.later (Below.refl _ _).drew).c 3 _ rfl; have nc4 := (HH.out.later (Below.refl _ _).drew).c 4 _ rfl; have nc5 := (HH.out.later (Below.refl _ _).drew).c 5 _ rfl; have nc6 := (HH.out.later (Below.refl _ _).drew).c 6 _ rfl; have nc7 := (HH.out.later (Below.refl _ _).drew).c 7 _ rfl; have nc8 := (HH.out.later (Below.refl _ _).drew).c 8 _ rfl; have nc9 := (HH.out.later (Below.refl _ _).drew).c 9 _ rfl; have nc10 := (HH.out.later (Below.refl _ _).drew).c 10 _ rfl; have nc11 := (HH.out.later (Below.refl _ _).drew).c 11 _ rfl; have nc12 := (HH.out.later (Below.refl _ _).drew).c 12 _ rfl; have nc13 := (HH.out.later (Below.refl _ _).drew).c 13 _ rfl; have nc14 := (HH.out.later (Below.refl _ _).drew).c 14 _ rfl
    rw [Nat.add_zero] at nc0
    have S0 : (fun W : World => (W.cell? ⟨w.heap.size, 0, none⟩ = some (.int .i64 p.size) ∧ W.cell? ⟨w.heap.size, 1, none⟩ = some (.int .i64 p.owner) ∧ W.cell? ⟨w.heap.size, 2, none⟩ = some (.int .i64 p.site) ∧ W.cell? ⟨w.heap.size, 3, none⟩ = some (.int .i64 p.stage) ∧ W.cell? ⟨w.heap.size, 4, none⟩ = some (.int .i64 p.since) ∧ W.cell? ⟨w.heap.size, 5, none⟩ = some (.int .i64 p.ext) ∧ W.cell? ⟨w.heap.size, 6, none⟩ = some (.int .i64 p.ls) ∧ W.cell? ⟨w.heap.size, 7, none⟩ = some (.int .i64 p.ln) ∧ W.cell? ⟨w.heap.size, 8, none⟩ = some (.int .i64 p.lt) ∧ W.cell? ⟨w.heap.size, 9, none⟩ = some (.int .i64 p.lp) ∧ W.cell? ⟨w.heap.size, 10, none⟩ = some (.int .i64 p.lu) ∧ W.cell? ⟨w.heap.size, 11, none⟩ = some (.int .i64 p.who) ∧ W.cell? ⟨w.heap.size, 12, none⟩ = some (.int .i64 p.fee) ∧ W.cell? ⟨g, o, none⟩ = some (.int .i64 n.tm.keep) ∧ W.cell? ⟨g, o + 1, none⟩ = some (.int .i64 n.tm.free) ∧ W.cell? ⟨g, o + 2, none⟩ = some (.int .i64 n.tm.step) ∧ W.cell? ⟨g, o + 3, none⟩ = some (.int .i64 n.tm.rate) ∧ W.cell? ⟨g, o + 4, none⟩ = some (.int .i64 n.tm.cap) ∧ W.cell? ⟨g, o + 5, none⟩ = some (.int .i64 n.tm.longer) ∧ W.cell? ⟨g, o + 6, none⟩ = some (.int .i64 n.tm.price) ∧ W.cell? ⟨g, o + 7, none⟩ = some (.int .i64 n.tm.most) ∧ W.cell? ⟨g, o + 8, none⟩ = some (.int .i64 n.room) ∧ W.cell? ⟨g, o + 9, none⟩ = some (.int .i64 n.secret) ∧ W.cell? ⟨g, o + 10, none⟩ = some (.int .i64 n.now) ∧ W.cell? ⟨g, o + 11, none⟩ = some (.slice n.AS n.st.length n.cS) ∧ W.cell? ⟨g, o + 12, none⟩ = some (.slice n.AP n.pc.length n.cP) ∧ W.cell? ⟨g, o + 13, none⟩ = some (.slice n.AG n.gr.length n.cG) ∧ W.cell? ⟨g, o + 14, none⟩ = some (.slice n.AJ n.jr.length n.cJ)) ∧ Below w2.heap.size w2 W) w2.drew := ⟨⟨pc0, pc1, pc2, pc3, pc4, pc5, pc6, pc7, pc8, pc9, pc10, pc11, pc12, nc0, nc1, nc2, nc3, nc4, nc5, nc6, nc7, nc8, nc9, nc10, nc11, nc12, nc13, nc14⟩, (Below.refl _ _).drew⟩
    clear pc0 pc1 pc2 pc3 pc4 pc5 pc6 pc7 pc8 pc9 pc10 pc11 pc12 nc0 nc1 nc2 nc3 nc4 nc5 nc6 nc7 nc8 nc9 nc10 nc11 nc12 nc13 nc14
    refine wp_region_held_drew (S := (fun W : World => (W.cell? ⟨w.heap.size, 0, none⟩ = some (.int .i64 p.size) ∧ W.cell? ⟨w.heap.size, 1, none⟩ = some (.int .i64 p.owner) ∧ W.cell? ⟨w.heap.size, 2, none⟩ = some (.int .i64 p.site) ∧ W.cell? ⟨w.heap.size, 3, none⟩ = some (.int .i64 p.stage) ∧ W.cell? ⟨w.heap.size, 4, none⟩ = some (.int .i64 p.since) ∧ W.cell? ⟨w.heap.size, 5, none⟩ = some (.int .i64 p.ext) ∧ W.cell? ⟨w.heap.size, 6, none⟩ = some (.int .i64 p.ls) ∧ W.cell? ⟨w.heap.size, 7, none⟩ = some (.int .i64 p.ln) ∧ W.cell? ⟨w.heap.size, 8, none⟩ = some (.int .i64 p.lt) ∧ W.cell? ⟨w.heap.size, 9, none⟩ = some (.int .i64 p.lp) ∧ W.cell? ⟨w.heap.size, 10, none⟩ = some (.int .i64 p.lu) ∧ W.cell? ⟨w.heap.size, 11, none⟩ = some (.int .i64 p.who) ∧ W.cell? ⟨w.heap.size, 12, none⟩ = some (.int .i64 p.fee) ∧ W.cell? ⟨g, o, none⟩ = some (.int .i64 n.tm.keep) ∧ W.cell? ⟨g, o + 1, none⟩ = some (.int .i64 n.tm.free) ∧ W.cell? ⟨g, o + 2, none⟩ = some (.int .i64 n.tm.step) ∧ W.cell? ⟨g, o + 3, none⟩ = some (.int .i64 n.tm.rate) ∧ W.cell? ⟨g, o + 4, none⟩ = some (.int .i64 n.tm.cap) ∧ W.cell? ⟨g, o + 5, none⟩ = some (.int .i64 n.tm.longer) ∧ W.cell? ⟨g, o + 6, none⟩ = some (.int .i64 n.tm.price) ∧ W.cell? ⟨g, o + 7, none⟩ = some (.int .i64 n.tm.most) ∧ W.cell? ⟨g, o + 8, none⟩ = some (.int .i64 n.room) ∧ W.cell? ⟨g, o + 9, none⟩ = some (.int .i64 n.secret) ∧ W.cell? ⟨g, o + 10, none⟩ = some (.int .i64 n.now) ∧ W.cell? ⟨g, o + 11, none⟩ = some (.slice n.AS n.st.length n.cS) ∧ W.cell? ⟨g, o + 12, none⟩ = some (.slice n.AP n.pc.length n.cP) ∧ W.cell? ⟨g, o + 13, none⟩ = some (.slice n.AG n.gr.length n.cG) ∧ W.cell? ⟨g, o + 14, none⟩ = some (.slice n.AJ n.jr.length n.cJ)) ∧ Below w2.heap.size w2 W)) (by kernel_rfl) S0 (fun _ => ?_)
    refine tk9 (i := 0) (some 25) (.pointer (some ⟨w.heap.size, 4, none⟩)) rfl rfl (fun W hSw => ?_) S0 ?_
    · (try dsimp only at hSw); go_simp <;> with_reducible rfl
    try simp only [Act.put, l9a, l9z, l9s]
    refine tk9 (i := 1) (some 26) (.int .i64 p.since) rfl rfl (fun W hSw => ?_) S0 ?_
    · (try dsimp only at hSw); go_simp <;> with_reducible rfl
    try simp only [Act.put, l9a, l9z, l9s]
    refine tk9 (i := 2) (some 27) (.bool false) rfl rfl (fun W hSw => ?_) S0 ?_
    · (try dsimp only at hSw); go_simp <;> with_reducible rfl
    try simp only [Act.put, l9a, l9z, l9s]
    refine tk9 (i := 3) (some 28) (.bool false) rfl rfl (fun W hSw => ?_) S0 ?_
    · (try dsimp only at hSw); go_simp <;> with_reducible rfl
    try simp only [Act.put, l9a, l9z, l9s]
    refine tk9 (i := 4) (some 29) (.pointer (some ⟨w.heap.size, 4, none⟩)) rfl rfl (fun W hSw => ?_) S0 ?_
    · (try dsimp only at hSw); go_simp <;> with_reducible rfl
    try simp only [Act.put, l9a, l9z, l9s]
    refine tk9 (i := 5) (some 30) (.int .i64 p.since) rfl rfl (fun W hSw => ?_) S0 ?_
    · (try dsimp only at hSw); go_simp <;> with_reducible rfl
    try simp only [Act.put, l9a, l9z, l9s]
    refine tk9 (i := 6) (some 31) (.pointer (some ⟨g, o, none⟩)) rfl rfl (fun W hSw => ?_) S0 ?_
    · (try dsimp only at hSw); go_simp <;> with_reducible rfl
    try simp only [Act.put, l9a, l9z, l9s]
    refine tk9 (i := 7) (some 32) (.pointer (some ⟨g, o, none⟩)) rfl rfl (fun W hSw => ?_) S0 ?_
    · (try dsimp only at hSw); go_simp <;> with_reducible rfl
    try simp only [Act.put, l9a, l9z, l9s]
    refine tk9 (i := 8) (some 33) (.pointer (some ⟨g, o + 10, none⟩)) rfl rfl (fun W hSw => ?_) S0 ?_
    · (try dsimp only at hSw); go_simp <;> with_reducible rfl
    try simp only [Act.put, l9a, l9z, l9s]
    refine tk9 (i := 9) (some 34) (.int .i64 n.now) rfl rfl (fun W hSw => ?_) S0 ?_
    · (try dsimp only at hSw); go_simp <;> with_reducible rfl
    try simp only [Act.put, l9a, l9z, l9s]
    refine tk9 (i := 10) (some 35) (.bool true) rfl rfl (fun W hSw => ?_) S0 ?_
    · (try dsimp only at hSw); go_simp <;> with_reducible rfl
    try simp only [Act.put, l9a, l9z, l9s]
    refine tk9 (i := 11) (some 36) (.bool true) rfl rfl (fun W hSw => ?_) S0 ?_
    · (try dsimp only at hSw); go_simp <;> with_reducible rfl
    try simp only [Act.put, l9a, l9z, l9s]
    refine tk9 (i := 12) (some 37) (.bool true) rfl rfl (fun W hSw => ?_) S0 ?_
    · (try dsimp only at hSw); go_simp <;> with_reducible rfl
    try simp only [Act.put, l9a, l9z, l9s]
    refine sk9 (i := 13) (some 38) rfl rfl S0 ?_
    try simp only [Act.put, l9a, l9z, l9s]
    refine sk9 (i := 14) (some 39) rfl rfl S0 ?_
    try simp only [Act.put, l9a, l9z, l9s]
    refine sk9 (i := 15) (some 40) rfl rfl S0 ?_
    try simp only [Act.put, l9a, l9z, l9s]
    refine sk9 (i := 16) (some 41) rfl rfl S0 ?_
    try simp only [Act.put, l9a, l9z, l9s]
    refine sk9 (i := 17) (some 42) rfl rfl S0 ?_
    try simp only [Act.put, l9a, l9z, l9s]
    refine sk9 (i := 18) (some 43) rfl rfl S0 ?_
    try simp only [Act.put, l9a, l9z, l9s]
    refine sk9 (i := 19) (some 44) rfl rfl S0 ?_
    try simp only [Act.put, l9a, l9z, l9s]
    refine sk9 (i := 20) (some 45) rfl rfl S0 ?_
    try simp only [Act.put, l9a, l9z, l9s]
    refine tk9 (i := 21) (some 46) (.bool true) rfl rfl (fun W hSw => ?_) S0 ?_
    · (try dsimp only at hSw); go_simp <;> with_reducible rfl
    try simp only [Act.put, l9a, l9z, l9s]
    refine wpAnyH_done (by kernel_rfl) ?_ _
    have hbreg : Below w2.heap.size w2 w2.drew := S0.2
    clear S0
    go_wp2_with fail
    go_ret
    exact ⟨rbool (by rw [HSV.out]; simp [d1]), bthen BB.out hbreg⟩
  have d1 : inR p.since 0 n.now = true := inR_iff.2 ⟨by omega, by omega⟩
  cases d2 : inR p.ext 0 n.tm.most
  · have d2b : inB p.ext 0 n.tm.most = false := d2
    have hlp := has_lt K.out; have hlg := HH.out.lt
    have pc0 := has_cell (has_drew K.out) 0 rfl; have pc1 := has_cell (has_drew K.out) 1 rfl; have pc2 := has_cell (has_drew K.out) 2 rfl; have pc3 := has_cell (has_drew K.out) 3 rfl; have pc4 := has_cell (has_drew K.out) 4 rfl; have pc5 := has_cell (has_drew K.out) 5 rfl; have pc6 := has_cell (has_drew K.out) 6 rfl; have pc7 := has_cell (has_drew K.out) 7 rfl; have pc8 := has_cell (has_drew K.out) 8 rfl; have pc9 := has_cell (has_drew K.out) 9 rfl; have pc10 := has_cell (has_drew K.out) 10 rfl; have pc11 := has_cell (has_drew K.out) 11 rfl; have pc12 := has_cell (has_drew K.out) 12 rfl
    have nc0 := (HH.out.later (Below.refl _ _).drew).c 0 _ rfl; have nc1 := (HH.out.later (Below.refl _ _).drew).c 1 _ rfl; have nc2 := (HH.out.later (Below.refl _ _).drew).c 2 _ rfl; have nc3 := (HH.out.later (Below.refl _ _).drew).c 3 _ rfl; have nc4 := (HH.out.later (Below.refl _ _).drew).c 4 _ rfl; have nc5 := (HH.out.later (Below.refl _ _).drew).c 5 _ rfl; have nc6 := (HH.out.later (Below.refl _ _).drew).c 6 _ rfl; have nc7 := (HH.out.later (Below.refl _ _).drew).c 7 _ rfl; have nc8 := (HH.out.later (Below.refl _ _).drew).c 8 _ rfl; have nc9 := (HH.out.later (Below.refl _ _).drew).c 9 _ rfl; have nc10 := (HH.out.later (Below.refl _ _).drew).c 10 _ rfl; have nc11 := (HH.out.later (Below.refl _ _).drew).c 11 _ rfl; have nc12 := (HH.out.later (Below.refl _ _).drew).c 12 _ rfl; have nc13 := (HH.out.later (Below.refl _ _).drew).c 13 _ rfl; have nc14 := (HH.out.later (Below.refl _ _).drew).c 14 _ rfl
    rw [Nat.add_zero] at nc0
    have S0 : (fun W : World => (W.cell? ⟨w.heap.size, 0, none⟩ = some (.int .i64 p.size) ∧ W.cell? ⟨w.heap.size, 1, none⟩ = some (.int .i64 p.owner) ∧ W.cell? ⟨w.heap.size, 2, none⟩ = some (.int .i64 p.site) ∧ W.cell? ⟨w.heap.size, 3, none⟩ = some (.int .i64 p.stage) ∧ W.cell? ⟨w.heap.size, 4, none⟩ = some (.int .i64 p.since) ∧ W.cell? ⟨w.heap.size, 5, none⟩ = some (.int .i64 p.ext) ∧ W.cell? ⟨w.heap.size, 6, none⟩ = some (.int .i64 p.ls) ∧ W.cell? ⟨w.heap.size, 7, none⟩ = some (.int .i64 p.ln) ∧ W.cell? ⟨w.heap.size, 8, none⟩ = some (.int .i64 p.lt) ∧ W.cell? ⟨w.heap.size, 9, none⟩ = some (.int .i64 p.lp) ∧ W.cell? ⟨w.heap.size, 10, none⟩ = some (.int .i64 p.lu) ∧ W.cell? ⟨w.heap.size, 11, none⟩ = some (.int .i64 p.who) ∧ W.cell? ⟨w.heap.size, 12, none⟩ = some (.int .i64 p.fee) ∧ W.cell? ⟨g, o, none⟩ = some (.int .i64 n.tm.keep) ∧ W.cell? ⟨g, o + 1, none⟩ = some (.int .i64 n.tm.free) ∧ W.cell? ⟨g, o + 2, none⟩ = some (.int .i64 n.tm.step) ∧ W.cell? ⟨g, o + 3, none⟩ = some (.int .i64 n.tm.rate) ∧ W.cell? ⟨g, o + 4, none⟩ = some (.int .i64 n.tm.cap) ∧ W.cell? ⟨g, o + 5, none⟩ = some (.int .i64 n.tm.longer) ∧ W.cell? ⟨g, o + 6, none⟩ = some (.int .i64 n.tm.price) ∧ W.cell? ⟨g, o + 7, none⟩ = some (.int .i64 n.tm.most) ∧ W.cell? ⟨g, o + 8, none⟩ = some (.int .i64 n.room) ∧ W.cell? ⟨g, o + 9, none⟩ = some (.int .i64 n.secret) ∧ W.cell? ⟨g, o + 10, none⟩ = some (.int .i64 n.now) ∧ W.cell? ⟨g, o + 11, none⟩ = some (.slice n.AS n.st.length n.cS) ∧ W.cell? ⟨g, o + 12, none⟩ = some (.slice n.AP n.pc.length n.cP) ∧ W.cell? ⟨g, o + 13, none⟩ = some (.slice n.AG n.gr.length n.cG) ∧ W.cell? ⟨g, o + 14, none⟩ = some (.slice n.AJ n.jr.length n.cJ)) ∧ Below w2.heap.size w2 W) w2.drew := ⟨⟨pc0, pc1, pc2, pc3, pc4, pc5, pc6, pc7, pc8, pc9, pc10, pc11, pc12, nc0, nc1, nc2, nc3, nc4, nc5, nc6, nc7, nc8, nc9, nc10, nc11, nc12, nc13, nc14⟩, (Below.refl _ _).drew⟩
    clear pc0 pc1 pc2 pc3 pc4 pc5 pc6 pc7 pc8 pc9 pc10 pc11 pc12 nc0 nc1 nc2 nc3 nc4 nc5 nc6 nc7 nc8 nc9 nc10 nc11 nc12 nc13 nc14
    refine wp_region_held_drew (S := (fun W : World => (W.cell? ⟨w.heap.size, 0, none⟩ = some (.int .i64 p.size) ∧ W.cell? ⟨w.heap.size, 1, none⟩ = some (.int .i64 p.owner) ∧ W.cell? ⟨w.heap.size, 2, none⟩ = some (.int .i64 p.site) ∧ W.cell? ⟨w.heap.size, 3, none⟩ = some (.int .i64 p.stage) ∧ W.cell? ⟨w.heap.size, 4, none⟩ = some (.int .i64 p.since) ∧ W.cell? ⟨w.heap.size, 5, none⟩ = some (.int .i64 p.ext) ∧ W.cell? ⟨w.heap.size, 6, none⟩ = some (.int .i64 p.ls) ∧ W.cell? ⟨w.heap.size, 7, none⟩ = some (.int .i64 p.ln) ∧ W.cell? ⟨w.heap.size, 8, none⟩ = some (.int .i64 p.lt) ∧ W.cell? ⟨w.heap.size, 9, none⟩ = some (.int .i64 p.lp) ∧ W.cell? ⟨w.heap.size, 10, none⟩ = some (.int .i64 p.lu) ∧ W.cell? ⟨w.heap.size, 11, none⟩ = some (.int .i64 p.who) ∧ W.cell? ⟨w.heap.size, 12, none⟩ = some (.int .i64 p.fee) ∧ W.cell? ⟨g, o, none⟩ = some (.int .i64 n.tm.keep) ∧ W.cell? ⟨g, o + 1, none⟩ = some (.int .i64 n.tm.free) ∧ W.cell? ⟨g, o + 2, none⟩ = some (.int .i64 n.tm.step) ∧ W.cell? ⟨g, o + 3, none⟩ = some (.int .i64 n.tm.rate) ∧ W.cell? ⟨g, o + 4, none⟩ = some (.int .i64 n.tm.cap) ∧ W.cell? ⟨g, o + 5, none⟩ = some (.int .i64 n.tm.longer) ∧ W.cell? ⟨g, o + 6, none⟩ = some (.int .i64 n.tm.price) ∧ W.cell? ⟨g, o + 7, none⟩ = some (.int .i64 n.tm.most) ∧ W.cell? ⟨g, o + 8, none⟩ = some (.int .i64 n.room) ∧ W.cell? ⟨g, o + 9, none⟩ = some (.int .i64 n.secret) ∧ W.cell? ⟨g, o + 10, none⟩ = some (.int .i64 n.now) ∧ W.cell? ⟨g, o + 11, none⟩ = some (.slice n.AS n.st.length n.cS) ∧ W.cell? ⟨g, o + 12, none⟩ = some (.slice n.AP n.pc.length n.cP) ∧ W.cell? ⟨g, o + 13, none⟩ = some (.slice n.AG n.gr.length n.cG) ∧ W.cell? ⟨g, o + 14, none⟩ = some (.slice n.AJ n.jr.length n.cJ)) ∧ Below w2.heap.size w2 W)) (by kernel_rfl) S0 (fun _ => ?_)
    refine tk9 (i := 0) (some 25) (.pointer (some ⟨w.heap.size, 4, none⟩)) rfl rfl (fun W hSw => ?_) S0 ?_
    · (try dsimp only at hSw); go_simp <;> with_reducible rfl
    try simp only [Act.put, l9a, l9z, l9s]
    refine tk9 (i := 1) (some 26) (.int .i64 p.since) rfl rfl (fun W hSw => ?_) S0 ?_
    · (try dsimp only at hSw); go_simp <;> with_reducible rfl
    try simp only [Act.put, l9a, l9z, l9s]
    refine tk9 (i := 2) (some 27) (.bool false) rfl rfl (fun W hSw => ?_) S0 ?_
    · (try dsimp only at hSw); go_simp <;> with_reducible rfl
    try simp only [Act.put, l9a, l9z, l9s]
    refine tk9 (i := 3) (some 28) (.bool false) rfl rfl (fun W hSw => ?_) S0 ?_
    · (try dsimp only at hSw); go_simp <;> with_reducible rfl
    try simp only [Act.put, l9a, l9z, l9s]
    refine tk9 (i := 4) (some 29) (.pointer (some ⟨w.heap.size, 4, none⟩)) rfl rfl (fun W hSw => ?_) S0 ?_
    · (try dsimp only at hSw); go_simp <;> with_reducible rfl
    try simp only [Act.put, l9a, l9z, l9s]
    refine tk9 (i := 5) (some 30) (.int .i64 p.since) rfl rfl (fun W hSw => ?_) S0 ?_
    · (try dsimp only at hSw); go_simp <;> with_reducible rfl
    try simp only [Act.put, l9a, l9z, l9s]
    refine tk9 (i := 6) (some 31) (.pointer (some ⟨g, o, none⟩)) rfl rfl (fun W hSw => ?_) S0 ?_
    · (try dsimp only at hSw); go_simp <;> with_reducible rfl
    try simp only [Act.put, l9a, l9z, l9s]
    refine tk9 (i := 7) (some 32) (.pointer (some ⟨g, o, none⟩)) rfl rfl (fun W hSw => ?_) S0 ?_
    · (try dsimp only at hSw); go_simp <;> with_reducible rfl
    try simp only [Act.put, l9a, l9z, l9s]
    refine tk9 (i := 8) (some 33) (.pointer (some ⟨g, o + 10, none⟩)) rfl rfl (fun W hSw => ?_) S0 ?_
    · (try dsimp only at hSw); go_simp <;> with_reducible rfl
    try simp only [Act.put, l9a, l9z, l9s]
    refine tk9 (i := 9) (some 34) (.int .i64 n.now) rfl rfl (fun W hSw => ?_) S0 ?_
    · (try dsimp only at hSw); go_simp <;> with_reducible rfl
    try simp only [Act.put, l9a, l9z, l9s]
    refine tk9 (i := 10) (some 35) (.bool false) rfl rfl (fun W hSw => ?_) S0 ?_
    · (try dsimp only at hSw); go_simp <;> with_reducible rfl
    try simp only [Act.put, l9a, l9z, l9s]
    refine tk9 (i := 11) (some 36) (.bool false) rfl rfl (fun W hSw => ?_) S0 ?_
    · (try dsimp only at hSw); go_simp <;> with_reducible rfl
    try simp only [Act.put, l9a, l9z, l9s]
    refine tk9 (i := 12) (some 37) (.bool false) rfl rfl (fun W hSw => ?_) S0 ?_
    · (try dsimp only at hSw); go_simp <;> with_reducible rfl
    try simp only [Act.put, l9a, l9z, l9s]
    refine tk9 (i := 13) (some 38) (.pointer (some ⟨g, o, none⟩)) rfl rfl (fun W hSw => ?_) S0 ?_
    · (try dsimp only at hSw); go_simp <;> with_reducible rfl
    try simp only [Act.put, l9a, l9z, l9s]
    refine tk9 (i := 14) (some 39) (.pointer (some ⟨g, o, none⟩)) rfl rfl (fun W hSw => ?_) S0 ?_
    · (try dsimp only at hSw); go_simp <;> with_reducible rfl
    try simp only [Act.put, l9a, l9z, l9s]
    refine tk9 (i := 15) (some 40) (.pointer (some ⟨g, o, none⟩)) rfl rfl (fun W hSw => ?_) S0 ?_
    · (try dsimp only at hSw); go_simp <;> with_reducible rfl
    try simp only [Act.put, l9a, l9z, l9s]
    refine tk9 (i := 16) (some 41) (.agg #[.int .i64 n.tm.keep, .int .i64 n.tm.free, .int .i64 n.tm.step, .int .i64 n.tm.rate, .int .i64 n.tm.cap, .int .i64 n.tm.longer, .int .i64 n.tm.price, .int .i64 n.tm.most]) rfl rfl (fun W hSw => ?_) S0 ?_
    · (try dsimp only at hSw); go_simp <;> with_reducible rfl
    try simp only [Act.put, l9a, l9z, l9s]
    refine tk9 (i := 17) (some 42) (.pointer (some ⟨w.heap.size, 5, none⟩)) rfl rfl (fun W hSw => ?_) S0 ?_
    · (try dsimp only at hSw); go_simp <;> with_reducible rfl
    try simp only [Act.put, l9a, l9z, l9s]
    refine tk9 (i := 18) (some 43) (.int .i64 p.ext) rfl rfl (fun W hSw => ?_) S0 ?_
    · (try dsimp only at hSw); go_simp <;> with_reducible rfl
    try simp only [Act.put, l9a, l9z, l9s]
    refine wpAnyH_ready (rs := [19]) (by kernel_rfl) (by simp) ?_
    refine AllReadyH.cons rfl (fun K hK => ?_) AllReadyH.nil
    go_simp
    go_at_call 120
    refine (isExt_any _ n.tm p.ext).mono ?_
    rintro e wa ⟨rfl, hb8⟩
    rw [d2b]
    have hb9wa : Below w2.heap.size w2 wa := bthen ((Below.refl _ _).drew : Below w2.heap.size w2 w2.drew) hb8
    have Swa : (fun W : World => (W.cell? ⟨w.heap.size, 0, none⟩ = some (.int .i64 p.size) ∧ W.cell? ⟨w.heap.size, 1, none⟩ = some (.int .i64 p.owner) ∧ W.cell? ⟨w.heap.size, 2, none⟩ = some (.int .i64 p.site) ∧ W.cell? ⟨w.heap.size, 3, none⟩ = some (.int .i64 p.stage) ∧ W.cell? ⟨w.heap.size, 4, none⟩ = some (.int .i64 p.since) ∧ W.cell? ⟨w.heap.size, 5, none⟩ = some (.int .i64 p.ext) ∧ W.cell? ⟨w.heap.size, 6, none⟩ = some (.int .i64 p.ls) ∧ W.cell? ⟨w.heap.size, 7, none⟩ = some (.int .i64 p.ln) ∧ W.cell? ⟨w.heap.size, 8, none⟩ = some (.int .i64 p.lt) ∧ W.cell? ⟨w.heap.size, 9, none⟩ = some (.int .i64 p.lp) ∧ W.cell? ⟨w.heap.size, 10, none⟩ = some (.int .i64 p.lu) ∧ W.cell? ⟨w.heap.size, 11, none⟩ = some (.int .i64 p.who) ∧ W.cell? ⟨w.heap.size, 12, none⟩ = some (.int .i64 p.fee) ∧ W.cell? ⟨g, o, none⟩ = some (.int .i64 n.tm.keep) ∧ W.cell? ⟨g, o + 1, none⟩ = some (.int .i64 n.tm.free) ∧ W.cell? ⟨g, o + 2, none⟩ = some (.int .i64 n.tm.step) ∧ W.cell? ⟨g, o + 3, none⟩ = some (.int .i64 n.tm.rate) ∧ W.cell? ⟨g, o + 4, none⟩ = some (.int .i64 n.tm.cap) ∧ W.cell? ⟨g, o + 5, none⟩ = some (.int .i64 n.tm.longer) ∧ W.cell? ⟨g, o + 6, none⟩ = some (.int .i64 n.tm.price) ∧ W.cell? ⟨g, o + 7, none⟩ = some (.int .i64 n.tm.most) ∧ W.cell? ⟨g, o + 8, none⟩ = some (.int .i64 n.room) ∧ W.cell? ⟨g, o + 9, none⟩ = some (.int .i64 n.secret) ∧ W.cell? ⟨g, o + 10, none⟩ = some (.int .i64 n.now) ∧ W.cell? ⟨g, o + 11, none⟩ = some (.slice n.AS n.st.length n.cS) ∧ W.cell? ⟨g, o + 12, none⟩ = some (.slice n.AP n.pc.length n.cP) ∧ W.cell? ⟨g, o + 13, none⟩ = some (.slice n.AG n.gr.length n.cG) ∧ W.cell? ⟨g, o + 14, none⟩ = some (.slice n.AJ n.jr.length n.cJ)) ∧ Below w2.heap.size w2 W) wa := ⟨⟨(bold hb9wa _ _ (by omega)).trans S0.1.1, (bold hb9wa _ _ (by omega)).trans S0.1.2.1, (bold hb9wa _ _ (by omega)).trans S0.1.2.2.1, (bold hb9wa _ _ (by omega)).trans S0.1.2.2.2.1, (bold hb9wa _ _ (by omega)).trans S0.1.2.2.2.2.1, (bold hb9wa _ _ (by omega)).trans S0.1.2.2.2.2.2.1, (bold hb9wa _ _ (by omega)).trans S0.1.2.2.2.2.2.2.1, (bold hb9wa _ _ (by omega)).trans S0.1.2.2.2.2.2.2.2.1, (bold hb9wa _ _ (by omega)).trans S0.1.2.2.2.2.2.2.2.2.1, (bold hb9wa _ _ (by omega)).trans S0.1.2.2.2.2.2.2.2.2.2.1, (bold hb9wa _ _ (by omega)).trans S0.1.2.2.2.2.2.2.2.2.2.2.1, (bold hb9wa _ _ (by omega)).trans S0.1.2.2.2.2.2.2.2.2.2.2.2.1, (bold hb9wa _ _ (by omega)).trans S0.1.2.2.2.2.2.2.2.2.2.2.2.2.1, (bold hb9wa _ _ (by omega)).trans S0.1.2.2.2.2.2.2.2.2.2.2.2.2.2.1, (bold hb9wa _ _ (by omega)).trans S0.1.2.2.2.2.2.2.2.2.2.2.2.2.2.2.1, (bold hb9wa _ _ (by omega)).trans S0.1.2.2.2.2.2.2.2.2.2.2.2.2.2.2.2.1, (bold hb9wa _ _ (by omega)).trans S0.1.2.2.2.2.2.2.2.2.2.2.2.2.2.2.2.2.1, (bold hb9wa _ _ (by omega)).trans S0.1.2.2.2.2.2.2.2.2.2.2.2.2.2.2.2.2.2.1, (bold hb9wa _ _ (by omega)).trans S0.1.2.2.2.2.2.2.2.2.2.2.2.2.2.2.2.2.2.2.1, (bold hb9wa _ _ (by omega)).trans S0.1.2.2.2.2.2.2.2.2.2.2.2.2.2.2.2.2.2.2.2.1, (bold hb9wa _ _ (by omega)).trans S0.1.2.2.2.2.2.2.2.2.2.2.2.2.2.2.2.2.2.2.2.2.1, (bold hb9wa _ _ (by omega)).trans S0.1.2.2.2.2.2.2.2.2.2.2.2.2.2.2.2.2.2.2.2.2.2.1, (bold hb9wa _ _ (by omega)).trans S0.1.2.2.2.2.2.2.2.2.2.2.2.2.2.2.2.2.2.2.2.2.2.2.1, (bold hb9wa _ _ (by omega)).trans S0.1.2.2.2.2.2.2.2.2.2.2.2.2.2.2.2.2.2.2.2.2.2.2.2.1, (bold hb9wa _ _ (by omega)).trans S0.1.2.2.2.2.2.2.2.2.2.2.2.2.2.2.2.2.2.2.2.2.2.2.2.2.1, (bold hb9wa _ _ (by omega)).trans S0.1.2.2.2.2.2.2.2.2.2.2.2.2.2.2.2.2.2.2.2.2.2.2.2.2.2.1, (bold hb9wa _ _ (by omega)).trans S0.1.2.2.2.2.2.2.2.2.2.2.2.2.2.2.2.2.2.2.2.2.2.2.2.2.2.2.1, (bold hb9wa _ _ (by omega)).trans S0.1.2.2.2.2.2.2.2.2.2.2.2.2.2.2.2.2.2.2.2.2.2.2.2.2.2.2.2⟩, hb9wa⟩
    clear hb8
    go_wp2_with fail
    refine hK.out _ _ Swa (fun _ => ?_)
    clear hK K
    try simp only [Act.put, l9a, l9z, l9s]
    refine tk9 (i := 20) (some 45) (.bool true) rfl rfl (fun W hSw => ?_) Swa ?_
    · (try dsimp only at hSw); go_simp <;> with_reducible rfl
    try simp only [Act.put, l9a, l9z, l9s]
    refine tk9 (i := 21) (some 46) (.bool true) rfl rfl (fun W hSw => ?_) Swa ?_
    · (try dsimp only at hSw); go_simp <;> with_reducible rfl
    try simp only [Act.put, l9a, l9z, l9s]
    refine wpAnyH_done (by kernel_rfl) ?_ _
    have hbreg : Below w2.heap.size w2 wa := Swa.2
    clear S0 Swa hb9wa
    go_wp2_with fail
    go_ret
    exact ⟨rbool (by rw [HSV.out]; simp [d2]), bthen BB.out hbreg⟩
  have d2b : inB p.ext 0 n.tm.most = true := d2
  have hlp := has_lt K.out; have hlg := HH.out.lt
  have pc0 := has_cell (has_drew K.out) 0 rfl; have pc1 := has_cell (has_drew K.out) 1 rfl; have pc2 := has_cell (has_drew K.out) 2 rfl; have pc3 := has_cell (has_drew K.out) 3 rfl; have pc4 := has_cell (has_drew K.out) 4 rfl; have pc5 := has_cell (has_drew K.out) 5 rfl; have pc6 := has_cell (has_drew K.out) 6 rfl; have pc7 := has_cell (has_drew K.out) 7 rfl; have pc8 := has_cell (has_drew K.out) 8 rfl; have pc9 := has_cell (has_drew K.out) 9 rfl; have pc10 := has_cell (has_drew K.out) 10 rfl; have pc11 := has_cell (has_drew K.out) 11 rfl; have pc12 := has_cell (has_drew K.out) 12 rfl
  have nc0 := (HH.out.later (Below.refl _ _).drew).c 0 _ rfl; have nc1 := (HH.out.later (Below.refl _ _).drew).c 1 _ rfl; have nc2 := (HH.out.later (Below.refl _ _).drew).c 2 _ rfl; have nc3 := (HH.out.later (Below.refl _ _).drew).c 3 _ rfl; have nc4 := (HH.out.later (Below.refl _ _).drew).c 4 _ rfl; have nc5 := (HH.out.later (Below.refl _ _).drew).c 5 _ rfl; have nc6 := (HH.out.later (Below.refl _ _).drew).c 6 _ rfl; have nc7 := (HH.out.later (Below.refl _ _).drew).c 7 _ rfl; have nc8 := (HH.out.later (Below.refl _ _).drew).c 8 _ rfl; have nc9 := (HH.out.later (Below.refl _ _).drew).c 9 _ rfl; have nc10 := (HH.out.later (Below.refl _ _).drew).c 10 _ rfl; have nc11 := (HH.out.later (Below.refl _ _).drew).c 11 _ rfl; have nc12 := (HH.out.later (Below.refl _ _).drew).c 12 _ rfl; have nc13 := (HH.out.later (Below.refl _ _).drew).c 13 _ rfl; have nc14 := (HH.out.later (Below.refl _ _).drew).c 14 _ rfl
  rw [Nat.add_zero] at nc0
  have S0 : (fun W : World => (W.cell? ⟨w.heap.size, 0, none⟩ = some (.int .i64 p.size) ∧ W.cell? ⟨w.heap.size, 1, none⟩ = some (.int .i64 p.owner) ∧ W.cell? ⟨w.heap.size, 2, none⟩ = some (.int .i64 p.site) ∧ W.cell? ⟨w.heap.size, 3, none⟩ = some (.int .i64 p.stage) ∧ W.cell? ⟨w.heap.size, 4, none⟩ = some (.int .i64 p.since) ∧ W.cell? ⟨w.heap.size, 5, none⟩ = some (.int .i64 p.ext) ∧ W.cell? ⟨w.heap.size, 6, none⟩ = some (.int .i64 p.ls) ∧ W.cell? ⟨w.heap.size, 7, none⟩ = some (.int .i64 p.ln) ∧ W.cell? ⟨w.heap.size, 8, none⟩ = some (.int .i64 p.lt) ∧ W.cell? ⟨w.heap.size, 9, none⟩ = some (.int .i64 p.lp) ∧ W.cell? ⟨w.heap.size, 10, none⟩ = some (.int .i64 p.lu) ∧ W.cell? ⟨w.heap.size, 11, none⟩ = some (.int .i64 p.who) ∧ W.cell? ⟨w.heap.size, 12, none⟩ = some (.int .i64 p.fee) ∧ W.cell? ⟨g, o, none⟩ = some (.int .i64 n.tm.keep) ∧ W.cell? ⟨g, o + 1, none⟩ = some (.int .i64 n.tm.free) ∧ W.cell? ⟨g, o + 2, none⟩ = some (.int .i64 n.tm.step) ∧ W.cell? ⟨g, o + 3, none⟩ = some (.int .i64 n.tm.rate) ∧ W.cell? ⟨g, o + 4, none⟩ = some (.int .i64 n.tm.cap) ∧ W.cell? ⟨g, o + 5, none⟩ = some (.int .i64 n.tm.longer) ∧ W.cell? ⟨g, o + 6, none⟩ = some (.int .i64 n.tm.price) ∧ W.cell? ⟨g, o + 7, none⟩ = some (.int .i64 n.tm.most) ∧ W.cell? ⟨g, o + 8, none⟩ = some (.int .i64 n.room) ∧ W.cell? ⟨g, o + 9, none⟩ = some (.int .i64 n.secret) ∧ W.cell? ⟨g, o + 10, none⟩ = some (.int .i64 n.now) ∧ W.cell? ⟨g, o + 11, none⟩ = some (.slice n.AS n.st.length n.cS) ∧ W.cell? ⟨g, o + 12, none⟩ = some (.slice n.AP n.pc.length n.cP) ∧ W.cell? ⟨g, o + 13, none⟩ = some (.slice n.AG n.gr.length n.cG) ∧ W.cell? ⟨g, o + 14, none⟩ = some (.slice n.AJ n.jr.length n.cJ)) ∧ Below w2.heap.size w2 W) w2.drew := ⟨⟨pc0, pc1, pc2, pc3, pc4, pc5, pc6, pc7, pc8, pc9, pc10, pc11, pc12, nc0, nc1, nc2, nc3, nc4, nc5, nc6, nc7, nc8, nc9, nc10, nc11, nc12, nc13, nc14⟩, (Below.refl _ _).drew⟩
  clear pc0 pc1 pc2 pc3 pc4 pc5 pc6 pc7 pc8 pc9 pc10 pc11 pc12 nc0 nc1 nc2 nc3 nc4 nc5 nc6 nc7 nc8 nc9 nc10 nc11 nc12 nc13 nc14
  refine wp_region_held_drew (S := (fun W : World => (W.cell? ⟨w.heap.size, 0, none⟩ = some (.int .i64 p.size) ∧ W.cell? ⟨w.heap.size, 1, none⟩ = some (.int .i64 p.owner) ∧ W.cell? ⟨w.heap.size, 2, none⟩ = some (.int .i64 p.site) ∧ W.cell? ⟨w.heap.size, 3, none⟩ = some (.int .i64 p.stage) ∧ W.cell? ⟨w.heap.size, 4, none⟩ = some (.int .i64 p.since) ∧ W.cell? ⟨w.heap.size, 5, none⟩ = some (.int .i64 p.ext) ∧ W.cell? ⟨w.heap.size, 6, none⟩ = some (.int .i64 p.ls) ∧ W.cell? ⟨w.heap.size, 7, none⟩ = some (.int .i64 p.ln) ∧ W.cell? ⟨w.heap.size, 8, none⟩ = some (.int .i64 p.lt) ∧ W.cell? ⟨w.heap.size, 9, none⟩ = some (.int .i64 p.lp) ∧ W.cell? ⟨w.heap.size, 10, none⟩ = some (.int .i64 p.lu) ∧ W.cell? ⟨w.heap.size, 11, none⟩ = some (.int .i64 p.who) ∧ W.cell? ⟨w.heap.size, 12, none⟩ = some (.int .i64 p.fee) ∧ W.cell? ⟨g, o, none⟩ = some (.int .i64 n.tm.keep) ∧ W.cell? ⟨g, o + 1, none⟩ = some (.int .i64 n.tm.free) ∧ W.cell? ⟨g, o + 2, none⟩ = some (.int .i64 n.tm.step) ∧ W.cell? ⟨g, o + 3, none⟩ = some (.int .i64 n.tm.rate) ∧ W.cell? ⟨g, o + 4, none⟩ = some (.int .i64 n.tm.cap) ∧ W.cell? ⟨g, o + 5, none⟩ = some (.int .i64 n.tm.longer) ∧ W.cell? ⟨g, o + 6, none⟩ = some (.int .i64 n.tm.price) ∧ W.cell? ⟨g, o + 7, none⟩ = some (.int .i64 n.tm.most) ∧ W.cell? ⟨g, o + 8, none⟩ = some (.int .i64 n.room) ∧ W.cell? ⟨g, o + 9, none⟩ = some (.int .i64 n.secret) ∧ W.cell? ⟨g, o + 10, none⟩ = some (.int .i64 n.now) ∧ W.cell? ⟨g, o + 11, none⟩ = some (.slice n.AS n.st.length n.cS) ∧ W.cell? ⟨g, o + 12, none⟩ = some (.slice n.AP n.pc.length n.cP) ∧ W.cell? ⟨g, o + 13, none⟩ = some (.slice n.AG n.gr.length n.cG) ∧ W.cell? ⟨g, o + 14, none⟩ = some (.slice n.AJ n.jr.length n.cJ)) ∧ Below w2.heap.size w2 W)) (by kernel_rfl) S0 (fun _ => ?_)
  refine tk9 (i := 0) (some 25) (.pointer (some ⟨w.heap.size, 4, none⟩)) rfl rfl (fun W hSw => ?_) S0 ?_
  · (try dsimp only at hSw); go_simp <;> with_reducible rfl
  try simp only [Act.put, l9a, l9z, l9s]
  refine tk9 (i := 1) (some 26) (.int .i64 p.since) rfl rfl (fun W hSw => ?_) S0 ?_
  · (try dsimp only at hSw); go_simp <;> with_reducible rfl
  try simp only [Act.put, l9a, l9z, l9s]
  refine tk9 (i := 2) (some 27) (.bool false) rfl rfl (fun W hSw => ?_) S0 ?_
  · (try dsimp only at hSw); go_simp <;> with_reducible rfl
  try simp only [Act.put, l9a, l9z, l9s]
  refine tk9 (i := 3) (some 28) (.bool false) rfl rfl (fun W hSw => ?_) S0 ?_
  · (try dsimp only at hSw); go_simp <;> with_reducible rfl
  try simp only [Act.put, l9a, l9z, l9s]
  refine tk9 (i := 4) (some 29) (.pointer (some ⟨w.heap.size, 4, none⟩)) rfl rfl (fun W hSw => ?_) S0 ?_
  · (try dsimp only at hSw); go_simp <;> with_reducible rfl
  try simp only [Act.put, l9a, l9z, l9s]
  refine tk9 (i := 5) (some 30) (.int .i64 p.since) rfl rfl (fun W hSw => ?_) S0 ?_
  · (try dsimp only at hSw); go_simp <;> with_reducible rfl
  try simp only [Act.put, l9a, l9z, l9s]
  refine tk9 (i := 6) (some 31) (.pointer (some ⟨g, o, none⟩)) rfl rfl (fun W hSw => ?_) S0 ?_
  · (try dsimp only at hSw); go_simp <;> with_reducible rfl
  try simp only [Act.put, l9a, l9z, l9s]
  refine tk9 (i := 7) (some 32) (.pointer (some ⟨g, o, none⟩)) rfl rfl (fun W hSw => ?_) S0 ?_
  · (try dsimp only at hSw); go_simp <;> with_reducible rfl
  try simp only [Act.put, l9a, l9z, l9s]
  refine tk9 (i := 8) (some 33) (.pointer (some ⟨g, o + 10, none⟩)) rfl rfl (fun W hSw => ?_) S0 ?_
  · (try dsimp only at hSw); go_simp <;> with_reducible rfl
  try simp only [Act.put, l9a, l9z, l9s]
  refine tk9 (i := 9) (some 34) (.int .i64 n.now) rfl rfl (fun W hSw => ?_) S0 ?_
  · (try dsimp only at hSw); go_simp <;> with_reducible rfl
  try simp only [Act.put, l9a, l9z, l9s]
  refine tk9 (i := 10) (some 35) (.bool false) rfl rfl (fun W hSw => ?_) S0 ?_
  · (try dsimp only at hSw); go_simp <;> with_reducible rfl
  try simp only [Act.put, l9a, l9z, l9s]
  refine tk9 (i := 11) (some 36) (.bool false) rfl rfl (fun W hSw => ?_) S0 ?_
  · (try dsimp only at hSw); go_simp <;> with_reducible rfl
  try simp only [Act.put, l9a, l9z, l9s]
  refine tk9 (i := 12) (some 37) (.bool false) rfl rfl (fun W hSw => ?_) S0 ?_
  · (try dsimp only at hSw); go_simp <;> with_reducible rfl
  try simp only [Act.put, l9a, l9z, l9s]
  refine tk9 (i := 13) (some 38) (.pointer (some ⟨g, o, none⟩)) rfl rfl (fun W hSw => ?_) S0 ?_
  · (try dsimp only at hSw); go_simp <;> with_reducible rfl
  try simp only [Act.put, l9a, l9z, l9s]
  refine tk9 (i := 14) (some 39) (.pointer (some ⟨g, o, none⟩)) rfl rfl (fun W hSw => ?_) S0 ?_
  · (try dsimp only at hSw); go_simp <;> with_reducible rfl
  try simp only [Act.put, l9a, l9z, l9s]
  refine tk9 (i := 15) (some 40) (.pointer (some ⟨g, o, none⟩)) rfl rfl (fun W hSw => ?_) S0 ?_
  · (try dsimp only at hSw); go_simp <;> with_reducible rfl
  try simp only [Act.put, l9a, l9z, l9s]
  refine tk9 (i := 16) (some 41) (.agg #[.int .i64 n.tm.keep, .int .i64 n.tm.free, .int .i64 n.tm.step, .int .i64 n.tm.rate, .int .i64 n.tm.cap, .int .i64 n.tm.longer, .int .i64 n.tm.price, .int .i64 n.tm.most]) rfl rfl (fun W hSw => ?_) S0 ?_
  · (try dsimp only at hSw); go_simp <;> with_reducible rfl
  try simp only [Act.put, l9a, l9z, l9s]
  refine tk9 (i := 17) (some 42) (.pointer (some ⟨w.heap.size, 5, none⟩)) rfl rfl (fun W hSw => ?_) S0 ?_
  · (try dsimp only at hSw); go_simp <;> with_reducible rfl
  try simp only [Act.put, l9a, l9z, l9s]
  refine tk9 (i := 18) (some 43) (.int .i64 p.ext) rfl rfl (fun W hSw => ?_) S0 ?_
  · (try dsimp only at hSw); go_simp <;> with_reducible rfl
  try simp only [Act.put, l9a, l9z, l9s]
  refine wpAnyH_ready (rs := [19]) (by kernel_rfl) (by simp) ?_
  refine AllReadyH.cons rfl (fun K hK => ?_) AllReadyH.nil
  go_simp
  go_at_call 120
  refine (isExt_any _ n.tm p.ext).mono ?_
  rintro e wa ⟨rfl, hb8⟩
  rw [d2b]
  have hb9wa : Below w2.heap.size w2 wa := bthen ((Below.refl _ _).drew : Below w2.heap.size w2 w2.drew) hb8
  have Swa : (fun W : World => (W.cell? ⟨w.heap.size, 0, none⟩ = some (.int .i64 p.size) ∧ W.cell? ⟨w.heap.size, 1, none⟩ = some (.int .i64 p.owner) ∧ W.cell? ⟨w.heap.size, 2, none⟩ = some (.int .i64 p.site) ∧ W.cell? ⟨w.heap.size, 3, none⟩ = some (.int .i64 p.stage) ∧ W.cell? ⟨w.heap.size, 4, none⟩ = some (.int .i64 p.since) ∧ W.cell? ⟨w.heap.size, 5, none⟩ = some (.int .i64 p.ext) ∧ W.cell? ⟨w.heap.size, 6, none⟩ = some (.int .i64 p.ls) ∧ W.cell? ⟨w.heap.size, 7, none⟩ = some (.int .i64 p.ln) ∧ W.cell? ⟨w.heap.size, 8, none⟩ = some (.int .i64 p.lt) ∧ W.cell? ⟨w.heap.size, 9, none⟩ = some (.int .i64 p.lp) ∧ W.cell? ⟨w.heap.size, 10, none⟩ = some (.int .i64 p.lu) ∧ W.cell? ⟨w.heap.size, 11, none⟩ = some (.int .i64 p.who) ∧ W.cell? ⟨w.heap.size, 12, none⟩ = some (.int .i64 p.fee) ∧ W.cell? ⟨g, o, none⟩ = some (.int .i64 n.tm.keep) ∧ W.cell? ⟨g, o + 1, none⟩ = some (.int .i64 n.tm.free) ∧ W.cell? ⟨g, o + 2, none⟩ = some (.int .i64 n.tm.step) ∧ W.cell? ⟨g, o + 3, none⟩ = some (.int .i64 n.tm.rate) ∧ W.cell? ⟨g, o + 4, none⟩ = some (.int .i64 n.tm.cap) ∧ W.cell? ⟨g, o + 5, none⟩ = some (.int .i64 n.tm.longer) ∧ W.cell? ⟨g, o + 6, none⟩ = some (.int .i64 n.tm.price) ∧ W.cell? ⟨g, o + 7, none⟩ = some (.int .i64 n.tm.most) ∧ W.cell? ⟨g, o + 8, none⟩ = some (.int .i64 n.room) ∧ W.cell? ⟨g, o + 9, none⟩ = some (.int .i64 n.secret) ∧ W.cell? ⟨g, o + 10, none⟩ = some (.int .i64 n.now) ∧ W.cell? ⟨g, o + 11, none⟩ = some (.slice n.AS n.st.length n.cS) ∧ W.cell? ⟨g, o + 12, none⟩ = some (.slice n.AP n.pc.length n.cP) ∧ W.cell? ⟨g, o + 13, none⟩ = some (.slice n.AG n.gr.length n.cG) ∧ W.cell? ⟨g, o + 14, none⟩ = some (.slice n.AJ n.jr.length n.cJ)) ∧ Below w2.heap.size w2 W) wa := ⟨⟨(bold hb9wa _ _ (by omega)).trans S0.1.1, (bold hb9wa _ _ (by omega)).trans S0.1.2.1, (bold hb9wa _ _ (by omega)).trans S0.1.2.2.1, (bold hb9wa _ _ (by omega)).trans S0.1.2.2.2.1, (bold hb9wa _ _ (by omega)).trans S0.1.2.2.2.2.1, (bold hb9wa _ _ (by omega)).trans S0.1.2.2.2.2.2.1, (bold hb9wa _ _ (by omega)).trans S0.1.2.2.2.2.2.2.1, (bold hb9wa _ _ (by omega)).trans S0.1.2.2.2.2.2.2.2.1, (bold hb9wa _ _ (by omega)).trans S0.1.2.2.2.2.2.2.2.2.1, (bold hb9wa _ _ (by omega)).trans S0.1.2.2.2.2.2.2.2.2.2.1, (bold hb9wa _ _ (by omega)).trans S0.1.2.2.2.2.2.2.2.2.2.2.1, (bold hb9wa _ _ (by omega)).trans S0.1.2.2.2.2.2.2.2.2.2.2.2.1, (bold hb9wa _ _ (by omega)).trans S0.1.2.2.2.2.2.2.2.2.2.2.2.2.1, (bold hb9wa _ _ (by omega)).trans S0.1.2.2.2.2.2.2.2.2.2.2.2.2.2.1, (bold hb9wa _ _ (by omega)).trans S0.1.2.2.2.2.2.2.2.2.2.2.2.2.2.2.1, (bold hb9wa _ _ (by omega)).trans S0.1.2.2.2.2.2.2.2.2.2.2.2.2.2.2.2.1, (bold hb9wa _ _ (by omega)).trans S0.1.2.2.2.2.2.2.2.2.2.2.2.2.2.2.2.2.1, (bold hb9wa _ _ (by omega)).trans S0.1.2.2.2.2.2.2.2.2.2.2.2.2.2.2.2.2.2.1, (bold hb9wa _ _ (by omega)).trans S0.1.2.2.2.2.2.2.2.2.2.2.2.2.2.2.2.2.2.2.1, (bold hb9wa _ _ (by omega)).trans S0.1.2.2.2.2.2.2.2.2.2.2.2.2.2.2.2.2.2.2.2.1, (bold hb9wa _ _ (by omega)).trans S0.1.2.2.2.2.2.2.2.2.2.2.2.2.2.2.2.2.2.2.2.2.1, (bold hb9wa _ _ (by omega)).trans S0.1.2.2.2.2.2.2.2.2.2.2.2.2.2.2.2.2.2.2.2.2.2.1, (bold hb9wa _ _ (by omega)).trans S0.1.2.2.2.2.2.2.2.2.2.2.2.2.2.2.2.2.2.2.2.2.2.2.1, (bold hb9wa _ _ (by omega)).trans S0.1.2.2.2.2.2.2.2.2.2.2.2.2.2.2.2.2.2.2.2.2.2.2.2.1, (bold hb9wa _ _ (by omega)).trans S0.1.2.2.2.2.2.2.2.2.2.2.2.2.2.2.2.2.2.2.2.2.2.2.2.2.1, (bold hb9wa _ _ (by omega)).trans S0.1.2.2.2.2.2.2.2.2.2.2.2.2.2.2.2.2.2.2.2.2.2.2.2.2.2.1, (bold hb9wa _ _ (by omega)).trans S0.1.2.2.2.2.2.2.2.2.2.2.2.2.2.2.2.2.2.2.2.2.2.2.2.2.2.2.1, (bold hb9wa _ _ (by omega)).trans S0.1.2.2.2.2.2.2.2.2.2.2.2.2.2.2.2.2.2.2.2.2.2.2.2.2.2.2.2⟩, hb9wa⟩
  clear hb8
  go_wp2_with fail
  refine hK.out _ _ Swa (fun _ => ?_)
  clear hK K
  try simp only [Act.put, l9a, l9z, l9s]
  refine tk9 (i := 20) (some 45) (.bool false) rfl rfl (fun W hSw => ?_) Swa ?_
  · (try dsimp only at hSw); go_simp <;> with_reducible rfl
  try simp only [Act.put, l9a, l9z, l9s]
  refine tk9 (i := 21) (some 46) (.bool false) rfl rfl (fun W hSw => ?_) Swa ?_
  · (try dsimp only at hSw); go_simp <;> with_reducible rfl
  try simp only [Act.put, l9a, l9z, l9s]
  refine wpAnyH_done (by kernel_rfl) ?_ _
  have hbreg : Below w2.heap.size w2 wa := Swa.2
  clear S0 Swa hb9wa
  have hb := hbreg; clear hbreg
  have kk := bthen BB.out hb; clear BB; have BB := Lib.hid kk; clear kk
  have kk := HH.out.later hb; clear HH; have HH := Lib.hid kk; clear kk
  have kk := has_call K.out hb; clear K; have K := Lib.hid kk; clear kk
  have hswa2 := hb.size; clear hb
  clear c1 c2 d2b
  go_upto_region 6 with fail
  cases d3 : lockB p.ls p.ln p.lt p.lp p.lu
  · skip
    have hlp := has_lt K.out; have hlg := HH.out.lt
    have pc0 := has_cell (has_drew K.out) 0 rfl; have pc1 := has_cell (has_drew K.out) 1 rfl; have pc2 := has_cell (has_drew K.out) 2 rfl; have pc3 := has_cell (has_drew K.out) 3 rfl; have pc4 := has_cell (has_drew K.out) 4 rfl; have pc5 := has_cell (has_drew K.out) 5 rfl; have pc6 := has_cell (has_drew K.out) 6 rfl; have pc7 := has_cell (has_drew K.out) 7 rfl; have pc8 := has_cell (has_drew K.out) 8 rfl; have pc9 := has_cell (has_drew K.out) 9 rfl; have pc10 := has_cell (has_drew K.out) 10 rfl; have pc11 := has_cell (has_drew K.out) 11 rfl; have pc12 := has_cell (has_drew K.out) 12 rfl
    have nc0 := (HH.out.later (Below.refl _ _).drew).c 0 _ rfl; have nc1 := (HH.out.later (Below.refl _ _).drew).c 1 _ rfl; have nc2 := (HH.out.later (Below.refl _ _).drew).c 2 _ rfl; have nc3 := (HH.out.later (Below.refl _ _).drew).c 3 _ rfl; have nc4 := (HH.out.later (Below.refl _ _).drew).c 4 _ rfl; have nc5 := (HH.out.later (Below.refl _ _).drew).c 5 _ rfl; have nc6 := (HH.out.later (Below.refl _ _).drew).c 6 _ rfl; have nc7 := (HH.out.later (Below.refl _ _).drew).c 7 _ rfl; have nc8 := (HH.out.later (Below.refl _ _).drew).c 8 _ rfl; have nc9 := (HH.out.later (Below.refl _ _).drew).c 9 _ rfl; have nc10 := (HH.out.later (Below.refl _ _).drew).c 10 _ rfl; have nc11 := (HH.out.later (Below.refl _ _).drew).c 11 _ rfl; have nc12 := (HH.out.later (Below.refl _ _).drew).c 12 _ rfl; have nc13 := (HH.out.later (Below.refl _ _).drew).c 13 _ rfl; have nc14 := (HH.out.later (Below.refl _ _).drew).c 14 _ rfl
    rw [Nat.add_zero] at nc0
    have S0 : (fun W : World => (W.cell? ⟨w.heap.size, 0, none⟩ = some (.int .i64 p.size) ∧ W.cell? ⟨w.heap.size, 1, none⟩ = some (.int .i64 p.owner) ∧ W.cell? ⟨w.heap.size, 2, none⟩ = some (.int .i64 p.site) ∧ W.cell? ⟨w.heap.size, 3, none⟩ = some (.int .i64 p.stage) ∧ W.cell? ⟨w.heap.size, 4, none⟩ = some (.int .i64 p.since) ∧ W.cell? ⟨w.heap.size, 5, none⟩ = some (.int .i64 p.ext) ∧ W.cell? ⟨w.heap.size, 6, none⟩ = some (.int .i64 p.ls) ∧ W.cell? ⟨w.heap.size, 7, none⟩ = some (.int .i64 p.ln) ∧ W.cell? ⟨w.heap.size, 8, none⟩ = some (.int .i64 p.lt) ∧ W.cell? ⟨w.heap.size, 9, none⟩ = some (.int .i64 p.lp) ∧ W.cell? ⟨w.heap.size, 10, none⟩ = some (.int .i64 p.lu) ∧ W.cell? ⟨w.heap.size, 11, none⟩ = some (.int .i64 p.who) ∧ W.cell? ⟨w.heap.size, 12, none⟩ = some (.int .i64 p.fee) ∧ W.cell? ⟨g, o, none⟩ = some (.int .i64 n.tm.keep) ∧ W.cell? ⟨g, o + 1, none⟩ = some (.int .i64 n.tm.free) ∧ W.cell? ⟨g, o + 2, none⟩ = some (.int .i64 n.tm.step) ∧ W.cell? ⟨g, o + 3, none⟩ = some (.int .i64 n.tm.rate) ∧ W.cell? ⟨g, o + 4, none⟩ = some (.int .i64 n.tm.cap) ∧ W.cell? ⟨g, o + 5, none⟩ = some (.int .i64 n.tm.longer) ∧ W.cell? ⟨g, o + 6, none⟩ = some (.int .i64 n.tm.price) ∧ W.cell? ⟨g, o + 7, none⟩ = some (.int .i64 n.tm.most) ∧ W.cell? ⟨g, o + 8, none⟩ = some (.int .i64 n.room) ∧ W.cell? ⟨g, o + 9, none⟩ = some (.int .i64 n.secret) ∧ W.cell? ⟨g, o + 10, none⟩ = some (.int .i64 n.now) ∧ W.cell? ⟨g, o + 11, none⟩ = some (.slice n.AS n.st.length n.cS) ∧ W.cell? ⟨g, o + 12, none⟩ = some (.slice n.AP n.pc.length n.cP) ∧ W.cell? ⟨g, o + 13, none⟩ = some (.slice n.AG n.gr.length n.cG) ∧ W.cell? ⟨g, o + 14, none⟩ = some (.slice n.AJ n.jr.length n.cJ)) ∧ Below wa.heap.size wa W) wa.drew := ⟨⟨pc0, pc1, pc2, pc3, pc4, pc5, pc6, pc7, pc8, pc9, pc10, pc11, pc12, nc0, nc1, nc2, nc3, nc4, nc5, nc6, nc7, nc8, nc9, nc10, nc11, nc12, nc13, nc14⟩, (Below.refl _ _).drew⟩
    clear pc0 pc1 pc2 pc3 pc4 pc5 pc6 pc7 pc8 pc9 pc10 pc11 pc12 nc0 nc1 nc2 nc3 nc4 nc5 nc6 nc7 nc8 nc9 nc10 nc11 nc12 nc13 nc14
    refine wp_region_held_drew (S := (fun W : World => (W.cell? ⟨w.heap.size, 0, none⟩ = some (.int .i64 p.size) ∧ W.cell? ⟨w.heap.size, 1, none⟩ = some (.int .i64 p.owner) ∧ W.cell? ⟨w.heap.size, 2, none⟩ = some (.int .i64 p.site) ∧ W.cell? ⟨w.heap.size, 3, none⟩ = some (.int .i64 p.stage) ∧ W.cell? ⟨w.heap.size, 4, none⟩ = some (.int .i64 p.since) ∧ W.cell? ⟨w.heap.size, 5, none⟩ = some (.int .i64 p.ext) ∧ W.cell? ⟨w.heap.size, 6, none⟩ = some (.int .i64 p.ls) ∧ W.cell? ⟨w.heap.size, 7, none⟩ = some (.int .i64 p.ln) ∧ W.cell? ⟨w.heap.size, 8, none⟩ = some (.int .i64 p.lt) ∧ W.cell? ⟨w.heap.size, 9, none⟩ = some (.int .i64 p.lp) ∧ W.cell? ⟨w.heap.size, 10, none⟩ = some (.int .i64 p.lu) ∧ W.cell? ⟨w.heap.size, 11, none⟩ = some (.int .i64 p.who) ∧ W.cell? ⟨w.heap.size, 12, none⟩ = some (.int .i64 p.fee) ∧ W.cell? ⟨g, o, none⟩ = some (.int .i64 n.tm.keep) ∧ W.cell? ⟨g, o + 1, none⟩ = some (.int .i64 n.tm.free) ∧ W.cell? ⟨g, o + 2, none⟩ = some (.int .i64 n.tm.step) ∧ W.cell? ⟨g, o + 3, none⟩ = some (.int .i64 n.tm.rate) ∧ W.cell? ⟨g, o + 4, none⟩ = some (.int .i64 n.tm.cap) ∧ W.cell? ⟨g, o + 5, none⟩ = some (.int .i64 n.tm.longer) ∧ W.cell? ⟨g, o + 6, none⟩ = some (.int .i64 n.tm.price) ∧ W.cell? ⟨g, o + 7, none⟩ = some (.int .i64 n.tm.most) ∧ W.cell? ⟨g, o + 8, none⟩ = some (.int .i64 n.room) ∧ W.cell? ⟨g, o + 9, none⟩ = some (.int .i64 n.secret) ∧ W.cell? ⟨g, o + 10, none⟩ = some (.int .i64 n.now) ∧ W.cell? ⟨g, o + 11, none⟩ = some (.slice n.AS n.st.length n.cS) ∧ W.cell? ⟨g, o + 12, none⟩ = some (.slice n.AP n.pc.length n.cP) ∧ W.cell? ⟨g, o + 13, none⟩ = some (.slice n.AG n.gr.length n.cG) ∧ W.cell? ⟨g, o + 14, none⟩ = some (.slice n.AJ n.jr.length n.cJ)) ∧ Below wa.heap.size wa W)) (by kernel_rfl) S0 (fun _ => ?_)
    refine tk9 (i := 0) (some 47) (.pointer (some ⟨w.heap.size, 6, none⟩)) rfl rfl (fun W hSw => ?_) S0 ?_
    · (try dsimp only at hSw); go_simp <;> with_reducible rfl
    try simp only [Act.put, l9a, l9z, l9s]
    refine tk9 (i := 1) (some 48) (.agg #[.int .i64 p.ls, .int .i64 p.ln, .int .i64 p.lt, .int .i64 p.lp, .int .i64 p.lu]) rfl rfl (fun W hSw => ?_) S0 ?_
    · (try dsimp only at hSw); go_simp <;> with_reducible rfl
    try simp only [Act.put, l9a, l9z, l9s]
    refine wpAnyH_ready (rs := [2]) (by kernel_rfl) (by simp) ?_
    refine AllReadyH.cons rfl (fun K hK => ?_) AllReadyH.nil
    go_simp
    go_at_call 121
    refine (lockI_any _ p.ls p.ln p.lt p.lp p.lu).mono ?_
    rintro e wc ⟨rfl, hb8⟩
    rw [d3]
    have hb9wc : Below wa.heap.size wa wc := bthen ((Below.refl _ _).drew : Below wa.heap.size wa wa.drew) hb8
    have Swc : (fun W : World => (W.cell? ⟨w.heap.size, 0, none⟩ = some (.int .i64 p.size) ∧ W.cell? ⟨w.heap.size, 1, none⟩ = some (.int .i64 p.owner) ∧ W.cell? ⟨w.heap.size, 2, none⟩ = some (.int .i64 p.site) ∧ W.cell? ⟨w.heap.size, 3, none⟩ = some (.int .i64 p.stage) ∧ W.cell? ⟨w.heap.size, 4, none⟩ = some (.int .i64 p.since) ∧ W.cell? ⟨w.heap.size, 5, none⟩ = some (.int .i64 p.ext) ∧ W.cell? ⟨w.heap.size, 6, none⟩ = some (.int .i64 p.ls) ∧ W.cell? ⟨w.heap.size, 7, none⟩ = some (.int .i64 p.ln) ∧ W.cell? ⟨w.heap.size, 8, none⟩ = some (.int .i64 p.lt) ∧ W.cell? ⟨w.heap.size, 9, none⟩ = some (.int .i64 p.lp) ∧ W.cell? ⟨w.heap.size, 10, none⟩ = some (.int .i64 p.lu) ∧ W.cell? ⟨w.heap.size, 11, none⟩ = some (.int .i64 p.who) ∧ W.cell? ⟨w.heap.size, 12, none⟩ = some (.int .i64 p.fee) ∧ W.cell? ⟨g, o, none⟩ = some (.int .i64 n.tm.keep) ∧ W.cell? ⟨g, o + 1, none⟩ = some (.int .i64 n.tm.free) ∧ W.cell? ⟨g, o + 2, none⟩ = some (.int .i64 n.tm.step) ∧ W.cell? ⟨g, o + 3, none⟩ = some (.int .i64 n.tm.rate) ∧ W.cell? ⟨g, o + 4, none⟩ = some (.int .i64 n.tm.cap) ∧ W.cell? ⟨g, o + 5, none⟩ = some (.int .i64 n.tm.longer) ∧ W.cell? ⟨g, o + 6, none⟩ = some (.int .i64 n.tm.price) ∧ W.cell? ⟨g, o + 7, none⟩ = some (.int .i64 n.tm.most) ∧ W.cell? ⟨g, o + 8, none⟩ = some (.int .i64 n.room) ∧ W.cell? ⟨g, o + 9, none⟩ = some (.int .i64 n.secret) ∧ W.cell? ⟨g, o + 10, none⟩ = some (.int .i64 n.now) ∧ W.cell? ⟨g, o + 11, none⟩ = some (.slice n.AS n.st.length n.cS) ∧ W.cell? ⟨g, o + 12, none⟩ = some (.slice n.AP n.pc.length n.cP) ∧ W.cell? ⟨g, o + 13, none⟩ = some (.slice n.AG n.gr.length n.cG) ∧ W.cell? ⟨g, o + 14, none⟩ = some (.slice n.AJ n.jr.length n.cJ)) ∧ Below wa.heap.size wa W) wc := ⟨⟨(bold hb9wc _ _ (by omega)).trans S0.1.1, (bold hb9wc _ _ (by omega)).trans S0.1.2.1, (bold hb9wc _ _ (by omega)).trans S0.1.2.2.1, (bold hb9wc _ _ (by omega)).trans S0.1.2.2.2.1, (bold hb9wc _ _ (by omega)).trans S0.1.2.2.2.2.1, (bold hb9wc _ _ (by omega)).trans S0.1.2.2.2.2.2.1, (bold hb9wc _ _ (by omega)).trans S0.1.2.2.2.2.2.2.1, (bold hb9wc _ _ (by omega)).trans S0.1.2.2.2.2.2.2.2.1, (bold hb9wc _ _ (by omega)).trans S0.1.2.2.2.2.2.2.2.2.1, (bold hb9wc _ _ (by omega)).trans S0.1.2.2.2.2.2.2.2.2.2.1, (bold hb9wc _ _ (by omega)).trans S0.1.2.2.2.2.2.2.2.2.2.2.1, (bold hb9wc _ _ (by omega)).trans S0.1.2.2.2.2.2.2.2.2.2.2.2.1, (bold hb9wc _ _ (by omega)).trans S0.1.2.2.2.2.2.2.2.2.2.2.2.2.1, (bold hb9wc _ _ (by omega)).trans S0.1.2.2.2.2.2.2.2.2.2.2.2.2.2.1, (bold hb9wc _ _ (by omega)).trans S0.1.2.2.2.2.2.2.2.2.2.2.2.2.2.2.1, (bold hb9wc _ _ (by omega)).trans S0.1.2.2.2.2.2.2.2.2.2.2.2.2.2.2.2.1, (bold hb9wc _ _ (by omega)).trans S0.1.2.2.2.2.2.2.2.2.2.2.2.2.2.2.2.2.1, (bold hb9wc _ _ (by omega)).trans S0.1.2.2.2.2.2.2.2.2.2.2.2.2.2.2.2.2.2.1, (bold hb9wc _ _ (by omega)).trans S0.1.2.2.2.2.2.2.2.2.2.2.2.2.2.2.2.2.2.2.1, (bold hb9wc _ _ (by omega)).trans S0.1.2.2.2.2.2.2.2.2.2.2.2.2.2.2.2.2.2.2.2.1, (bold hb9wc _ _ (by omega)).trans S0.1.2.2.2.2.2.2.2.2.2.2.2.2.2.2.2.2.2.2.2.2.1, (bold hb9wc _ _ (by omega)).trans S0.1.2.2.2.2.2.2.2.2.2.2.2.2.2.2.2.2.2.2.2.2.2.1, (bold hb9wc _ _ (by omega)).trans S0.1.2.2.2.2.2.2.2.2.2.2.2.2.2.2.2.2.2.2.2.2.2.2.1, (bold hb9wc _ _ (by omega)).trans S0.1.2.2.2.2.2.2.2.2.2.2.2.2.2.2.2.2.2.2.2.2.2.2.2.1, (bold hb9wc _ _ (by omega)).trans S0.1.2.2.2.2.2.2.2.2.2.2.2.2.2.2.2.2.2.2.2.2.2.2.2.2.1, (bold hb9wc _ _ (by omega)).trans S0.1.2.2.2.2.2.2.2.2.2.2.2.2.2.2.2.2.2.2.2.2.2.2.2.2.2.1, (bold hb9wc _ _ (by omega)).trans S0.1.2.2.2.2.2.2.2.2.2.2.2.2.2.2.2.2.2.2.2.2.2.2.2.2.2.2.1, (bold hb9wc _ _ (by omega)).trans S0.1.2.2.2.2.2.2.2.2.2.2.2.2.2.2.2.2.2.2.2.2.2.2.2.2.2.2.2⟩, hb9wc⟩
    clear hb8
    go_wp2_with fail
    refine hK.out _ _ Swc (fun _ => ?_)
    clear hK K
    try simp only [Act.put, l9a, l9z, l9s]
    refine tk9 (i := 3) (some 50) (.bool true) rfl rfl (fun W hSw => ?_) Swc ?_
    · (try dsimp only at hSw); go_simp <;> with_reducible rfl
    try simp only [Act.put, l9a, l9z, l9s]
    refine tk9 (i := 4) (some 51) (.bool true) rfl rfl (fun W hSw => ?_) Swc ?_
    · (try dsimp only at hSw); go_simp <;> with_reducible rfl
    try simp only [Act.put, l9a, l9z, l9s]
    refine sk9 (i := 5) (some 52) rfl rfl Swc ?_
    try simp only [Act.put, l9a, l9z, l9s]
    refine sk9 (i := 6) (some 53) rfl rfl Swc ?_
    try simp only [Act.put, l9a, l9z, l9s]
    refine sk9 (i := 7) (some 54) rfl rfl Swc ?_
    try simp only [Act.put, l9a, l9z, l9s]
    refine sk9 (i := 8) (some 55) rfl rfl Swc ?_
    try simp only [Act.put, l9a, l9z, l9s]
    refine sk9 (i := 9) (some 56) rfl rfl Swc ?_
    try simp only [Act.put, l9a, l9z, l9s]
    refine sk9 (i := 10) (some 57) rfl rfl Swc ?_
    try simp only [Act.put, l9a, l9z, l9s]
    refine sk9 (i := 11) (some 58) rfl rfl Swc ?_
    try simp only [Act.put, l9a, l9z, l9s]
    refine sk9 (i := 12) (some 59) rfl rfl Swc ?_
    try simp only [Act.put, l9a, l9z, l9s]
    refine sk9 (i := 13) (some 60) rfl rfl Swc ?_
    try simp only [Act.put, l9a, l9z, l9s]
    refine tk9 (i := 14) (some 61) (.bool true) rfl rfl (fun W hSw => ?_) Swc ?_
    · (try dsimp only at hSw); go_simp <;> with_reducible rfl
    try simp only [Act.put, l9a, l9z, l9s]
    refine wpAnyH_done (by kernel_rfl) ?_ _
    have hbreg : Below wa.heap.size wa wc := Swc.2
    clear S0 Swc hb9wc
    go_wp2_with fail
    go_ret
    exact ⟨rbool (by rw [HSV.out]; simp [d3]), bthen BB.out hbreg⟩
  obtain ⟨sv, hsecr⟩ : ∃ v, secV n.secret ((k : Int) + 1) = v := ⟨_, rfl⟩
  cases d4 : (p.ls == sv)
  · skip
    have f4 : (p.ls != sv) = true := by simpa using d4
    have hlp := has_lt K.out; have hlg := HH.out.lt
    have pc0 := has_cell (has_drew K.out) 0 rfl; have pc1 := has_cell (has_drew K.out) 1 rfl; have pc2 := has_cell (has_drew K.out) 2 rfl; have pc3 := has_cell (has_drew K.out) 3 rfl; have pc4 := has_cell (has_drew K.out) 4 rfl; have pc5 := has_cell (has_drew K.out) 5 rfl; have pc6 := has_cell (has_drew K.out) 6 rfl; have pc7 := has_cell (has_drew K.out) 7 rfl; have pc8 := has_cell (has_drew K.out) 8 rfl; have pc9 := has_cell (has_drew K.out) 9 rfl; have pc10 := has_cell (has_drew K.out) 10 rfl; have pc11 := has_cell (has_drew K.out) 11 rfl; have pc12 := has_cell (has_drew K.out) 12 rfl
    have nc0 := (HH.out.later (Below.refl _ _).drew).c 0 _ rfl; have nc1 := (HH.out.later (Below.refl _ _).drew).c 1 _ rfl; have nc2 := (HH.out.later (Below.refl _ _).drew).c 2 _ rfl; have nc3 := (HH.out.later (Below.refl _ _).drew).c 3 _ rfl; have nc4 := (HH.out.later (Below.refl _ _).drew).c 4 _ rfl; have nc5 := (HH.out.later (Below.refl _ _).drew).c 5 _ rfl; have nc6 := (HH.out.later (Below.refl _ _).drew).c 6 _ rfl; have nc7 := (HH.out.later (Below.refl _ _).drew).c 7 _ rfl; have nc8 := (HH.out.later (Below.refl _ _).drew).c 8 _ rfl; have nc9 := (HH.out.later (Below.refl _ _).drew).c 9 _ rfl; have nc10 := (HH.out.later (Below.refl _ _).drew).c 10 _ rfl; have nc11 := (HH.out.later (Below.refl _ _).drew).c 11 _ rfl; have nc12 := (HH.out.later (Below.refl _ _).drew).c 12 _ rfl; have nc13 := (HH.out.later (Below.refl _ _).drew).c 13 _ rfl; have nc14 := (HH.out.later (Below.refl _ _).drew).c 14 _ rfl
    rw [Nat.add_zero] at nc0
    have S0 : (fun W : World => (W.cell? ⟨w.heap.size, 0, none⟩ = some (.int .i64 p.size) ∧ W.cell? ⟨w.heap.size, 1, none⟩ = some (.int .i64 p.owner) ∧ W.cell? ⟨w.heap.size, 2, none⟩ = some (.int .i64 p.site) ∧ W.cell? ⟨w.heap.size, 3, none⟩ = some (.int .i64 p.stage) ∧ W.cell? ⟨w.heap.size, 4, none⟩ = some (.int .i64 p.since) ∧ W.cell? ⟨w.heap.size, 5, none⟩ = some (.int .i64 p.ext) ∧ W.cell? ⟨w.heap.size, 6, none⟩ = some (.int .i64 p.ls) ∧ W.cell? ⟨w.heap.size, 7, none⟩ = some (.int .i64 p.ln) ∧ W.cell? ⟨w.heap.size, 8, none⟩ = some (.int .i64 p.lt) ∧ W.cell? ⟨w.heap.size, 9, none⟩ = some (.int .i64 p.lp) ∧ W.cell? ⟨w.heap.size, 10, none⟩ = some (.int .i64 p.lu) ∧ W.cell? ⟨w.heap.size, 11, none⟩ = some (.int .i64 p.who) ∧ W.cell? ⟨w.heap.size, 12, none⟩ = some (.int .i64 p.fee) ∧ W.cell? ⟨g, o, none⟩ = some (.int .i64 n.tm.keep) ∧ W.cell? ⟨g, o + 1, none⟩ = some (.int .i64 n.tm.free) ∧ W.cell? ⟨g, o + 2, none⟩ = some (.int .i64 n.tm.step) ∧ W.cell? ⟨g, o + 3, none⟩ = some (.int .i64 n.tm.rate) ∧ W.cell? ⟨g, o + 4, none⟩ = some (.int .i64 n.tm.cap) ∧ W.cell? ⟨g, o + 5, none⟩ = some (.int .i64 n.tm.longer) ∧ W.cell? ⟨g, o + 6, none⟩ = some (.int .i64 n.tm.price) ∧ W.cell? ⟨g, o + 7, none⟩ = some (.int .i64 n.tm.most) ∧ W.cell? ⟨g, o + 8, none⟩ = some (.int .i64 n.room) ∧ W.cell? ⟨g, o + 9, none⟩ = some (.int .i64 n.secret) ∧ W.cell? ⟨g, o + 10, none⟩ = some (.int .i64 n.now) ∧ W.cell? ⟨g, o + 11, none⟩ = some (.slice n.AS n.st.length n.cS) ∧ W.cell? ⟨g, o + 12, none⟩ = some (.slice n.AP n.pc.length n.cP) ∧ W.cell? ⟨g, o + 13, none⟩ = some (.slice n.AG n.gr.length n.cG) ∧ W.cell? ⟨g, o + 14, none⟩ = some (.slice n.AJ n.jr.length n.cJ)) ∧ Below wa.heap.size wa W) wa.drew := ⟨⟨pc0, pc1, pc2, pc3, pc4, pc5, pc6, pc7, pc8, pc9, pc10, pc11, pc12, nc0, nc1, nc2, nc3, nc4, nc5, nc6, nc7, nc8, nc9, nc10, nc11, nc12, nc13, nc14⟩, (Below.refl _ _).drew⟩
    clear pc0 pc1 pc2 pc3 pc4 pc5 pc6 pc7 pc8 pc9 pc10 pc11 pc12 nc0 nc1 nc2 nc3 nc4 nc5 nc6 nc7 nc8 nc9 nc10 nc11 nc12 nc13 nc14
    refine wp_region_held_drew (S := (fun W : World => (W.cell? ⟨w.heap.size, 0, none⟩ = some (.int .i64 p.size) ∧ W.cell? ⟨w.heap.size, 1, none⟩ = some (.int .i64 p.owner) ∧ W.cell? ⟨w.heap.size, 2, none⟩ = some (.int .i64 p.site) ∧ W.cell? ⟨w.heap.size, 3, none⟩ = some (.int .i64 p.stage) ∧ W.cell? ⟨w.heap.size, 4, none⟩ = some (.int .i64 p.since) ∧ W.cell? ⟨w.heap.size, 5, none⟩ = some (.int .i64 p.ext) ∧ W.cell? ⟨w.heap.size, 6, none⟩ = some (.int .i64 p.ls) ∧ W.cell? ⟨w.heap.size, 7, none⟩ = some (.int .i64 p.ln) ∧ W.cell? ⟨w.heap.size, 8, none⟩ = some (.int .i64 p.lt) ∧ W.cell? ⟨w.heap.size, 9, none⟩ = some (.int .i64 p.lp) ∧ W.cell? ⟨w.heap.size, 10, none⟩ = some (.int .i64 p.lu) ∧ W.cell? ⟨w.heap.size, 11, none⟩ = some (.int .i64 p.who) ∧ W.cell? ⟨w.heap.size, 12, none⟩ = some (.int .i64 p.fee) ∧ W.cell? ⟨g, o, none⟩ = some (.int .i64 n.tm.keep) ∧ W.cell? ⟨g, o + 1, none⟩ = some (.int .i64 n.tm.free) ∧ W.cell? ⟨g, o + 2, none⟩ = some (.int .i64 n.tm.step) ∧ W.cell? ⟨g, o + 3, none⟩ = some (.int .i64 n.tm.rate) ∧ W.cell? ⟨g, o + 4, none⟩ = some (.int .i64 n.tm.cap) ∧ W.cell? ⟨g, o + 5, none⟩ = some (.int .i64 n.tm.longer) ∧ W.cell? ⟨g, o + 6, none⟩ = some (.int .i64 n.tm.price) ∧ W.cell? ⟨g, o + 7, none⟩ = some (.int .i64 n.tm.most) ∧ W.cell? ⟨g, o + 8, none⟩ = some (.int .i64 n.room) ∧ W.cell? ⟨g, o + 9, none⟩ = some (.int .i64 n.secret) ∧ W.cell? ⟨g, o + 10, none⟩ = some (.int .i64 n.now) ∧ W.cell? ⟨g, o + 11, none⟩ = some (.slice n.AS n.st.length n.cS) ∧ W.cell? ⟨g, o + 12, none⟩ = some (.slice n.AP n.pc.length n.cP) ∧ W.cell? ⟨g, o + 13, none⟩ = some (.slice n.AG n.gr.length n.cG) ∧ W.cell? ⟨g, o + 14, none⟩ = some (.slice n.AJ n.jr.length n.cJ)) ∧ Below wa.heap.size wa W)) (by kernel_rfl) S0 (fun _ => ?_)
    refine tk9 (i := 0) (some 47) (.pointer (some ⟨w.heap.size, 6, none⟩)) rfl rfl (fun W hSw => ?_) S0 ?_
    · (try dsimp only at hSw); go_simp <;> with_reducible rfl
    try simp only [Act.put, l9a, l9z, l9s]
    refine tk9 (i := 1) (some 48) (.agg #[.int .i64 p.ls, .int .i64 p.ln, .int .i64 p.lt, .int .i64 p.lp, .int .i64 p.lu]) rfl rfl (fun W hSw => ?_) S0 ?_
    · (try dsimp only at hSw); go_simp <;> with_reducible rfl
    try simp only [Act.put, l9a, l9z, l9s]
    refine wpAnyH_ready (rs := [2]) (by kernel_rfl) (by simp) ?_
    refine AllReadyH.cons rfl (fun K hK => ?_) AllReadyH.nil
    go_simp
    go_at_call 121
    refine (lockI_any _ p.ls p.ln p.lt p.lp p.lu).mono ?_
    rintro e wc ⟨rfl, hb8⟩
    rw [d3]
    have hb9wc : Below wa.heap.size wa wc := bthen ((Below.refl _ _).drew : Below wa.heap.size wa wa.drew) hb8
    have Swc : (fun W : World => (W.cell? ⟨w.heap.size, 0, none⟩ = some (.int .i64 p.size) ∧ W.cell? ⟨w.heap.size, 1, none⟩ = some (.int .i64 p.owner) ∧ W.cell? ⟨w.heap.size, 2, none⟩ = some (.int .i64 p.site) ∧ W.cell? ⟨w.heap.size, 3, none⟩ = some (.int .i64 p.stage) ∧ W.cell? ⟨w.heap.size, 4, none⟩ = some (.int .i64 p.since) ∧ W.cell? ⟨w.heap.size, 5, none⟩ = some (.int .i64 p.ext) ∧ W.cell? ⟨w.heap.size, 6, none⟩ = some (.int .i64 p.ls) ∧ W.cell? ⟨w.heap.size, 7, none⟩ = some (.int .i64 p.ln) ∧ W.cell? ⟨w.heap.size, 8, none⟩ = some (.int .i64 p.lt) ∧ W.cell? ⟨w.heap.size, 9, none⟩ = some (.int .i64 p.lp) ∧ W.cell? ⟨w.heap.size, 10, none⟩ = some (.int .i64 p.lu) ∧ W.cell? ⟨w.heap.size, 11, none⟩ = some (.int .i64 p.who) ∧ W.cell? ⟨w.heap.size, 12, none⟩ = some (.int .i64 p.fee) ∧ W.cell? ⟨g, o, none⟩ = some (.int .i64 n.tm.keep) ∧ W.cell? ⟨g, o + 1, none⟩ = some (.int .i64 n.tm.free) ∧ W.cell? ⟨g, o + 2, none⟩ = some (.int .i64 n.tm.step) ∧ W.cell? ⟨g, o + 3, none⟩ = some (.int .i64 n.tm.rate) ∧ W.cell? ⟨g, o + 4, none⟩ = some (.int .i64 n.tm.cap) ∧ W.cell? ⟨g, o + 5, none⟩ = some (.int .i64 n.tm.longer) ∧ W.cell? ⟨g, o + 6, none⟩ = some (.int .i64 n.tm.price) ∧ W.cell? ⟨g, o + 7, none⟩ = some (.int .i64 n.tm.most) ∧ W.cell? ⟨g, o + 8, none⟩ = some (.int .i64 n.room) ∧ W.cell? ⟨g, o + 9, none⟩ = some (.int .i64 n.secret) ∧ W.cell? ⟨g, o + 10, none⟩ = some (.int .i64 n.now) ∧ W.cell? ⟨g, o + 11, none⟩ = some (.slice n.AS n.st.length n.cS) ∧ W.cell? ⟨g, o + 12, none⟩ = some (.slice n.AP n.pc.length n.cP) ∧ W.cell? ⟨g, o + 13, none⟩ = some (.slice n.AG n.gr.length n.cG) ∧ W.cell? ⟨g, o + 14, none⟩ = some (.slice n.AJ n.jr.length n.cJ)) ∧ Below wa.heap.size wa W) wc := ⟨⟨(bold hb9wc _ _ (by omega)).trans S0.1.1, (bold hb9wc _ _ (by omega)).trans S0.1.2.1, (bold hb9wc _ _ (by omega)).trans S0.1.2.2.1, (bold hb9wc _ _ (by omega)).trans S0.1.2.2.2.1, (bold hb9wc _ _ (by omega)).trans S0.1.2.2.2.2.1, (bold hb9wc _ _ (by omega)).trans S0.1.2.2.2.2.2.1, (bold hb9wc _ _ (by omega)).trans S0.1.2.2.2.2.2.2.1, (bold hb9wc _ _ (by omega)).trans S0.1.2.2.2.2.2.2.2.1, (bold hb9wc _ _ (by omega)).trans S0.1.2.2.2.2.2.2.2.2.1, (bold hb9wc _ _ (by omega)).trans S0.1.2.2.2.2.2.2.2.2.2.1, (bold hb9wc _ _ (by omega)).trans S0.1.2.2.2.2.2.2.2.2.2.2.1, (bold hb9wc _ _ (by omega)).trans S0.1.2.2.2.2.2.2.2.2.2.2.2.1, (bold hb9wc _ _ (by omega)).trans S0.1.2.2.2.2.2.2.2.2.2.2.2.2.1, (bold hb9wc _ _ (by omega)).trans S0.1.2.2.2.2.2.2.2.2.2.2.2.2.2.1, (bold hb9wc _ _ (by omega)).trans S0.1.2.2.2.2.2.2.2.2.2.2.2.2.2.2.1, (bold hb9wc _ _ (by omega)).trans S0.1.2.2.2.2.2.2.2.2.2.2.2.2.2.2.2.1, (bold hb9wc _ _ (by omega)).trans S0.1.2.2.2.2.2.2.2.2.2.2.2.2.2.2.2.2.1, (bold hb9wc _ _ (by omega)).trans S0.1.2.2.2.2.2.2.2.2.2.2.2.2.2.2.2.2.2.1, (bold hb9wc _ _ (by omega)).trans S0.1.2.2.2.2.2.2.2.2.2.2.2.2.2.2.2.2.2.2.1, (bold hb9wc _ _ (by omega)).trans S0.1.2.2.2.2.2.2.2.2.2.2.2.2.2.2.2.2.2.2.2.1, (bold hb9wc _ _ (by omega)).trans S0.1.2.2.2.2.2.2.2.2.2.2.2.2.2.2.2.2.2.2.2.2.1, (bold hb9wc _ _ (by omega)).trans S0.1.2.2.2.2.2.2.2.2.2.2.2.2.2.2.2.2.2.2.2.2.2.1, (bold hb9wc _ _ (by omega)).trans S0.1.2.2.2.2.2.2.2.2.2.2.2.2.2.2.2.2.2.2.2.2.2.2.1, (bold hb9wc _ _ (by omega)).trans S0.1.2.2.2.2.2.2.2.2.2.2.2.2.2.2.2.2.2.2.2.2.2.2.2.1, (bold hb9wc _ _ (by omega)).trans S0.1.2.2.2.2.2.2.2.2.2.2.2.2.2.2.2.2.2.2.2.2.2.2.2.2.1, (bold hb9wc _ _ (by omega)).trans S0.1.2.2.2.2.2.2.2.2.2.2.2.2.2.2.2.2.2.2.2.2.2.2.2.2.2.1, (bold hb9wc _ _ (by omega)).trans S0.1.2.2.2.2.2.2.2.2.2.2.2.2.2.2.2.2.2.2.2.2.2.2.2.2.2.2.1, (bold hb9wc _ _ (by omega)).trans S0.1.2.2.2.2.2.2.2.2.2.2.2.2.2.2.2.2.2.2.2.2.2.2.2.2.2.2.2⟩, hb9wc⟩
    clear hb8
    go_wp2_with fail
    refine hK.out _ _ Swc (fun _ => ?_)
    clear hK K
    try simp only [Act.put, l9a, l9z, l9s]
    refine tk9 (i := 3) (some 50) (.bool false) rfl rfl (fun W hSw => ?_) Swc ?_
    · (try dsimp only at hSw); go_simp <;> with_reducible rfl
    try simp only [Act.put, l9a, l9z, l9s]
    refine tk9 (i := 4) (some 51) (.bool false) rfl rfl (fun W hSw => ?_) Swc ?_
    · (try dsimp only at hSw); go_simp <;> with_reducible rfl
    try simp only [Act.put, l9a, l9z, l9s]
    refine tk9 (i := 5) (some 52) (.pointer (some ⟨w.heap.size, 6, none⟩)) rfl rfl (fun W hSw => ?_) Swc ?_
    · (try dsimp only at hSw); go_simp <;> with_reducible rfl
    try simp only [Act.put, l9a, l9z, l9s]
    refine tk9 (i := 6) (some 53) (.pointer (some ⟨w.heap.size, 6, none⟩)) rfl rfl (fun W hSw => ?_) Swc ?_
    · (try dsimp only at hSw); go_simp <;> with_reducible rfl
    try simp only [Act.put, l9a, l9z, l9s]
    refine tk9 (i := 7) (some 54) (.int .i64 p.ls) rfl rfl (fun W hSw => ?_) Swc ?_
    · (try dsimp only at hSw); go_simp <;> with_reducible rfl
    try simp only [Act.put, l9a, l9z, l9s]
    refine tk9 (i := 8) (some 55) (.pointer (some ⟨g, o, none⟩)) rfl rfl (fun W hSw => ?_) Swc ?_
    · (try dsimp only at hSw); go_simp <;> with_reducible rfl
    try simp only [Act.put, l9a, l9z, l9s]
    refine tk9 (i := 9) (some 56) (.pointer (some ⟨g, o, none⟩)) rfl rfl (fun W hSw => ?_) Swc ?_
    · (try dsimp only at hSw); go_simp <;> with_reducible rfl
    try simp only [Act.put, l9a, l9z, l9s]
    refine tk9 (i := 10) (some 57) (.agg #[.int .i64 n.tm.keep, .int .i64 n.tm.free, .int .i64 n.tm.step, .int .i64 n.tm.rate, .int .i64 n.tm.cap, .int .i64 n.tm.longer, .int .i64 n.tm.price, .int .i64 n.tm.most, .int .i64 n.room, .int .i64 n.secret, .int .i64 n.now, .slice n.AS n.st.length n.cS, .slice n.AP n.pc.length n.cP, .slice n.AG n.gr.length n.cG, .slice n.AJ n.jr.length n.cJ]) rfl rfl (fun W hSw => ?_) Swc ?_
    · (try dsimp only at hSw); go_simp <;> with_reducible rfl
    try simp only [Act.put, l9a, l9z, l9s]
    refine tk9 (i := 11) (some 58) (.int .i64 ((k : Int) + 1)) rfl rfl (fun W hSw => ?_) Swc ?_
    · (try dsimp only at hSw); go_simp <;> with_reducible rfl
    try simp only [Act.put, l9a, l9z, l9s]
    refine wpAnyH_ready (rs := [12]) (by kernel_rfl) (by simp) ?_
    refine AllReadyH.cons rfl (fun K hK => ?_) AllReadyH.nil
    go_simp
    go_at_call 122
    refine (secIN_any _ n ((k : Int) + 1)).mono ?_
    rintro e wd ⟨rfl, hb8⟩
    rw [hsecr]
    have hb9wd : Below wa.heap.size wa wd := bthen Swc.2 hb8
    have Swd : (fun W : World => (W.cell? ⟨w.heap.size, 0, none⟩ = some (.int .i64 p.size) ∧ W.cell? ⟨w.heap.size, 1, none⟩ = some (.int .i64 p.owner) ∧ W.cell? ⟨w.heap.size, 2, none⟩ = some (.int .i64 p.site) ∧ W.cell? ⟨w.heap.size, 3, none⟩ = some (.int .i64 p.stage) ∧ W.cell? ⟨w.heap.size, 4, none⟩ = some (.int .i64 p.since) ∧ W.cell? ⟨w.heap.size, 5, none⟩ = some (.int .i64 p.ext) ∧ W.cell? ⟨w.heap.size, 6, none⟩ = some (.int .i64 p.ls) ∧ W.cell? ⟨w.heap.size, 7, none⟩ = some (.int .i64 p.ln) ∧ W.cell? ⟨w.heap.size, 8, none⟩ = some (.int .i64 p.lt) ∧ W.cell? ⟨w.heap.size, 9, none⟩ = some (.int .i64 p.lp) ∧ W.cell? ⟨w.heap.size, 10, none⟩ = some (.int .i64 p.lu) ∧ W.cell? ⟨w.heap.size, 11, none⟩ = some (.int .i64 p.who) ∧ W.cell? ⟨w.heap.size, 12, none⟩ = some (.int .i64 p.fee) ∧ W.cell? ⟨g, o, none⟩ = some (.int .i64 n.tm.keep) ∧ W.cell? ⟨g, o + 1, none⟩ = some (.int .i64 n.tm.free) ∧ W.cell? ⟨g, o + 2, none⟩ = some (.int .i64 n.tm.step) ∧ W.cell? ⟨g, o + 3, none⟩ = some (.int .i64 n.tm.rate) ∧ W.cell? ⟨g, o + 4, none⟩ = some (.int .i64 n.tm.cap) ∧ W.cell? ⟨g, o + 5, none⟩ = some (.int .i64 n.tm.longer) ∧ W.cell? ⟨g, o + 6, none⟩ = some (.int .i64 n.tm.price) ∧ W.cell? ⟨g, o + 7, none⟩ = some (.int .i64 n.tm.most) ∧ W.cell? ⟨g, o + 8, none⟩ = some (.int .i64 n.room) ∧ W.cell? ⟨g, o + 9, none⟩ = some (.int .i64 n.secret) ∧ W.cell? ⟨g, o + 10, none⟩ = some (.int .i64 n.now) ∧ W.cell? ⟨g, o + 11, none⟩ = some (.slice n.AS n.st.length n.cS) ∧ W.cell? ⟨g, o + 12, none⟩ = some (.slice n.AP n.pc.length n.cP) ∧ W.cell? ⟨g, o + 13, none⟩ = some (.slice n.AG n.gr.length n.cG) ∧ W.cell? ⟨g, o + 14, none⟩ = some (.slice n.AJ n.jr.length n.cJ)) ∧ Below wa.heap.size wa W) wd := ⟨⟨(bold hb9wd _ _ (by omega)).trans S0.1.1, (bold hb9wd _ _ (by omega)).trans S0.1.2.1, (bold hb9wd _ _ (by omega)).trans S0.1.2.2.1, (bold hb9wd _ _ (by omega)).trans S0.1.2.2.2.1, (bold hb9wd _ _ (by omega)).trans S0.1.2.2.2.2.1, (bold hb9wd _ _ (by omega)).trans S0.1.2.2.2.2.2.1, (bold hb9wd _ _ (by omega)).trans S0.1.2.2.2.2.2.2.1, (bold hb9wd _ _ (by omega)).trans S0.1.2.2.2.2.2.2.2.1, (bold hb9wd _ _ (by omega)).trans S0.1.2.2.2.2.2.2.2.2.1, (bold hb9wd _ _ (by omega)).trans S0.1.2.2.2.2.2.2.2.2.2.1, (bold hb9wd _ _ (by omega)).trans S0.1.2.2.2.2.2.2.2.2.2.2.1, (bold hb9wd _ _ (by omega)).trans S0.1.2.2.2.2.2.2.2.2.2.2.2.1, (bold hb9wd _ _ (by omega)).trans S0.1.2.2.2.2.2.2.2.2.2.2.2.2.1, (bold hb9wd _ _ (by omega)).trans S0.1.2.2.2.2.2.2.2.2.2.2.2.2.2.1, (bold hb9wd _ _ (by omega)).trans S0.1.2.2.2.2.2.2.2.2.2.2.2.2.2.2.1, (bold hb9wd _ _ (by omega)).trans S0.1.2.2.2.2.2.2.2.2.2.2.2.2.2.2.2.1, (bold hb9wd _ _ (by omega)).trans S0.1.2.2.2.2.2.2.2.2.2.2.2.2.2.2.2.2.1, (bold hb9wd _ _ (by omega)).trans S0.1.2.2.2.2.2.2.2.2.2.2.2.2.2.2.2.2.2.1, (bold hb9wd _ _ (by omega)).trans S0.1.2.2.2.2.2.2.2.2.2.2.2.2.2.2.2.2.2.2.1, (bold hb9wd _ _ (by omega)).trans S0.1.2.2.2.2.2.2.2.2.2.2.2.2.2.2.2.2.2.2.2.1, (bold hb9wd _ _ (by omega)).trans S0.1.2.2.2.2.2.2.2.2.2.2.2.2.2.2.2.2.2.2.2.2.1, (bold hb9wd _ _ (by omega)).trans S0.1.2.2.2.2.2.2.2.2.2.2.2.2.2.2.2.2.2.2.2.2.2.1, (bold hb9wd _ _ (by omega)).trans S0.1.2.2.2.2.2.2.2.2.2.2.2.2.2.2.2.2.2.2.2.2.2.2.1, (bold hb9wd _ _ (by omega)).trans S0.1.2.2.2.2.2.2.2.2.2.2.2.2.2.2.2.2.2.2.2.2.2.2.2.1, (bold hb9wd _ _ (by omega)).trans S0.1.2.2.2.2.2.2.2.2.2.2.2.2.2.2.2.2.2.2.2.2.2.2.2.2.1, (bold hb9wd _ _ (by omega)).trans S0.1.2.2.2.2.2.2.2.2.2.2.2.2.2.2.2.2.2.2.2.2.2.2.2.2.2.1, (bold hb9wd _ _ (by omega)).trans S0.1.2.2.2.2.2.2.2.2.2.2.2.2.2.2.2.2.2.2.2.2.2.2.2.2.2.2.1, (bold hb9wd _ _ (by omega)).trans S0.1.2.2.2.2.2.2.2.2.2.2.2.2.2.2.2.2.2.2.2.2.2.2.2.2.2.2.2⟩, hb9wd⟩
    clear hb8
    go_wp2_with fail
    refine hK.out _ _ Swd (fun _ => ?_)
    clear hK K
    try simp only [Act.put, l9a, l9z, l9s]
    refine tk9 (i := 13) (some 60) (.bool true) rfl rfl (fun W hSw => ?_) Swd ?_
    · (try dsimp only at hSw); go_simp <;> with_reducible rfl
    try simp only [Act.put, l9a, l9z, l9s]
    refine tk9 (i := 14) (some 61) (.bool true) rfl rfl (fun W hSw => ?_) Swd ?_
    · (try dsimp only at hSw); go_simp <;> with_reducible rfl
    try simp only [Act.put, l9a, l9z, l9s]
    refine wpAnyH_done (by kernel_rfl) ?_ _
    have hbreg : Below wa.heap.size wa wd := Swd.2
    clear S0 Swc hb9wc Swd hb9wd
    go_wp2_with fail
    go_ret
    exact ⟨rbool (by rw [HSV.out]; simp [d3, hsecr, d4]), bthen BB.out hbreg⟩
  have f4 : (p.ls != sv) = false := by simpa using d4
  have hlp := has_lt K.out; have hlg := HH.out.lt
  have pc0 := has_cell (has_drew K.out) 0 rfl; have pc1 := has_cell (has_drew K.out) 1 rfl; have pc2 := has_cell (has_drew K.out) 2 rfl; have pc3 := has_cell (has_drew K.out) 3 rfl; have pc4 := has_cell (has_drew K.out) 4 rfl; have pc5 := has_cell (has_drew K.out) 5 rfl; have pc6 := has_cell (has_drew K.out) 6 rfl; have pc7 := has_cell (has_drew K.out) 7 rfl; have pc8 := has_cell (has_drew K.out) 8 rfl; have pc9 := has_cell (has_drew K.out) 9 rfl; have pc10 := has_cell (has_drew K.out) 10 rfl; have pc11 := has_cell (has_drew K.out) 11 rfl; have pc12 := has_cell (has_drew K.out) 12 rfl
  have nc0 := (HH.out.later (Below.refl _ _).drew).c 0 _ rfl; have nc1 := (HH.out.later (Below.refl _ _).drew).c 1 _ rfl; have nc2 := (HH.out.later (Below.refl _ _).drew).c 2 _ rfl; have nc3 := (HH.out.later (Below.refl _ _).drew).c 3 _ rfl; have nc4 := (HH.out.later (Below.refl _ _).drew).c 4 _ rfl; have nc5 := (HH.out.later (Below.refl _ _).drew).c 5 _ rfl; have nc6 := (HH.out.later (Below.refl _ _).drew).c 6 _ rfl; have nc7 := (HH.out.later (Below.refl _ _).drew).c 7 _ rfl; have nc8 := (HH.out.later (Below.refl _ _).drew).c 8 _ rfl; have nc9 := (HH.out.later (Below.refl _ _).drew).c 9 _ rfl; have nc10 := (HH.out.later (Below.refl _ _).drew).c 10 _ rfl; have nc11 := (HH.out.later (Below.refl _ _).drew).c 11 _ rfl; have nc12 := (HH.out.later (Below.refl _ _).drew).c 12 _ rfl; have nc13 := (HH.out.later (Below.refl _ _).drew).c 13 _ rfl; have nc14 := (HH.out.later (Below.refl _ _).drew).c 14 _ rfl
  rw [Nat.add_zero] at nc0
  have S0 : (fun W : World => (W.cell? ⟨w.heap.size, 0, none⟩ = some (.int .i64 p.size) ∧ W.cell? ⟨w.heap.size, 1, none⟩ = some (.int .i64 p.owner) ∧ W.cell? ⟨w.heap.size, 2, none⟩ = some (.int .i64 p.site) ∧ W.cell? ⟨w.heap.size, 3, none⟩ = some (.int .i64 p.stage) ∧ W.cell? ⟨w.heap.size, 4, none⟩ = some (.int .i64 p.since) ∧ W.cell? ⟨w.heap.size, 5, none⟩ = some (.int .i64 p.ext) ∧ W.cell? ⟨w.heap.size, 6, none⟩ = some (.int .i64 p.ls) ∧ W.cell? ⟨w.heap.size, 7, none⟩ = some (.int .i64 p.ln) ∧ W.cell? ⟨w.heap.size, 8, none⟩ = some (.int .i64 p.lt) ∧ W.cell? ⟨w.heap.size, 9, none⟩ = some (.int .i64 p.lp) ∧ W.cell? ⟨w.heap.size, 10, none⟩ = some (.int .i64 p.lu) ∧ W.cell? ⟨w.heap.size, 11, none⟩ = some (.int .i64 p.who) ∧ W.cell? ⟨w.heap.size, 12, none⟩ = some (.int .i64 p.fee) ∧ W.cell? ⟨g, o, none⟩ = some (.int .i64 n.tm.keep) ∧ W.cell? ⟨g, o + 1, none⟩ = some (.int .i64 n.tm.free) ∧ W.cell? ⟨g, o + 2, none⟩ = some (.int .i64 n.tm.step) ∧ W.cell? ⟨g, o + 3, none⟩ = some (.int .i64 n.tm.rate) ∧ W.cell? ⟨g, o + 4, none⟩ = some (.int .i64 n.tm.cap) ∧ W.cell? ⟨g, o + 5, none⟩ = some (.int .i64 n.tm.longer) ∧ W.cell? ⟨g, o + 6, none⟩ = some (.int .i64 n.tm.price) ∧ W.cell? ⟨g, o + 7, none⟩ = some (.int .i64 n.tm.most) ∧ W.cell? ⟨g, o + 8, none⟩ = some (.int .i64 n.room) ∧ W.cell? ⟨g, o + 9, none⟩ = some (.int .i64 n.secret) ∧ W.cell? ⟨g, o + 10, none⟩ = some (.int .i64 n.now) ∧ W.cell? ⟨g, o + 11, none⟩ = some (.slice n.AS n.st.length n.cS) ∧ W.cell? ⟨g, o + 12, none⟩ = some (.slice n.AP n.pc.length n.cP) ∧ W.cell? ⟨g, o + 13, none⟩ = some (.slice n.AG n.gr.length n.cG) ∧ W.cell? ⟨g, o + 14, none⟩ = some (.slice n.AJ n.jr.length n.cJ)) ∧ Below wa.heap.size wa W) wa.drew := ⟨⟨pc0, pc1, pc2, pc3, pc4, pc5, pc6, pc7, pc8, pc9, pc10, pc11, pc12, nc0, nc1, nc2, nc3, nc4, nc5, nc6, nc7, nc8, nc9, nc10, nc11, nc12, nc13, nc14⟩, (Below.refl _ _).drew⟩
  clear pc0 pc1 pc2 pc3 pc4 pc5 pc6 pc7 pc8 pc9 pc10 pc11 pc12 nc0 nc1 nc2 nc3 nc4 nc5 nc6 nc7 nc8 nc9 nc10 nc11 nc12 nc13 nc14
  refine wp_region_held_drew (S := (fun W : World => (W.cell? ⟨w.heap.size, 0, none⟩ = some (.int .i64 p.size) ∧ W.cell? ⟨w.heap.size, 1, none⟩ = some (.int .i64 p.owner) ∧ W.cell? ⟨w.heap.size, 2, none⟩ = some (.int .i64 p.site) ∧ W.cell? ⟨w.heap.size, 3, none⟩ = some (.int .i64 p.stage) ∧ W.cell? ⟨w.heap.size, 4, none⟩ = some (.int .i64 p.since) ∧ W.cell? ⟨w.heap.size, 5, none⟩ = some (.int .i64 p.ext) ∧ W.cell? ⟨w.heap.size, 6, none⟩ = some (.int .i64 p.ls) ∧ W.cell? ⟨w.heap.size, 7, none⟩ = some (.int .i64 p.ln) ∧ W.cell? ⟨w.heap.size, 8, none⟩ = some (.int .i64 p.lt) ∧ W.cell? ⟨w.heap.size, 9, none⟩ = some (.int .i64 p.lp) ∧ W.cell? ⟨w.heap.size, 10, none⟩ = some (.int .i64 p.lu) ∧ W.cell? ⟨w.heap.size, 11, none⟩ = some (.int .i64 p.who) ∧ W.cell? ⟨w.heap.size, 12, none⟩ = some (.int .i64 p.fee) ∧ W.cell? ⟨g, o, none⟩ = some (.int .i64 n.tm.keep) ∧ W.cell? ⟨g, o + 1, none⟩ = some (.int .i64 n.tm.free) ∧ W.cell? ⟨g, o + 2, none⟩ = some (.int .i64 n.tm.step) ∧ W.cell? ⟨g, o + 3, none⟩ = some (.int .i64 n.tm.rate) ∧ W.cell? ⟨g, o + 4, none⟩ = some (.int .i64 n.tm.cap) ∧ W.cell? ⟨g, o + 5, none⟩ = some (.int .i64 n.tm.longer) ∧ W.cell? ⟨g, o + 6, none⟩ = some (.int .i64 n.tm.price) ∧ W.cell? ⟨g, o + 7, none⟩ = some (.int .i64 n.tm.most) ∧ W.cell? ⟨g, o + 8, none⟩ = some (.int .i64 n.room) ∧ W.cell? ⟨g, o + 9, none⟩ = some (.int .i64 n.secret) ∧ W.cell? ⟨g, o + 10, none⟩ = some (.int .i64 n.now) ∧ W.cell? ⟨g, o + 11, none⟩ = some (.slice n.AS n.st.length n.cS) ∧ W.cell? ⟨g, o + 12, none⟩ = some (.slice n.AP n.pc.length n.cP) ∧ W.cell? ⟨g, o + 13, none⟩ = some (.slice n.AG n.gr.length n.cG) ∧ W.cell? ⟨g, o + 14, none⟩ = some (.slice n.AJ n.jr.length n.cJ)) ∧ Below wa.heap.size wa W)) (by kernel_rfl) S0 (fun _ => ?_)
  refine tk9 (i := 0) (some 47) (.pointer (some ⟨w.heap.size, 6, none⟩)) rfl rfl (fun W hSw => ?_) S0 ?_
  · (try dsimp only at hSw); go_simp <;> with_reducible rfl
  try simp only [Act.put, l9a, l9z, l9s]
  refine tk9 (i := 1) (some 48) (.agg #[.int .i64 p.ls, .int .i64 p.ln, .int .i64 p.lt, .int .i64 p.lp, .int .i64 p.lu]) rfl rfl (fun W hSw => ?_) S0 ?_
  · (try dsimp only at hSw); go_simp <;> with_reducible rfl
  try simp only [Act.put, l9a, l9z, l9s]
  refine wpAnyH_ready (rs := [2]) (by kernel_rfl) (by simp) ?_
  refine AllReadyH.cons rfl (fun K hK => ?_) AllReadyH.nil
  go_simp
  go_at_call 121
  refine (lockI_any _ p.ls p.ln p.lt p.lp p.lu).mono ?_
  rintro e wc ⟨rfl, hb8⟩
  rw [d3]
  have hb9wc : Below wa.heap.size wa wc := bthen ((Below.refl _ _).drew : Below wa.heap.size wa wa.drew) hb8
  have Swc : (fun W : World => (W.cell? ⟨w.heap.size, 0, none⟩ = some (.int .i64 p.size) ∧ W.cell? ⟨w.heap.size, 1, none⟩ = some (.int .i64 p.owner) ∧ W.cell? ⟨w.heap.size, 2, none⟩ = some (.int .i64 p.site) ∧ W.cell? ⟨w.heap.size, 3, none⟩ = some (.int .i64 p.stage) ∧ W.cell? ⟨w.heap.size, 4, none⟩ = some (.int .i64 p.since) ∧ W.cell? ⟨w.heap.size, 5, none⟩ = some (.int .i64 p.ext) ∧ W.cell? ⟨w.heap.size, 6, none⟩ = some (.int .i64 p.ls) ∧ W.cell? ⟨w.heap.size, 7, none⟩ = some (.int .i64 p.ln) ∧ W.cell? ⟨w.heap.size, 8, none⟩ = some (.int .i64 p.lt) ∧ W.cell? ⟨w.heap.size, 9, none⟩ = some (.int .i64 p.lp) ∧ W.cell? ⟨w.heap.size, 10, none⟩ = some (.int .i64 p.lu) ∧ W.cell? ⟨w.heap.size, 11, none⟩ = some (.int .i64 p.who) ∧ W.cell? ⟨w.heap.size, 12, none⟩ = some (.int .i64 p.fee) ∧ W.cell? ⟨g, o, none⟩ = some (.int .i64 n.tm.keep) ∧ W.cell? ⟨g, o + 1, none⟩ = some (.int .i64 n.tm.free) ∧ W.cell? ⟨g, o + 2, none⟩ = some (.int .i64 n.tm.step) ∧ W.cell? ⟨g, o + 3, none⟩ = some (.int .i64 n.tm.rate) ∧ W.cell? ⟨g, o + 4, none⟩ = some (.int .i64 n.tm.cap) ∧ W.cell? ⟨g, o + 5, none⟩ = some (.int .i64 n.tm.longer) ∧ W.cell? ⟨g, o + 6, none⟩ = some (.int .i64 n.tm.price) ∧ W.cell? ⟨g, o + 7, none⟩ = some (.int .i64 n.tm.most) ∧ W.cell? ⟨g, o + 8, none⟩ = some (.int .i64 n.room) ∧ W.cell? ⟨g, o + 9, none⟩ = some (.int .i64 n.secret) ∧ W.cell? ⟨g, o + 10, none⟩ = some (.int .i64 n.now) ∧ W.cell? ⟨g, o + 11, none⟩ = some (.slice n.AS n.st.length n.cS) ∧ W.cell? ⟨g, o + 12, none⟩ = some (.slice n.AP n.pc.length n.cP) ∧ W.cell? ⟨g, o + 13, none⟩ = some (.slice n.AG n.gr.length n.cG) ∧ W.cell? ⟨g, o + 14, none⟩ = some (.slice n.AJ n.jr.length n.cJ)) ∧ Below wa.heap.size wa W) wc := ⟨⟨(bold hb9wc _ _ (by omega)).trans S0.1.1, (bold hb9wc _ _ (by omega)).trans S0.1.2.1, (bold hb9wc _ _ (by omega)).trans S0.1.2.2.1, (bold hb9wc _ _ (by omega)).trans S0.1.2.2.2.1, (bold hb9wc _ _ (by omega)).trans S0.1.2.2.2.2.1, (bold hb9wc _ _ (by omega)).trans S0.1.2.2.2.2.2.1, (bold hb9wc _ _ (by omega)).trans S0.1.2.2.2.2.2.2.1, (bold hb9wc _ _ (by omega)).trans S0.1.2.2.2.2.2.2.2.1, (bold hb9wc _ _ (by omega)).trans S0.1.2.2.2.2.2.2.2.2.1, (bold hb9wc _ _ (by omega)).trans S0.1.2.2.2.2.2.2.2.2.2.1, (bold hb9wc _ _ (by omega)).trans S0.1.2.2.2.2.2.2.2.2.2.2.1, (bold hb9wc _ _ (by omega)).trans S0.1.2.2.2.2.2.2.2.2.2.2.2.1, (bold hb9wc _ _ (by omega)).trans S0.1.2.2.2.2.2.2.2.2.2.2.2.2.1, (bold hb9wc _ _ (by omega)).trans S0.1.2.2.2.2.2.2.2.2.2.2.2.2.2.1, (bold hb9wc _ _ (by omega)).trans S0.1.2.2.2.2.2.2.2.2.2.2.2.2.2.2.1, (bold hb9wc _ _ (by omega)).trans S0.1.2.2.2.2.2.2.2.2.2.2.2.2.2.2.2.1, (bold hb9wc _ _ (by omega)).trans S0.1.2.2.2.2.2.2.2.2.2.2.2.2.2.2.2.2.1, (bold hb9wc _ _ (by omega)).trans S0.1.2.2.2.2.2.2.2.2.2.2.2.2.2.2.2.2.2.1, (bold hb9wc _ _ (by omega)).trans S0.1.2.2.2.2.2.2.2.2.2.2.2.2.2.2.2.2.2.2.1, (bold hb9wc _ _ (by omega)).trans S0.1.2.2.2.2.2.2.2.2.2.2.2.2.2.2.2.2.2.2.2.1, (bold hb9wc _ _ (by omega)).trans S0.1.2.2.2.2.2.2.2.2.2.2.2.2.2.2.2.2.2.2.2.2.1, (bold hb9wc _ _ (by omega)).trans S0.1.2.2.2.2.2.2.2.2.2.2.2.2.2.2.2.2.2.2.2.2.2.1, (bold hb9wc _ _ (by omega)).trans S0.1.2.2.2.2.2.2.2.2.2.2.2.2.2.2.2.2.2.2.2.2.2.2.1, (bold hb9wc _ _ (by omega)).trans S0.1.2.2.2.2.2.2.2.2.2.2.2.2.2.2.2.2.2.2.2.2.2.2.2.1, (bold hb9wc _ _ (by omega)).trans S0.1.2.2.2.2.2.2.2.2.2.2.2.2.2.2.2.2.2.2.2.2.2.2.2.2.1, (bold hb9wc _ _ (by omega)).trans S0.1.2.2.2.2.2.2.2.2.2.2.2.2.2.2.2.2.2.2.2.2.2.2.2.2.2.1, (bold hb9wc _ _ (by omega)).trans S0.1.2.2.2.2.2.2.2.2.2.2.2.2.2.2.2.2.2.2.2.2.2.2.2.2.2.2.1, (bold hb9wc _ _ (by omega)).trans S0.1.2.2.2.2.2.2.2.2.2.2.2.2.2.2.2.2.2.2.2.2.2.2.2.2.2.2.2⟩, hb9wc⟩
  clear hb8
  go_wp2_with fail
  refine hK.out _ _ Swc (fun _ => ?_)
  clear hK K
  try simp only [Act.put, l9a, l9z, l9s]
  refine tk9 (i := 3) (some 50) (.bool false) rfl rfl (fun W hSw => ?_) Swc ?_
  · (try dsimp only at hSw); go_simp <;> with_reducible rfl
  try simp only [Act.put, l9a, l9z, l9s]
  refine tk9 (i := 4) (some 51) (.bool false) rfl rfl (fun W hSw => ?_) Swc ?_
  · (try dsimp only at hSw); go_simp <;> with_reducible rfl
  try simp only [Act.put, l9a, l9z, l9s]
  refine tk9 (i := 5) (some 52) (.pointer (some ⟨w.heap.size, 6, none⟩)) rfl rfl (fun W hSw => ?_) Swc ?_
  · (try dsimp only at hSw); go_simp <;> with_reducible rfl
  try simp only [Act.put, l9a, l9z, l9s]
  refine tk9 (i := 6) (some 53) (.pointer (some ⟨w.heap.size, 6, none⟩)) rfl rfl (fun W hSw => ?_) Swc ?_
  · (try dsimp only at hSw); go_simp <;> with_reducible rfl
  try simp only [Act.put, l9a, l9z, l9s]
  refine tk9 (i := 7) (some 54) (.int .i64 p.ls) rfl rfl (fun W hSw => ?_) Swc ?_
  · (try dsimp only at hSw); go_simp <;> with_reducible rfl
  try simp only [Act.put, l9a, l9z, l9s]
  refine tk9 (i := 8) (some 55) (.pointer (some ⟨g, o, none⟩)) rfl rfl (fun W hSw => ?_) Swc ?_
  · (try dsimp only at hSw); go_simp <;> with_reducible rfl
  try simp only [Act.put, l9a, l9z, l9s]
  refine tk9 (i := 9) (some 56) (.pointer (some ⟨g, o, none⟩)) rfl rfl (fun W hSw => ?_) Swc ?_
  · (try dsimp only at hSw); go_simp <;> with_reducible rfl
  try simp only [Act.put, l9a, l9z, l9s]
  refine tk9 (i := 10) (some 57) (.agg #[.int .i64 n.tm.keep, .int .i64 n.tm.free, .int .i64 n.tm.step, .int .i64 n.tm.rate, .int .i64 n.tm.cap, .int .i64 n.tm.longer, .int .i64 n.tm.price, .int .i64 n.tm.most, .int .i64 n.room, .int .i64 n.secret, .int .i64 n.now, .slice n.AS n.st.length n.cS, .slice n.AP n.pc.length n.cP, .slice n.AG n.gr.length n.cG, .slice n.AJ n.jr.length n.cJ]) rfl rfl (fun W hSw => ?_) Swc ?_
  · (try dsimp only at hSw); go_simp <;> with_reducible rfl
  try simp only [Act.put, l9a, l9z, l9s]
  refine tk9 (i := 11) (some 58) (.int .i64 ((k : Int) + 1)) rfl rfl (fun W hSw => ?_) Swc ?_
  · (try dsimp only at hSw); go_simp <;> with_reducible rfl
  try simp only [Act.put, l9a, l9z, l9s]
  refine wpAnyH_ready (rs := [12]) (by kernel_rfl) (by simp) ?_
  refine AllReadyH.cons rfl (fun K hK => ?_) AllReadyH.nil
  go_simp
  go_at_call 122
  refine (secIN_any _ n ((k : Int) + 1)).mono ?_
  rintro e wd ⟨rfl, hb8⟩
  rw [hsecr]
  have hb9wd : Below wa.heap.size wa wd := bthen Swc.2 hb8
  have Swd : (fun W : World => (W.cell? ⟨w.heap.size, 0, none⟩ = some (.int .i64 p.size) ∧ W.cell? ⟨w.heap.size, 1, none⟩ = some (.int .i64 p.owner) ∧ W.cell? ⟨w.heap.size, 2, none⟩ = some (.int .i64 p.site) ∧ W.cell? ⟨w.heap.size, 3, none⟩ = some (.int .i64 p.stage) ∧ W.cell? ⟨w.heap.size, 4, none⟩ = some (.int .i64 p.since) ∧ W.cell? ⟨w.heap.size, 5, none⟩ = some (.int .i64 p.ext) ∧ W.cell? ⟨w.heap.size, 6, none⟩ = some (.int .i64 p.ls) ∧ W.cell? ⟨w.heap.size, 7, none⟩ = some (.int .i64 p.ln) ∧ W.cell? ⟨w.heap.size, 8, none⟩ = some (.int .i64 p.lt) ∧ W.cell? ⟨w.heap.size, 9, none⟩ = some (.int .i64 p.lp) ∧ W.cell? ⟨w.heap.size, 10, none⟩ = some (.int .i64 p.lu) ∧ W.cell? ⟨w.heap.size, 11, none⟩ = some (.int .i64 p.who) ∧ W.cell? ⟨w.heap.size, 12, none⟩ = some (.int .i64 p.fee) ∧ W.cell? ⟨g, o, none⟩ = some (.int .i64 n.tm.keep) ∧ W.cell? ⟨g, o + 1, none⟩ = some (.int .i64 n.tm.free) ∧ W.cell? ⟨g, o + 2, none⟩ = some (.int .i64 n.tm.step) ∧ W.cell? ⟨g, o + 3, none⟩ = some (.int .i64 n.tm.rate) ∧ W.cell? ⟨g, o + 4, none⟩ = some (.int .i64 n.tm.cap) ∧ W.cell? ⟨g, o + 5, none⟩ = some (.int .i64 n.tm.longer) ∧ W.cell? ⟨g, o + 6, none⟩ = some (.int .i64 n.tm.price) ∧ W.cell? ⟨g, o + 7, none⟩ = some (.int .i64 n.tm.most) ∧ W.cell? ⟨g, o + 8, none⟩ = some (.int .i64 n.room) ∧ W.cell? ⟨g, o + 9, none⟩ = some (.int .i64 n.secret) ∧ W.cell? ⟨g, o + 10, none⟩ = some (.int .i64 n.now) ∧ W.cell? ⟨g, o + 11, none⟩ = some (.slice n.AS n.st.length n.cS) ∧ W.cell? ⟨g, o + 12, none⟩ = some (.slice n.AP n.pc.length n.cP) ∧ W.cell? ⟨g, o + 13, none⟩ = some (.slice n.AG n.gr.length n.cG) ∧ W.cell? ⟨g, o + 14, none⟩ = some (.slice n.AJ n.jr.length n.cJ)) ∧ Below wa.heap.size wa W) wd := ⟨⟨(bold hb9wd _ _ (by omega)).trans S0.1.1, (bold hb9wd _ _ (by omega)).trans S0.1.2.1, (bold hb9wd _ _ (by omega)).trans S0.1.2.2.1, (bold hb9wd _ _ (by omega)).trans S0.1.2.2.2.1, (bold hb9wd _ _ (by omega)).trans S0.1.2.2.2.2.1, (bold hb9wd _ _ (by omega)).trans S0.1.2.2.2.2.2.1, (bold hb9wd _ _ (by omega)).trans S0.1.2.2.2.2.2.2.1, (bold hb9wd _ _ (by omega)).trans S0.1.2.2.2.2.2.2.2.1, (bold hb9wd _ _ (by omega)).trans S0.1.2.2.2.2.2.2.2.2.1, (bold hb9wd _ _ (by omega)).trans S0.1.2.2.2.2.2.2.2.2.2.1, (bold hb9wd _ _ (by omega)).trans S0.1.2.2.2.2.2.2.2.2.2.2.1, (bold hb9wd _ _ (by omega)).trans S0.1.2.2.2.2.2.2.2.2.2.2.2.1, (bold hb9wd _ _ (by omega)).trans S0.1.2.2.2.2.2.2.2.2.2.2.2.2.1, (bold hb9wd _ _ (by omega)).trans S0.1.2.2.2.2.2.2.2.2.2.2.2.2.2.1, (bold hb9wd _ _ (by omega)).trans S0.1.2.2.2.2.2.2.2.2.2.2.2.2.2.2.1, (bold hb9wd _ _ (by omega)).trans S0.1.2.2.2.2.2.2.2.2.2.2.2.2.2.2.2.1, (bold hb9wd _ _ (by omega)).trans S0.1.2.2.2.2.2.2.2.2.2.2.2.2.2.2.2.2.1, (bold hb9wd _ _ (by omega)).trans S0.1.2.2.2.2.2.2.2.2.2.2.2.2.2.2.2.2.2.1, (bold hb9wd _ _ (by omega)).trans S0.1.2.2.2.2.2.2.2.2.2.2.2.2.2.2.2.2.2.2.1, (bold hb9wd _ _ (by omega)).trans S0.1.2.2.2.2.2.2.2.2.2.2.2.2.2.2.2.2.2.2.2.1, (bold hb9wd _ _ (by omega)).trans S0.1.2.2.2.2.2.2.2.2.2.2.2.2.2.2.2.2.2.2.2.2.1, (bold hb9wd _ _ (by omega)).trans S0.1.2.2.2.2.2.2.2.2.2.2.2.2.2.2.2.2.2.2.2.2.2.1, (bold hb9wd _ _ (by omega)).trans S0.1.2.2.2.2.2.2.2.2.2.2.2.2.2.2.2.2.2.2.2.2.2.2.1, (bold hb9wd _ _ (by omega)).trans S0.1.2.2.2.2.2.2.2.2.2.2.2.2.2.2.2.2.2.2.2.2.2.2.2.1, (bold hb9wd _ _ (by omega)).trans S0.1.2.2.2.2.2.2.2.2.2.2.2.2.2.2.2.2.2.2.2.2.2.2.2.2.1, (bold hb9wd _ _ (by omega)).trans S0.1.2.2.2.2.2.2.2.2.2.2.2.2.2.2.2.2.2.2.2.2.2.2.2.2.2.1, (bold hb9wd _ _ (by omega)).trans S0.1.2.2.2.2.2.2.2.2.2.2.2.2.2.2.2.2.2.2.2.2.2.2.2.2.2.2.1, (bold hb9wd _ _ (by omega)).trans S0.1.2.2.2.2.2.2.2.2.2.2.2.2.2.2.2.2.2.2.2.2.2.2.2.2.2.2.2⟩, hb9wd⟩
  clear hb8
  go_wp2_with fail
  refine hK.out _ _ Swd (fun _ => ?_)
  clear hK K
  try simp only [Act.put, l9a, l9z, l9s]
  refine tk9 (i := 13) (some 60) (.bool false) rfl rfl (fun W hSw => ?_) Swd ?_
  · (try dsimp only at hSw); go_simp <;> with_reducible rfl
  try simp only [Act.put, l9a, l9z, l9s]
  refine tk9 (i := 14) (some 61) (.bool false) rfl rfl (fun W hSw => ?_) Swd ?_
  · (try dsimp only at hSw); go_simp <;> with_reducible rfl
  try simp only [Act.put, l9a, l9z, l9s]
  refine wpAnyH_done (by kernel_rfl) ?_ _
  have hbreg : Below wa.heap.size wa wd := Swd.2
  clear S0 Swc hb9wc Swd hb9wd
  have hb := hbreg; clear hbreg
  have kk := bthen BB.out hb; clear BB; have BB := Lib.hid kk; clear kk
  have kk := HH.out.later hb; clear HH; have HH := Lib.hid kk; clear kk
  have kk := has_call K.out hb; clear K; have K := Lib.hid kk; clear kk
  have hswd2 := hb.size; clear hb
  have hsv2 := HSV.out
  rw [d1, d2, d3, hsecr, d4] at hsv2
  simp only [Bool.true_and] at hsv2
  have HS2 := Lib.hid hsv2; clear hsv2 hsecr HSV d1 d2 d3 d4 f4
  have q0 := has_cell K.out 0 rfl; have q1 := has_cell K.out 1 rfl; have q2 := has_cell K.out 2 rfl; have q3 := has_cell K.out 3 rfl; have q4 := has_cell K.out 4 rfl; have q5 := has_cell K.out 5 rfl; have q6 := has_cell K.out 6 rfl; have q7 := has_cell K.out 7 rfl; have q8 := has_cell K.out 8 rfl; have q9 := has_cell K.out 9 rfl; have q10 := has_cell K.out 10 rfl; have q11 := has_cell K.out 11 rfl; have q12 := has_cell K.out 12 rfl; have ql := has_lt K.out
  cases h5 : (p.stage == 4)
  · have e5 : (p.stage != 4) = true := by simpa using h5
    have hs3 := HS2.out
    rw [if_neg (by simpa using h5)] at hs3
    have HS3 := Lib.hid hs3; clear hs3 h5
    cases d1 : (p.who == 0) <;> cases d2 : (p.fee == 0)
    all_goals (go_wp2_with fail)
    all_goals (go_ret; exact ⟨rbool (by rw [HS3.out]; simp [d1, d2]), BB.out⟩)
  have e5 : (p.stage != 4) = false := by simpa using h5
  have hs3 := HS2.out
  rw [if_pos (by simpa using h5)] at hs3
  have HS3 := Lib.hid hs3; clear hs3 h5
  go_upto_region 10 with fail
  clear q0 q1 q2 q3 q4 q5 q6 q7 q8 q9 q10 q11 q12 ql
  have hw1 : IntKind.i64.wrap (n.tm.price * n.tm.most) = n.tm.price * n.tm.most := IntWalk.i64_in _ (by omega)
  have hw2 : IntKind.i64.wrap (n.tm.cap + n.tm.price * n.tm.most) = n.tm.cap + n.tm.price * n.tm.most := IntWalk.i64_in _ (by omega)
  have HW1 := Lib.hid hw1; have HW2 := Lib.hid hw2; clear hw1 hw2
  generalize hpm : n.tm.price * n.tm.most = pm at *
  cases d6 : perB p.who
  · skip
    have hlp := has_lt K.out; have hlg := HH.out.lt
    have pc0 := has_cell (has_drew K.out) 0 rfl; have pc1 := has_cell (has_drew K.out) 1 rfl; have pc2 := has_cell (has_drew K.out) 2 rfl; have pc3 := has_cell (has_drew K.out) 3 rfl; have pc4 := has_cell (has_drew K.out) 4 rfl; have pc5 := has_cell (has_drew K.out) 5 rfl; have pc6 := has_cell (has_drew K.out) 6 rfl; have pc7 := has_cell (has_drew K.out) 7 rfl; have pc8 := has_cell (has_drew K.out) 8 rfl; have pc9 := has_cell (has_drew K.out) 9 rfl; have pc10 := has_cell (has_drew K.out) 10 rfl; have pc11 := has_cell (has_drew K.out) 11 rfl; have pc12 := has_cell (has_drew K.out) 12 rfl
    have nc0 := (HH.out.later (Below.refl _ _).drew).c 0 _ rfl; have nc1 := (HH.out.later (Below.refl _ _).drew).c 1 _ rfl; have nc2 := (HH.out.later (Below.refl _ _).drew).c 2 _ rfl; have nc3 := (HH.out.later (Below.refl _ _).drew).c 3 _ rfl; have nc4 := (HH.out.later (Below.refl _ _).drew).c 4 _ rfl; have nc5 := (HH.out.later (Below.refl _ _).drew).c 5 _ rfl; have nc6 := (HH.out.later (Below.refl _ _).drew).c 6 _ rfl; have nc7 := (HH.out.later (Below.refl _ _).drew).c 7 _ rfl; have nc8 := (HH.out.later (Below.refl _ _).drew).c 8 _ rfl; have nc9 := (HH.out.later (Below.refl _ _).drew).c 9 _ rfl; have nc10 := (HH.out.later (Below.refl _ _).drew).c 10 _ rfl; have nc11 := (HH.out.later (Below.refl _ _).drew).c 11 _ rfl; have nc12 := (HH.out.later (Below.refl _ _).drew).c 12 _ rfl; have nc13 := (HH.out.later (Below.refl _ _).drew).c 13 _ rfl; have nc14 := (HH.out.later (Below.refl _ _).drew).c 14 _ rfl
    rw [Nat.add_zero] at nc0
    have S0 : (fun W : World => (W.cell? ⟨w.heap.size, 0, none⟩ = some (.int .i64 p.size) ∧ W.cell? ⟨w.heap.size, 1, none⟩ = some (.int .i64 p.owner) ∧ W.cell? ⟨w.heap.size, 2, none⟩ = some (.int .i64 p.site) ∧ W.cell? ⟨w.heap.size, 3, none⟩ = some (.int .i64 p.stage) ∧ W.cell? ⟨w.heap.size, 4, none⟩ = some (.int .i64 p.since) ∧ W.cell? ⟨w.heap.size, 5, none⟩ = some (.int .i64 p.ext) ∧ W.cell? ⟨w.heap.size, 6, none⟩ = some (.int .i64 p.ls) ∧ W.cell? ⟨w.heap.size, 7, none⟩ = some (.int .i64 p.ln) ∧ W.cell? ⟨w.heap.size, 8, none⟩ = some (.int .i64 p.lt) ∧ W.cell? ⟨w.heap.size, 9, none⟩ = some (.int .i64 p.lp) ∧ W.cell? ⟨w.heap.size, 10, none⟩ = some (.int .i64 p.lu) ∧ W.cell? ⟨w.heap.size, 11, none⟩ = some (.int .i64 p.who) ∧ W.cell? ⟨w.heap.size, 12, none⟩ = some (.int .i64 p.fee) ∧ W.cell? ⟨g, o, none⟩ = some (.int .i64 n.tm.keep) ∧ W.cell? ⟨g, o + 1, none⟩ = some (.int .i64 n.tm.free) ∧ W.cell? ⟨g, o + 2, none⟩ = some (.int .i64 n.tm.step) ∧ W.cell? ⟨g, o + 3, none⟩ = some (.int .i64 n.tm.rate) ∧ W.cell? ⟨g, o + 4, none⟩ = some (.int .i64 n.tm.cap) ∧ W.cell? ⟨g, o + 5, none⟩ = some (.int .i64 n.tm.longer) ∧ W.cell? ⟨g, o + 6, none⟩ = some (.int .i64 n.tm.price) ∧ W.cell? ⟨g, o + 7, none⟩ = some (.int .i64 n.tm.most) ∧ W.cell? ⟨g, o + 8, none⟩ = some (.int .i64 n.room) ∧ W.cell? ⟨g, o + 9, none⟩ = some (.int .i64 n.secret) ∧ W.cell? ⟨g, o + 10, none⟩ = some (.int .i64 n.now) ∧ W.cell? ⟨g, o + 11, none⟩ = some (.slice n.AS n.st.length n.cS) ∧ W.cell? ⟨g, o + 12, none⟩ = some (.slice n.AP n.pc.length n.cP) ∧ W.cell? ⟨g, o + 13, none⟩ = some (.slice n.AG n.gr.length n.cG) ∧ W.cell? ⟨g, o + 14, none⟩ = some (.slice n.AJ n.jr.length n.cJ)) ∧ Below wd.heap.size wd W) wd.drew := ⟨⟨pc0, pc1, pc2, pc3, pc4, pc5, pc6, pc7, pc8, pc9, pc10, pc11, pc12, nc0, nc1, nc2, nc3, nc4, nc5, nc6, nc7, nc8, nc9, nc10, nc11, nc12, nc13, nc14⟩, (Below.refl _ _).drew⟩
    clear pc0 pc1 pc2 pc3 pc4 pc5 pc6 pc7 pc8 pc9 pc10 pc11 pc12 nc0 nc1 nc2 nc3 nc4 nc5 nc6 nc7 nc8 nc9 nc10 nc11 nc12 nc13 nc14
    refine wp_region_held_drew (S := (fun W : World => (W.cell? ⟨w.heap.size, 0, none⟩ = some (.int .i64 p.size) ∧ W.cell? ⟨w.heap.size, 1, none⟩ = some (.int .i64 p.owner) ∧ W.cell? ⟨w.heap.size, 2, none⟩ = some (.int .i64 p.site) ∧ W.cell? ⟨w.heap.size, 3, none⟩ = some (.int .i64 p.stage) ∧ W.cell? ⟨w.heap.size, 4, none⟩ = some (.int .i64 p.since) ∧ W.cell? ⟨w.heap.size, 5, none⟩ = some (.int .i64 p.ext) ∧ W.cell? ⟨w.heap.size, 6, none⟩ = some (.int .i64 p.ls) ∧ W.cell? ⟨w.heap.size, 7, none⟩ = some (.int .i64 p.ln) ∧ W.cell? ⟨w.heap.size, 8, none⟩ = some (.int .i64 p.lt) ∧ W.cell? ⟨w.heap.size, 9, none⟩ = some (.int .i64 p.lp) ∧ W.cell? ⟨w.heap.size, 10, none⟩ = some (.int .i64 p.lu) ∧ W.cell? ⟨w.heap.size, 11, none⟩ = some (.int .i64 p.who) ∧ W.cell? ⟨w.heap.size, 12, none⟩ = some (.int .i64 p.fee) ∧ W.cell? ⟨g, o, none⟩ = some (.int .i64 n.tm.keep) ∧ W.cell? ⟨g, o + 1, none⟩ = some (.int .i64 n.tm.free) ∧ W.cell? ⟨g, o + 2, none⟩ = some (.int .i64 n.tm.step) ∧ W.cell? ⟨g, o + 3, none⟩ = some (.int .i64 n.tm.rate) ∧ W.cell? ⟨g, o + 4, none⟩ = some (.int .i64 n.tm.cap) ∧ W.cell? ⟨g, o + 5, none⟩ = some (.int .i64 n.tm.longer) ∧ W.cell? ⟨g, o + 6, none⟩ = some (.int .i64 n.tm.price) ∧ W.cell? ⟨g, o + 7, none⟩ = some (.int .i64 n.tm.most) ∧ W.cell? ⟨g, o + 8, none⟩ = some (.int .i64 n.room) ∧ W.cell? ⟨g, o + 9, none⟩ = some (.int .i64 n.secret) ∧ W.cell? ⟨g, o + 10, none⟩ = some (.int .i64 n.now) ∧ W.cell? ⟨g, o + 11, none⟩ = some (.slice n.AS n.st.length n.cS) ∧ W.cell? ⟨g, o + 12, none⟩ = some (.slice n.AP n.pc.length n.cP) ∧ W.cell? ⟨g, o + 13, none⟩ = some (.slice n.AG n.gr.length n.cG) ∧ W.cell? ⟨g, o + 14, none⟩ = some (.slice n.AJ n.jr.length n.cJ)) ∧ Below wd.heap.size wd W)) (by kernel_rfl) S0 (fun _ => ?_)
    refine tk9 (i := 0) (some 73) (.pointer (some ⟨w.heap.size, 11, none⟩)) rfl rfl (fun W hSw => ?_) S0 ?_
    · (try dsimp only at hSw); go_simp <;> with_reducible rfl
    try simp only [Act.put, l9a, l9z, l9s]
    refine tk9 (i := 1) (some 74) (.int .i64 p.who) rfl rfl (fun W hSw => ?_) S0 ?_
    · (try dsimp only at hSw); go_simp <;> with_reducible rfl
    try simp only [Act.put, l9a, l9z, l9s]
    refine wpAnyH_ready (rs := [2]) (by kernel_rfl) (by simp) ?_
    refine AllReadyH.cons rfl (fun K hK => ?_) AllReadyH.nil
    go_simp
    go_at_call 84
    refine (perI_any _ p.who).mono ?_
    rintro e wa ⟨rfl, hw8⟩; rw [hw8]; clear hw8 wa
    rw [d6]
    go_wp2_with fail
    refine hK.out _ _ S0 (fun _ => ?_)
    clear hK K
    try simp only [Act.put, l9a, l9z, l9s]
    refine tk9 (i := 3) (some 76) (.bool false) rfl rfl (fun W hSw => ?_) S0 ?_
    · (try dsimp only at hSw); go_simp <;> with_reducible rfl
    try simp only [Act.put, l9a, l9z, l9s]
    refine sk9 (i := 4) (some 77) rfl rfl S0 ?_
    try simp only [Act.put, l9a, l9z, l9s]
    refine sk9 (i := 5) (some 78) rfl rfl S0 ?_
    try simp only [Act.put, l9a, l9z, l9s]
    refine sk9 (i := 6) (some 79) rfl rfl S0 ?_
    try simp only [Act.put, l9a, l9z, l9s]
    refine tk9 (i := 7) (some 80) (.bool false) rfl rfl (fun W hSw => ?_) S0 ?_
    · (try dsimp only at hSw); go_simp <;> with_reducible rfl
    try simp only [Act.put, l9a, l9z, l9s]
    refine tk9 (i := 8) (some 81) (.bool false) rfl rfl (fun W hSw => ?_) S0 ?_
    · (try dsimp only at hSw); go_simp <;> with_reducible rfl
    try simp only [Act.put, l9a, l9z, l9s]
    refine sk9 (i := 9) (some 82) rfl rfl S0 ?_
    try simp only [Act.put, l9a, l9z, l9s]
    refine sk9 (i := 10) (some 83) rfl rfl S0 ?_
    try simp only [Act.put, l9a, l9z, l9s]
    refine sk9 (i := 11) (some 84) rfl rfl S0 ?_
    try simp only [Act.put, l9a, l9z, l9s]
    refine sk9 (i := 12) (some 85) rfl rfl S0 ?_
    try simp only [Act.put, l9a, l9z, l9s]
    refine sk9 (i := 13) (some 86) rfl rfl S0 ?_
    try simp only [Act.put, l9a, l9z, l9s]
    refine sk9 (i := 14) (some 87) rfl rfl S0 ?_
    try simp only [Act.put, l9a, l9z, l9s]
    refine sk9 (i := 15) (some 88) rfl rfl S0 ?_
    try simp only [Act.put, l9a, l9z, l9s]
    refine sk9 (i := 16) (some 89) rfl rfl S0 ?_
    try simp only [Act.put, l9a, l9z, l9s]
    refine sk9 (i := 17) (some 90) rfl rfl S0 ?_
    try simp only [Act.put, l9a, l9z, l9s]
    refine sk9 (i := 18) (some 91) rfl rfl S0 ?_
    try simp only [Act.put, l9a, l9z, l9s]
    refine sk9 (i := 19) (some 92) rfl rfl S0 ?_
    try simp only [Act.put, l9a, l9z, l9s]
    refine sk9 (i := 20) (some 93) rfl rfl S0 ?_
    try simp only [Act.put, l9a, l9z, l9s]
    refine sk9 (i := 21) (some 94) rfl rfl S0 ?_
    try simp only [Act.put, l9a, l9z, l9s]
    refine sk9 (i := 22) (some 95) rfl rfl S0 ?_
    try simp only [Act.put, l9a, l9z, l9s]
    refine sk9 (i := 23) (some 96) rfl rfl S0 ?_
    try simp only [Act.put, l9a, l9z, l9s]
    refine sk9 (i := 24) (some 97) rfl rfl S0 ?_
    try simp only [Act.put, l9a, l9z, l9s]
    refine sk9 (i := 25) (some 98) rfl rfl S0 ?_
    try simp only [Act.put, l9a, l9z, l9s]
    refine sk9 (i := 26) (some 99) rfl rfl S0 ?_
    try simp only [Act.put, l9a, l9z, l9s]
    refine sk9 (i := 27) (some 100) rfl rfl S0 ?_
    try simp only [Act.put, l9a, l9z, l9s]
    refine sk9 (i := 28) (some 101) rfl rfl S0 ?_
    try simp only [Act.put, l9a, l9z, l9s]
    refine tk9 (i := 29) (some 102) (.bool false) rfl rfl (fun W hSw => ?_) S0 ?_
    · (try dsimp only at hSw); go_simp <;> with_reducible rfl
    try simp only [Act.put, l9a, l9z, l9s]
    refine tk9 (i := 30) (some 4) (.bool false) rfl rfl (fun W hSw => ?_) S0 ?_
    · (try dsimp only at hSw); go_simp <;> with_reducible rfl
    try simp only [Act.put, l9a, l9z, l9s]
    refine wpAnyH_done (by kernel_rfl) ?_ _
    have hbreg : Below wd.heap.size wd wd.drew := S0.2
    clear S0
    go_wp2_with fail
    go_ret
    exact ⟨rbool (by rw [HS3.out]; simp [d6]), bthen BB.out hbreg⟩
  by_cases c7 : 0 ≤ p.fee
  rotate_left
  · have d7 : inR p.fee 0 (n.tm.cap + pm) = false := by unfold inR; simp; omega
    have hlp := has_lt K.out; have hlg := HH.out.lt
    have pc0 := has_cell (has_drew K.out) 0 rfl; have pc1 := has_cell (has_drew K.out) 1 rfl; have pc2 := has_cell (has_drew K.out) 2 rfl; have pc3 := has_cell (has_drew K.out) 3 rfl; have pc4 := has_cell (has_drew K.out) 4 rfl; have pc5 := has_cell (has_drew K.out) 5 rfl; have pc6 := has_cell (has_drew K.out) 6 rfl; have pc7 := has_cell (has_drew K.out) 7 rfl; have pc8 := has_cell (has_drew K.out) 8 rfl; have pc9 := has_cell (has_drew K.out) 9 rfl; have pc10 := has_cell (has_drew K.out) 10 rfl; have pc11 := has_cell (has_drew K.out) 11 rfl; have pc12 := has_cell (has_drew K.out) 12 rfl
    have nc0 := (HH.out.later (Below.refl _ _).drew).c 0 _ rfl; have nc1 := (HH.out.later (Below.refl _ _).drew).c 1 _ rfl; have nc2 := (HH.out.later (Below.refl _ _).drew).c 2 _ rfl; have nc3 := (HH.out.later (Below.refl _ _).drew).c 3 _ rfl; have nc4 := (HH.out.later (Below.refl _ _).drew).c 4 _ rfl; have nc5 := (HH.out.later (Below.refl _ _).drew).c 5 _ rfl; have nc6 := (HH.out.later (Below.refl _ _).drew).c 6 _ rfl; have nc7 := (HH.out.later (Below.refl _ _).drew).c 7 _ rfl; have nc8 := (HH.out.later (Below.refl _ _).drew).c 8 _ rfl; have nc9 := (HH.out.later (Below.refl _ _).drew).c 9 _ rfl; have nc10 := (HH.out.later (Below.refl _ _).drew).c 10 _ rfl; have nc11 := (HH.out.later (Below.refl _ _).drew).c 11 _ rfl; have nc12 := (HH.out.later (Below.refl _ _).drew).c 12 _ rfl; have nc13 := (HH.out.later (Below.refl _ _).drew).c 13 _ rfl; have nc14 := (HH.out.later (Below.refl _ _).drew).c 14 _ rfl
    rw [Nat.add_zero] at nc0
    have S0 : (fun W : World => (W.cell? ⟨w.heap.size, 0, none⟩ = some (.int .i64 p.size) ∧ W.cell? ⟨w.heap.size, 1, none⟩ = some (.int .i64 p.owner) ∧ W.cell? ⟨w.heap.size, 2, none⟩ = some (.int .i64 p.site) ∧ W.cell? ⟨w.heap.size, 3, none⟩ = some (.int .i64 p.stage) ∧ W.cell? ⟨w.heap.size, 4, none⟩ = some (.int .i64 p.since) ∧ W.cell? ⟨w.heap.size, 5, none⟩ = some (.int .i64 p.ext) ∧ W.cell? ⟨w.heap.size, 6, none⟩ = some (.int .i64 p.ls) ∧ W.cell? ⟨w.heap.size, 7, none⟩ = some (.int .i64 p.ln) ∧ W.cell? ⟨w.heap.size, 8, none⟩ = some (.int .i64 p.lt) ∧ W.cell? ⟨w.heap.size, 9, none⟩ = some (.int .i64 p.lp) ∧ W.cell? ⟨w.heap.size, 10, none⟩ = some (.int .i64 p.lu) ∧ W.cell? ⟨w.heap.size, 11, none⟩ = some (.int .i64 p.who) ∧ W.cell? ⟨w.heap.size, 12, none⟩ = some (.int .i64 p.fee) ∧ W.cell? ⟨g, o, none⟩ = some (.int .i64 n.tm.keep) ∧ W.cell? ⟨g, o + 1, none⟩ = some (.int .i64 n.tm.free) ∧ W.cell? ⟨g, o + 2, none⟩ = some (.int .i64 n.tm.step) ∧ W.cell? ⟨g, o + 3, none⟩ = some (.int .i64 n.tm.rate) ∧ W.cell? ⟨g, o + 4, none⟩ = some (.int .i64 n.tm.cap) ∧ W.cell? ⟨g, o + 5, none⟩ = some (.int .i64 n.tm.longer) ∧ W.cell? ⟨g, o + 6, none⟩ = some (.int .i64 n.tm.price) ∧ W.cell? ⟨g, o + 7, none⟩ = some (.int .i64 n.tm.most) ∧ W.cell? ⟨g, o + 8, none⟩ = some (.int .i64 n.room) ∧ W.cell? ⟨g, o + 9, none⟩ = some (.int .i64 n.secret) ∧ W.cell? ⟨g, o + 10, none⟩ = some (.int .i64 n.now) ∧ W.cell? ⟨g, o + 11, none⟩ = some (.slice n.AS n.st.length n.cS) ∧ W.cell? ⟨g, o + 12, none⟩ = some (.slice n.AP n.pc.length n.cP) ∧ W.cell? ⟨g, o + 13, none⟩ = some (.slice n.AG n.gr.length n.cG) ∧ W.cell? ⟨g, o + 14, none⟩ = some (.slice n.AJ n.jr.length n.cJ)) ∧ Below wd.heap.size wd W) wd.drew := ⟨⟨pc0, pc1, pc2, pc3, pc4, pc5, pc6, pc7, pc8, pc9, pc10, pc11, pc12, nc0, nc1, nc2, nc3, nc4, nc5, nc6, nc7, nc8, nc9, nc10, nc11, nc12, nc13, nc14⟩, (Below.refl _ _).drew⟩
    clear pc0 pc1 pc2 pc3 pc4 pc5 pc6 pc7 pc8 pc9 pc10 pc11 pc12 nc0 nc1 nc2 nc3 nc4 nc5 nc6 nc7 nc8 nc9 nc10 nc11 nc12 nc13 nc14
    refine wp_region_held_drew (S := (fun W : World => (W.cell? ⟨w.heap.size, 0, none⟩ = some (.int .i64 p.size) ∧ W.cell? ⟨w.heap.size, 1, none⟩ = some (.int .i64 p.owner) ∧ W.cell? ⟨w.heap.size, 2, none⟩ = some (.int .i64 p.site) ∧ W.cell? ⟨w.heap.size, 3, none⟩ = some (.int .i64 p.stage) ∧ W.cell? ⟨w.heap.size, 4, none⟩ = some (.int .i64 p.since) ∧ W.cell? ⟨w.heap.size, 5, none⟩ = some (.int .i64 p.ext) ∧ W.cell? ⟨w.heap.size, 6, none⟩ = some (.int .i64 p.ls) ∧ W.cell? ⟨w.heap.size, 7, none⟩ = some (.int .i64 p.ln) ∧ W.cell? ⟨w.heap.size, 8, none⟩ = some (.int .i64 p.lt) ∧ W.cell? ⟨w.heap.size, 9, none⟩ = some (.int .i64 p.lp) ∧ W.cell? ⟨w.heap.size, 10, none⟩ = some (.int .i64 p.lu) ∧ W.cell? ⟨w.heap.size, 11, none⟩ = some (.int .i64 p.who) ∧ W.cell? ⟨w.heap.size, 12, none⟩ = some (.int .i64 p.fee) ∧ W.cell? ⟨g, o, none⟩ = some (.int .i64 n.tm.keep) ∧ W.cell? ⟨g, o + 1, none⟩ = some (.int .i64 n.tm.free) ∧ W.cell? ⟨g, o + 2, none⟩ = some (.int .i64 n.tm.step) ∧ W.cell? ⟨g, o + 3, none⟩ = some (.int .i64 n.tm.rate) ∧ W.cell? ⟨g, o + 4, none⟩ = some (.int .i64 n.tm.cap) ∧ W.cell? ⟨g, o + 5, none⟩ = some (.int .i64 n.tm.longer) ∧ W.cell? ⟨g, o + 6, none⟩ = some (.int .i64 n.tm.price) ∧ W.cell? ⟨g, o + 7, none⟩ = some (.int .i64 n.tm.most) ∧ W.cell? ⟨g, o + 8, none⟩ = some (.int .i64 n.room) ∧ W.cell? ⟨g, o + 9, none⟩ = some (.int .i64 n.secret) ∧ W.cell? ⟨g, o + 10, none⟩ = some (.int .i64 n.now) ∧ W.cell? ⟨g, o + 11, none⟩ = some (.slice n.AS n.st.length n.cS) ∧ W.cell? ⟨g, o + 12, none⟩ = some (.slice n.AP n.pc.length n.cP) ∧ W.cell? ⟨g, o + 13, none⟩ = some (.slice n.AG n.gr.length n.cG) ∧ W.cell? ⟨g, o + 14, none⟩ = some (.slice n.AJ n.jr.length n.cJ)) ∧ Below wd.heap.size wd W)) (by kernel_rfl) S0 (fun _ => ?_)
    refine tk9 (i := 0) (some 73) (.pointer (some ⟨w.heap.size, 11, none⟩)) rfl rfl (fun W hSw => ?_) S0 ?_
    · (try dsimp only at hSw); go_simp <;> with_reducible rfl
    try simp only [Act.put, l9a, l9z, l9s]
    refine tk9 (i := 1) (some 74) (.int .i64 p.who) rfl rfl (fun W hSw => ?_) S0 ?_
    · (try dsimp only at hSw); go_simp <;> with_reducible rfl
    try simp only [Act.put, l9a, l9z, l9s]
    refine wpAnyH_ready (rs := [2]) (by kernel_rfl) (by simp) ?_
    refine AllReadyH.cons rfl (fun K hK => ?_) AllReadyH.nil
    go_simp
    go_at_call 84
    refine (perI_any _ p.who).mono ?_
    rintro e wa ⟨rfl, hw8⟩; rw [hw8]; clear hw8 wa
    rw [d6]
    go_wp2_with fail
    refine hK.out _ _ S0 (fun _ => ?_)
    clear hK K
    try simp only [Act.put, l9a, l9z, l9s]
    refine tk9 (i := 3) (some 76) (.bool true) rfl rfl (fun W hSw => ?_) S0 ?_
    · (try dsimp only at hSw); go_simp <;> with_reducible rfl
    try simp only [Act.put, l9a, l9z, l9s]
    refine tk9 (i := 4) (some 77) (.pointer (some ⟨w.heap.size, 12, none⟩)) rfl rfl (fun W hSw => ?_) S0 ?_
    · (try dsimp only at hSw); go_simp <;> with_reducible rfl
    try simp only [Act.put, l9a, l9z, l9s]
    refine tk9 (i := 5) (some 78) (.int .i64 p.fee) rfl rfl (fun W hSw => ?_) S0 ?_
    · (try dsimp only at hSw); go_simp <;> with_reducible rfl
    try simp only [Act.put, l9a, l9z, l9s]
    refine tk9 (i := 6) (some 79) (.bool false) rfl rfl (fun W hSw => ?_) S0 ?_
    · (try dsimp only at hSw); go_simp <;> with_reducible rfl
    try simp only [Act.put, l9a, l9z, l9s]
    refine tk9 (i := 7) (some 80) (.bool false) rfl rfl (fun W hSw => ?_) S0 ?_
    · (try dsimp only at hSw); go_simp <;> with_reducible rfl
    try simp only [Act.put, l9a, l9z, l9s]
    refine tk9 (i := 8) (some 81) (.bool false) rfl rfl (fun W hSw => ?_) S0 ?_
    · (try dsimp only at hSw); go_simp <;> with_reducible rfl
    try simp only [Act.put, l9a, l9z, l9s]
    refine sk9 (i := 9) (some 82) rfl rfl S0 ?_
    try simp only [Act.put, l9a, l9z, l9s]
    refine sk9 (i := 10) (some 83) rfl rfl S0 ?_
    try simp only [Act.put, l9a, l9z, l9s]
    refine sk9 (i := 11) (some 84) rfl rfl S0 ?_
    try simp only [Act.put, l9a, l9z, l9s]
    refine sk9 (i := 12) (some 85) rfl rfl S0 ?_
    try simp only [Act.put, l9a, l9z, l9s]
    refine sk9 (i := 13) (some 86) rfl rfl S0 ?_
    try simp only [Act.put, l9a, l9z, l9s]
    refine sk9 (i := 14) (some 87) rfl rfl S0 ?_
    try simp only [Act.put, l9a, l9z, l9s]
    refine sk9 (i := 15) (some 88) rfl rfl S0 ?_
    try simp only [Act.put, l9a, l9z, l9s]
    refine sk9 (i := 16) (some 89) rfl rfl S0 ?_
    try simp only [Act.put, l9a, l9z, l9s]
    refine sk9 (i := 17) (some 90) rfl rfl S0 ?_
    try simp only [Act.put, l9a, l9z, l9s]
    refine sk9 (i := 18) (some 91) rfl rfl S0 ?_
    try simp only [Act.put, l9a, l9z, l9s]
    refine sk9 (i := 19) (some 92) rfl rfl S0 ?_
    try simp only [Act.put, l9a, l9z, l9s]
    refine sk9 (i := 20) (some 93) rfl rfl S0 ?_
    try simp only [Act.put, l9a, l9z, l9s]
    refine sk9 (i := 21) (some 94) rfl rfl S0 ?_
    try simp only [Act.put, l9a, l9z, l9s]
    refine sk9 (i := 22) (some 95) rfl rfl S0 ?_
    try simp only [Act.put, l9a, l9z, l9s]
    refine sk9 (i := 23) (some 96) rfl rfl S0 ?_
    try simp only [Act.put, l9a, l9z, l9s]
    refine sk9 (i := 24) (some 97) rfl rfl S0 ?_
    try simp only [Act.put, l9a, l9z, l9s]
    refine sk9 (i := 25) (some 98) rfl rfl S0 ?_
    try simp only [Act.put, l9a, l9z, l9s]
    refine sk9 (i := 26) (some 99) rfl rfl S0 ?_
    try simp only [Act.put, l9a, l9z, l9s]
    refine sk9 (i := 27) (some 100) rfl rfl S0 ?_
    try simp only [Act.put, l9a, l9z, l9s]
    refine sk9 (i := 28) (some 101) rfl rfl S0 ?_
    try simp only [Act.put, l9a, l9z, l9s]
    refine tk9 (i := 29) (some 102) (.bool false) rfl rfl (fun W hSw => ?_) S0 ?_
    · (try dsimp only at hSw); go_simp <;> with_reducible rfl
    try simp only [Act.put, l9a, l9z, l9s]
    refine tk9 (i := 30) (some 4) (.bool false) rfl rfl (fun W hSw => ?_) S0 ?_
    · (try dsimp only at hSw); go_simp <;> with_reducible rfl
    try simp only [Act.put, l9a, l9z, l9s]
    refine wpAnyH_done (by kernel_rfl) ?_ _
    have hbreg : Below wd.heap.size wd wd.drew := S0.2
    clear S0
    go_wp2_with fail
    go_ret
    exact ⟨rbool (by rw [HS3.out]; simp [d6, d7]), bthen BB.out hbreg⟩
  by_cases c8 : p.fee ≤ n.tm.cap + pm
  · have d7 : inR p.fee 0 (n.tm.cap + pm) = true := inR_iff.2 ⟨by omega, by omega⟩
    have hlp := has_lt K.out; have hlg := HH.out.lt
    have pc0 := has_cell (has_drew K.out) 0 rfl; have pc1 := has_cell (has_drew K.out) 1 rfl; have pc2 := has_cell (has_drew K.out) 2 rfl; have pc3 := has_cell (has_drew K.out) 3 rfl; have pc4 := has_cell (has_drew K.out) 4 rfl; have pc5 := has_cell (has_drew K.out) 5 rfl; have pc6 := has_cell (has_drew K.out) 6 rfl; have pc7 := has_cell (has_drew K.out) 7 rfl; have pc8 := has_cell (has_drew K.out) 8 rfl; have pc9 := has_cell (has_drew K.out) 9 rfl; have pc10 := has_cell (has_drew K.out) 10 rfl; have pc11 := has_cell (has_drew K.out) 11 rfl; have pc12 := has_cell (has_drew K.out) 12 rfl
    have nc0 := (HH.out.later (Below.refl _ _).drew).c 0 _ rfl; have nc1 := (HH.out.later (Below.refl _ _).drew).c 1 _ rfl; have nc2 := (HH.out.later (Below.refl _ _).drew).c 2 _ rfl; have nc3 := (HH.out.later (Below.refl _ _).drew).c 3 _ rfl; have nc4 := (HH.out.later (Below.refl _ _).drew).c 4 _ rfl; have nc5 := (HH.out.later (Below.refl _ _).drew).c 5 _ rfl; have nc6 := (HH.out.later (Below.refl _ _).drew).c 6 _ rfl; have nc7 := (HH.out.later (Below.refl _ _).drew).c 7 _ rfl; have nc8 := (HH.out.later (Below.refl _ _).drew).c 8 _ rfl; have nc9 := (HH.out.later (Below.refl _ _).drew).c 9 _ rfl; have nc10 := (HH.out.later (Below.refl _ _).drew).c 10 _ rfl; have nc11 := (HH.out.later (Below.refl _ _).drew).c 11 _ rfl; have nc12 := (HH.out.later (Below.refl _ _).drew).c 12 _ rfl; have nc13 := (HH.out.later (Below.refl _ _).drew).c 13 _ rfl; have nc14 := (HH.out.later (Below.refl _ _).drew).c 14 _ rfl
    rw [Nat.add_zero] at nc0
    have S0 : (fun W : World => (W.cell? ⟨w.heap.size, 0, none⟩ = some (.int .i64 p.size) ∧ W.cell? ⟨w.heap.size, 1, none⟩ = some (.int .i64 p.owner) ∧ W.cell? ⟨w.heap.size, 2, none⟩ = some (.int .i64 p.site) ∧ W.cell? ⟨w.heap.size, 3, none⟩ = some (.int .i64 p.stage) ∧ W.cell? ⟨w.heap.size, 4, none⟩ = some (.int .i64 p.since) ∧ W.cell? ⟨w.heap.size, 5, none⟩ = some (.int .i64 p.ext) ∧ W.cell? ⟨w.heap.size, 6, none⟩ = some (.int .i64 p.ls) ∧ W.cell? ⟨w.heap.size, 7, none⟩ = some (.int .i64 p.ln) ∧ W.cell? ⟨w.heap.size, 8, none⟩ = some (.int .i64 p.lt) ∧ W.cell? ⟨w.heap.size, 9, none⟩ = some (.int .i64 p.lp) ∧ W.cell? ⟨w.heap.size, 10, none⟩ = some (.int .i64 p.lu) ∧ W.cell? ⟨w.heap.size, 11, none⟩ = some (.int .i64 p.who) ∧ W.cell? ⟨w.heap.size, 12, none⟩ = some (.int .i64 p.fee) ∧ W.cell? ⟨g, o, none⟩ = some (.int .i64 n.tm.keep) ∧ W.cell? ⟨g, o + 1, none⟩ = some (.int .i64 n.tm.free) ∧ W.cell? ⟨g, o + 2, none⟩ = some (.int .i64 n.tm.step) ∧ W.cell? ⟨g, o + 3, none⟩ = some (.int .i64 n.tm.rate) ∧ W.cell? ⟨g, o + 4, none⟩ = some (.int .i64 n.tm.cap) ∧ W.cell? ⟨g, o + 5, none⟩ = some (.int .i64 n.tm.longer) ∧ W.cell? ⟨g, o + 6, none⟩ = some (.int .i64 n.tm.price) ∧ W.cell? ⟨g, o + 7, none⟩ = some (.int .i64 n.tm.most) ∧ W.cell? ⟨g, o + 8, none⟩ = some (.int .i64 n.room) ∧ W.cell? ⟨g, o + 9, none⟩ = some (.int .i64 n.secret) ∧ W.cell? ⟨g, o + 10, none⟩ = some (.int .i64 n.now) ∧ W.cell? ⟨g, o + 11, none⟩ = some (.slice n.AS n.st.length n.cS) ∧ W.cell? ⟨g, o + 12, none⟩ = some (.slice n.AP n.pc.length n.cP) ∧ W.cell? ⟨g, o + 13, none⟩ = some (.slice n.AG n.gr.length n.cG) ∧ W.cell? ⟨g, o + 14, none⟩ = some (.slice n.AJ n.jr.length n.cJ)) ∧ Below wd.heap.size wd W) wd.drew := ⟨⟨pc0, pc1, pc2, pc3, pc4, pc5, pc6, pc7, pc8, pc9, pc10, pc11, pc12, nc0, nc1, nc2, nc3, nc4, nc5, nc6, nc7, nc8, nc9, nc10, nc11, nc12, nc13, nc14⟩, (Below.refl _ _).drew⟩
    clear pc0 pc1 pc2 pc3 pc4 pc5 pc6 pc7 pc8 pc9 pc10 pc11 pc12 nc0 nc1 nc2 nc3 nc4 nc5 nc6 nc7 nc8 nc9 nc10 nc11 nc12 nc13 nc14
    refine wp_region_held_drew (S := (fun W : World => (W.cell? ⟨w.heap.size, 0, none⟩ = some (.int .i64 p.size) ∧ W.cell? ⟨w.heap.size, 1, none⟩ = some (.int .i64 p.owner) ∧ W.cell? ⟨w.heap.size, 2, none⟩ = some (.int .i64 p.site) ∧ W.cell? ⟨w.heap.size, 3, none⟩ = some (.int .i64 p.stage) ∧ W.cell? ⟨w.heap.size, 4, none⟩ = some (.int .i64 p.since) ∧ W.cell? ⟨w.heap.size, 5, none⟩ = some (.int .i64 p.ext) ∧ W.cell? ⟨w.heap.size, 6, none⟩ = some (.int .i64 p.ls) ∧ W.cell? ⟨w.heap.size, 7, none⟩ = some (.int .i64 p.ln) ∧ W.cell? ⟨w.heap.size, 8, none⟩ = some (.int .i64 p.lt) ∧ W.cell? ⟨w.heap.size, 9, none⟩ = some (.int .i64 p.lp) ∧ W.cell? ⟨w.heap.size, 10, none⟩ = some (.int .i64 p.lu) ∧ W.cell? ⟨w.heap.size, 11, none⟩ = some (.int .i64 p.who) ∧ W.cell? ⟨w.heap.size, 12, none⟩ = some (.int .i64 p.fee) ∧ W.cell? ⟨g, o, none⟩ = some (.int .i64 n.tm.keep) ∧ W.cell? ⟨g, o + 1, none⟩ = some (.int .i64 n.tm.free) ∧ W.cell? ⟨g, o + 2, none⟩ = some (.int .i64 n.tm.step) ∧ W.cell? ⟨g, o + 3, none⟩ = some (.int .i64 n.tm.rate) ∧ W.cell? ⟨g, o + 4, none⟩ = some (.int .i64 n.tm.cap) ∧ W.cell? ⟨g, o + 5, none⟩ = some (.int .i64 n.tm.longer) ∧ W.cell? ⟨g, o + 6, none⟩ = some (.int .i64 n.tm.price) ∧ W.cell? ⟨g, o + 7, none⟩ = some (.int .i64 n.tm.most) ∧ W.cell? ⟨g, o + 8, none⟩ = some (.int .i64 n.room) ∧ W.cell? ⟨g, o + 9, none⟩ = some (.int .i64 n.secret) ∧ W.cell? ⟨g, o + 10, none⟩ = some (.int .i64 n.now) ∧ W.cell? ⟨g, o + 11, none⟩ = some (.slice n.AS n.st.length n.cS) ∧ W.cell? ⟨g, o + 12, none⟩ = some (.slice n.AP n.pc.length n.cP) ∧ W.cell? ⟨g, o + 13, none⟩ = some (.slice n.AG n.gr.length n.cG) ∧ W.cell? ⟨g, o + 14, none⟩ = some (.slice n.AJ n.jr.length n.cJ)) ∧ Below wd.heap.size wd W)) (by kernel_rfl) S0 (fun _ => ?_)
    refine tk9 (i := 0) (some 73) (.pointer (some ⟨w.heap.size, 11, none⟩)) rfl rfl (fun W hSw => ?_) S0 ?_
    · (try dsimp only at hSw); go_simp <;> with_reducible rfl
    try simp only [Act.put, l9a, l9z, l9s]
    refine tk9 (i := 1) (some 74) (.int .i64 p.who) rfl rfl (fun W hSw => ?_) S0 ?_
    · (try dsimp only at hSw); go_simp <;> with_reducible rfl
    try simp only [Act.put, l9a, l9z, l9s]
    refine wpAnyH_ready (rs := [2]) (by kernel_rfl) (by simp) ?_
    refine AllReadyH.cons rfl (fun K hK => ?_) AllReadyH.nil
    go_simp
    go_at_call 84
    refine (perI_any _ p.who).mono ?_
    rintro e wa ⟨rfl, hw8⟩; rw [hw8]; clear hw8 wa
    rw [d6]
    go_wp2_with fail
    refine hK.out _ _ S0 (fun _ => ?_)
    clear hK K
    try simp only [Act.put, l9a, l9z, l9s]
    refine tk9 (i := 3) (some 76) (.bool true) rfl rfl (fun W hSw => ?_) S0 ?_
    · (try dsimp only at hSw); go_simp <;> with_reducible rfl
    try simp only [Act.put, l9a, l9z, l9s]
    refine tk9 (i := 4) (some 77) (.pointer (some ⟨w.heap.size, 12, none⟩)) rfl rfl (fun W hSw => ?_) S0 ?_
    · (try dsimp only at hSw); go_simp <;> with_reducible rfl
    try simp only [Act.put, l9a, l9z, l9s]
    refine tk9 (i := 5) (some 78) (.int .i64 p.fee) rfl rfl (fun W hSw => ?_) S0 ?_
    · (try dsimp only at hSw); go_simp <;> with_reducible rfl
    try simp only [Act.put, l9a, l9z, l9s]
    refine tk9 (i := 6) (some 79) (.bool true) rfl rfl (fun W hSw => ?_) S0 ?_
    · (try dsimp only at hSw); go_simp <;> with_reducible rfl
    try simp only [Act.put, l9a, l9z, l9s]
    refine tk9 (i := 7) (some 80) (.bool true) rfl rfl (fun W hSw => ?_) S0 ?_
    · (try dsimp only at hSw); go_simp <;> with_reducible rfl
    try simp only [Act.put, l9a, l9z, l9s]
    refine tk9 (i := 8) (some 81) (.bool true) rfl rfl (fun W hSw => ?_) S0 ?_
    · (try dsimp only at hSw); go_simp <;> with_reducible rfl
    try simp only [Act.put, l9a, l9z, l9s]
    refine tk9 (i := 9) (some 82) (.pointer (some ⟨w.heap.size, 12, none⟩)) rfl rfl (fun W hSw => ?_) S0 ?_
    · (try dsimp only at hSw); go_simp <;> with_reducible rfl
    try simp only [Act.put, l9a, l9z, l9s]
    refine tk9 (i := 10) (some 83) (.int .i64 p.fee) rfl rfl (fun W hSw => ?_) S0 ?_
    · (try dsimp only at hSw); go_simp <;> with_reducible rfl
    try simp only [Act.put, l9a, l9z, l9s]
    refine tk9 (i := 11) (some 84) (.pointer (some ⟨g, o, none⟩)) rfl rfl (fun W hSw => ?_) S0 ?_
    · (try dsimp only at hSw); go_simp <;> with_reducible rfl
    try simp only [Act.put, l9a, l9z, l9s]
    refine tk9 (i := 12) (some 85) (.pointer (some ⟨g, o, none⟩)) rfl rfl (fun W hSw => ?_) S0 ?_
    · (try dsimp only at hSw); go_simp <;> with_reducible rfl
    try simp only [Act.put, l9a, l9z, l9s]
    refine tk9 (i := 13) (some 86) (.pointer (some ⟨g, o, none⟩)) rfl rfl (fun W hSw => ?_) S0 ?_
    · (try dsimp only at hSw); go_simp <;> with_reducible rfl
    try simp only [Act.put, l9a, l9z, l9s]
    refine tk9 (i := 14) (some 87) (.pointer (some ⟨g, o + 4, none⟩)) rfl rfl (fun W hSw => ?_) S0 ?_
    · (try dsimp only at hSw); go_simp <;> with_reducible rfl
    try simp only [Act.put, l9a, l9z, l9s]
    refine tk9 (i := 15) (some 88) (.int .i64 n.tm.cap) rfl rfl (fun W hSw => ?_) S0 ?_
    · (try dsimp only at hSw); go_simp <;> with_reducible rfl
    try simp only [Act.put, l9a, l9z, l9s]
    refine tk9 (i := 16) (some 89) (.pointer (some ⟨g, o, none⟩)) rfl rfl (fun W hSw => ?_) S0 ?_
    · (try dsimp only at hSw); go_simp <;> with_reducible rfl
    try simp only [Act.put, l9a, l9z, l9s]
    refine tk9 (i := 17) (some 90) (.pointer (some ⟨g, o, none⟩)) rfl rfl (fun W hSw => ?_) S0 ?_
    · (try dsimp only at hSw); go_simp <;> with_reducible rfl
    try simp only [Act.put, l9a, l9z, l9s]
    refine tk9 (i := 18) (some 91) (.pointer (some ⟨g, o, none⟩)) rfl rfl (fun W hSw => ?_) S0 ?_
    · (try dsimp only at hSw); go_simp <;> with_reducible rfl
    try simp only [Act.put, l9a, l9z, l9s]
    refine tk9 (i := 19) (some 92) (.pointer (some ⟨g, o + 6, none⟩)) rfl rfl (fun W hSw => ?_) S0 ?_
    · (try dsimp only at hSw); go_simp <;> with_reducible rfl
    try simp only [Act.put, l9a, l9z, l9s]
    refine tk9 (i := 20) (some 93) (.int .i64 n.tm.price) rfl rfl (fun W hSw => ?_) S0 ?_
    · (try dsimp only at hSw); go_simp <;> with_reducible rfl
    try simp only [Act.put, l9a, l9z, l9s]
    refine tk9 (i := 21) (some 94) (.pointer (some ⟨g, o, none⟩)) rfl rfl (fun W hSw => ?_) S0 ?_
    · (try dsimp only at hSw); go_simp <;> with_reducible rfl
    try simp only [Act.put, l9a, l9z, l9s]
    refine tk9 (i := 22) (some 95) (.pointer (some ⟨g, o, none⟩)) rfl rfl (fun W hSw => ?_) S0 ?_
    · (try dsimp only at hSw); go_simp <;> with_reducible rfl
    try simp only [Act.put, l9a, l9z, l9s]
    refine tk9 (i := 23) (some 96) (.pointer (some ⟨g, o, none⟩)) rfl rfl (fun W hSw => ?_) S0 ?_
    · (try dsimp only at hSw); go_simp <;> with_reducible rfl
    try simp only [Act.put, l9a, l9z, l9s]
    refine tk9 (i := 24) (some 97) (.pointer (some ⟨g, o + 7, none⟩)) rfl rfl (fun W hSw => ?_) S0 ?_
    · (try dsimp only at hSw); go_simp <;> with_reducible rfl
    try simp only [Act.put, l9a, l9z, l9s]
    refine tk9 (i := 25) (some 98) (.int .i64 n.tm.most) rfl rfl (fun W hSw => ?_) S0 ?_
    · (try dsimp only at hSw); go_simp <;> with_reducible rfl
    try simp only [Act.put, l9a, l9z, l9s]
    refine tk9 (i := 26) (some 99) (.int .i64 pm) rfl rfl (fun W hSw => ?_) S0 ?_
    · (try dsimp only at hSw); go_simp <;> first | with_reducible rfl | exact HW1.out
    try simp only [Act.put, l9a, l9z, l9s]
    refine tk9 (i := 27) (some 100) (.int .i64 (n.tm.cap + pm)) rfl rfl (fun W hSw => ?_) S0 ?_
    · (try dsimp only at hSw); go_simp <;> first | with_reducible rfl | exact HW2.out
    try simp only [Act.put, l9a, l9z, l9s]
    refine tk9 (i := 28) (some 101) (.bool true) rfl rfl (fun W hSw => ?_) S0 ?_
    · (try dsimp only at hSw); go_simp <;> with_reducible rfl
    try simp only [Act.put, l9a, l9z, l9s]
    refine tk9 (i := 29) (some 102) (.bool true) rfl rfl (fun W hSw => ?_) S0 ?_
    · (try dsimp only at hSw); go_simp <;> with_reducible rfl
    try simp only [Act.put, l9a, l9z, l9s]
    refine tk9 (i := 30) (some 4) (.bool true) rfl rfl (fun W hSw => ?_) S0 ?_
    · (try dsimp only at hSw); go_simp <;> with_reducible rfl
    try simp only [Act.put, l9a, l9z, l9s]
    refine wpAnyH_done (by kernel_rfl) ?_ _
    have hbreg : Below wd.heap.size wd wd.drew := S0.2
    clear S0
    go_wp2_with fail
    go_ret
    exact ⟨rbool (by rw [HS3.out]; simp [d6, d7]), bthen BB.out hbreg⟩
  have d7 : inR p.fee 0 (n.tm.cap + pm) = false := by unfold inR; simp; omega
  have hlp := has_lt K.out; have hlg := HH.out.lt
  have pc0 := has_cell (has_drew K.out) 0 rfl; have pc1 := has_cell (has_drew K.out) 1 rfl; have pc2 := has_cell (has_drew K.out) 2 rfl; have pc3 := has_cell (has_drew K.out) 3 rfl; have pc4 := has_cell (has_drew K.out) 4 rfl; have pc5 := has_cell (has_drew K.out) 5 rfl; have pc6 := has_cell (has_drew K.out) 6 rfl; have pc7 := has_cell (has_drew K.out) 7 rfl; have pc8 := has_cell (has_drew K.out) 8 rfl; have pc9 := has_cell (has_drew K.out) 9 rfl; have pc10 := has_cell (has_drew K.out) 10 rfl; have pc11 := has_cell (has_drew K.out) 11 rfl; have pc12 := has_cell (has_drew K.out) 12 rfl
  have nc0 := (HH.out.later (Below.refl _ _).drew).c 0 _ rfl; have nc1 := (HH.out.later (Below.refl _ _).drew).c 1 _ rfl; have nc2 := (HH.out.later (Below.refl _ _).drew).c 2 _ rfl; have nc3 := (HH.out.later (Below.refl _ _).drew).c 3 _ rfl; have nc4 := (HH.out.later (Below.refl _ _).drew).c 4 _ rfl; have nc5 := (HH.out.later (Below.refl _ _).drew).c 5 _ rfl; have nc6 := (HH.out.later (Below.refl _ _).drew).c 6 _ rfl; have nc7 := (HH.out.later (Below.refl _ _).drew).c 7 _ rfl; have nc8 := (HH.out.later (Below.refl _ _).drew).c 8 _ rfl; have nc9 := (HH.out.later (Below.refl _ _).drew).c 9 _ rfl; have nc10 := (HH.out.later (Below.refl _ _).drew).c 10 _ rfl; have nc11 := (HH.out.later (Below.refl _ _).drew).c 11 _ rfl; have nc12 := (HH.out.later (Below.refl _ _).drew).c 12 _ rfl; have nc13 := (HH.out.later (Below.refl _ _).drew).c 13 _ rfl; have nc14 := (HH.out.later (Below.refl _ _).drew).c 14 _ rfl
  rw [Nat.add_zero] at nc0
  have S0 : (fun W : World => (W.cell? ⟨w.heap.size, 0, none⟩ = some (.int .i64 p.size) ∧ W.cell? ⟨w.heap.size, 1, none⟩ = some (.int .i64 p.owner) ∧ W.cell? ⟨w.heap.size, 2, none⟩ = some (.int .i64 p.site) ∧ W.cell? ⟨w.heap.size, 3, none⟩ = some (.int .i64 p.stage) ∧ W.cell? ⟨w.heap.size, 4, none⟩ = some (.int .i64 p.since) ∧ W.cell? ⟨w.heap.size, 5, none⟩ = some (.int .i64 p.ext) ∧ W.cell? ⟨w.heap.size, 6, none⟩ = some (.int .i64 p.ls) ∧ W.cell? ⟨w.heap.size, 7, none⟩ = some (.int .i64 p.ln) ∧ W.cell? ⟨w.heap.size, 8, none⟩ = some (.int .i64 p.lt) ∧ W.cell? ⟨w.heap.size, 9, none⟩ = some (.int .i64 p.lp) ∧ W.cell? ⟨w.heap.size, 10, none⟩ = some (.int .i64 p.lu) ∧ W.cell? ⟨w.heap.size, 11, none⟩ = some (.int .i64 p.who) ∧ W.cell? ⟨w.heap.size, 12, none⟩ = some (.int .i64 p.fee) ∧ W.cell? ⟨g, o, none⟩ = some (.int .i64 n.tm.keep) ∧ W.cell? ⟨g, o + 1, none⟩ = some (.int .i64 n.tm.free) ∧ W.cell? ⟨g, o + 2, none⟩ = some (.int .i64 n.tm.step) ∧ W.cell? ⟨g, o + 3, none⟩ = some (.int .i64 n.tm.rate) ∧ W.cell? ⟨g, o + 4, none⟩ = some (.int .i64 n.tm.cap) ∧ W.cell? ⟨g, o + 5, none⟩ = some (.int .i64 n.tm.longer) ∧ W.cell? ⟨g, o + 6, none⟩ = some (.int .i64 n.tm.price) ∧ W.cell? ⟨g, o + 7, none⟩ = some (.int .i64 n.tm.most) ∧ W.cell? ⟨g, o + 8, none⟩ = some (.int .i64 n.room) ∧ W.cell? ⟨g, o + 9, none⟩ = some (.int .i64 n.secret) ∧ W.cell? ⟨g, o + 10, none⟩ = some (.int .i64 n.now) ∧ W.cell? ⟨g, o + 11, none⟩ = some (.slice n.AS n.st.length n.cS) ∧ W.cell? ⟨g, o + 12, none⟩ = some (.slice n.AP n.pc.length n.cP) ∧ W.cell? ⟨g, o + 13, none⟩ = some (.slice n.AG n.gr.length n.cG) ∧ W.cell? ⟨g, o + 14, none⟩ = some (.slice n.AJ n.jr.length n.cJ)) ∧ Below wd.heap.size wd W) wd.drew := ⟨⟨pc0, pc1, pc2, pc3, pc4, pc5, pc6, pc7, pc8, pc9, pc10, pc11, pc12, nc0, nc1, nc2, nc3, nc4, nc5, nc6, nc7, nc8, nc9, nc10, nc11, nc12, nc13, nc14⟩, (Below.refl _ _).drew⟩
  clear pc0 pc1 pc2 pc3 pc4 pc5 pc6 pc7 pc8 pc9 pc10 pc11 pc12 nc0 nc1 nc2 nc3 nc4 nc5 nc6 nc7 nc8 nc9 nc10 nc11 nc12 nc13 nc14
  refine wp_region_held_drew (S := (fun W : World => (W.cell? ⟨w.heap.size, 0, none⟩ = some (.int .i64 p.size) ∧ W.cell? ⟨w.heap.size, 1, none⟩ = some (.int .i64 p.owner) ∧ W.cell? ⟨w.heap.size, 2, none⟩ = some (.int .i64 p.site) ∧ W.cell? ⟨w.heap.size, 3, none⟩ = some (.int .i64 p.stage) ∧ W.cell? ⟨w.heap.size, 4, none⟩ = some (.int .i64 p.since) ∧ W.cell? ⟨w.heap.size, 5, none⟩ = some (.int .i64 p.ext) ∧ W.cell? ⟨w.heap.size, 6, none⟩ = some (.int .i64 p.ls) ∧ W.cell? ⟨w.heap.size, 7, none⟩ = some (.int .i64 p.ln) ∧ W.cell? ⟨w.heap.size, 8, none⟩ = some (.int .i64 p.lt) ∧ W.cell? ⟨w.heap.size, 9, none⟩ = some (.int .i64 p.lp) ∧ W.cell? ⟨w.heap.size, 10, none⟩ = some (.int .i64 p.lu) ∧ W.cell? ⟨w.heap.size, 11, none⟩ = some (.int .i64 p.who) ∧ W.cell? ⟨w.heap.size, 12, none⟩ = some (.int .i64 p.fee) ∧ W.cell? ⟨g, o, none⟩ = some (.int .i64 n.tm.keep) ∧ W.cell? ⟨g, o + 1, none⟩ = some (.int .i64 n.tm.free) ∧ W.cell? ⟨g, o + 2, none⟩ = some (.int .i64 n.tm.step) ∧ W.cell? ⟨g, o + 3, none⟩ = some (.int .i64 n.tm.rate) ∧ W.cell? ⟨g, o + 4, none⟩ = some (.int .i64 n.tm.cap) ∧ W.cell? ⟨g, o + 5, none⟩ = some (.int .i64 n.tm.longer) ∧ W.cell? ⟨g, o + 6, none⟩ = some (.int .i64 n.tm.price) ∧ W.cell? ⟨g, o + 7, none⟩ = some (.int .i64 n.tm.most) ∧ W.cell? ⟨g, o + 8, none⟩ = some (.int .i64 n.room) ∧ W.cell? ⟨g, o + 9, none⟩ = some (.int .i64 n.secret) ∧ W.cell? ⟨g, o + 10, none⟩ = some (.int .i64 n.now) ∧ W.cell? ⟨g, o + 11, none⟩ = some (.slice n.AS n.st.length n.cS) ∧ W.cell? ⟨g, o + 12, none⟩ = some (.slice n.AP n.pc.length n.cP) ∧ W.cell? ⟨g, o + 13, none⟩ = some (.slice n.AG n.gr.length n.cG) ∧ W.cell? ⟨g, o + 14, none⟩ = some (.slice n.AJ n.jr.length n.cJ)) ∧ Below wd.heap.size wd W)) (by kernel_rfl) S0 (fun _ => ?_)
  refine tk9 (i := 0) (some 73) (.pointer (some ⟨w.heap.size, 11, none⟩)) rfl rfl (fun W hSw => ?_) S0 ?_
  · (try dsimp only at hSw); go_simp <;> with_reducible rfl
  try simp only [Act.put, l9a, l9z, l9s]
  refine tk9 (i := 1) (some 74) (.int .i64 p.who) rfl rfl (fun W hSw => ?_) S0 ?_
  · (try dsimp only at hSw); go_simp <;> with_reducible rfl
  try simp only [Act.put, l9a, l9z, l9s]
  refine wpAnyH_ready (rs := [2]) (by kernel_rfl) (by simp) ?_
  refine AllReadyH.cons rfl (fun K hK => ?_) AllReadyH.nil
  go_simp
  go_at_call 84
  refine (perI_any _ p.who).mono ?_
  rintro e wa ⟨rfl, hw8⟩; rw [hw8]; clear hw8 wa
  rw [d6]
  go_wp2_with fail
  refine hK.out _ _ S0 (fun _ => ?_)
  clear hK K
  try simp only [Act.put, l9a, l9z, l9s]
  refine tk9 (i := 3) (some 76) (.bool true) rfl rfl (fun W hSw => ?_) S0 ?_
  · (try dsimp only at hSw); go_simp <;> with_reducible rfl
  try simp only [Act.put, l9a, l9z, l9s]
  refine tk9 (i := 4) (some 77) (.pointer (some ⟨w.heap.size, 12, none⟩)) rfl rfl (fun W hSw => ?_) S0 ?_
  · (try dsimp only at hSw); go_simp <;> with_reducible rfl
  try simp only [Act.put, l9a, l9z, l9s]
  refine tk9 (i := 5) (some 78) (.int .i64 p.fee) rfl rfl (fun W hSw => ?_) S0 ?_
  · (try dsimp only at hSw); go_simp <;> with_reducible rfl
  try simp only [Act.put, l9a, l9z, l9s]
  refine tk9 (i := 6) (some 79) (.bool true) rfl rfl (fun W hSw => ?_) S0 ?_
  · (try dsimp only at hSw); go_simp <;> with_reducible rfl
  try simp only [Act.put, l9a, l9z, l9s]
  refine tk9 (i := 7) (some 80) (.bool true) rfl rfl (fun W hSw => ?_) S0 ?_
  · (try dsimp only at hSw); go_simp <;> with_reducible rfl
  try simp only [Act.put, l9a, l9z, l9s]
  refine tk9 (i := 8) (some 81) (.bool true) rfl rfl (fun W hSw => ?_) S0 ?_
  · (try dsimp only at hSw); go_simp <;> with_reducible rfl
  try simp only [Act.put, l9a, l9z, l9s]
  refine tk9 (i := 9) (some 82) (.pointer (some ⟨w.heap.size, 12, none⟩)) rfl rfl (fun W hSw => ?_) S0 ?_
  · (try dsimp only at hSw); go_simp <;> with_reducible rfl
  try simp only [Act.put, l9a, l9z, l9s]
  refine tk9 (i := 10) (some 83) (.int .i64 p.fee) rfl rfl (fun W hSw => ?_) S0 ?_
  · (try dsimp only at hSw); go_simp <;> with_reducible rfl
  try simp only [Act.put, l9a, l9z, l9s]
  refine tk9 (i := 11) (some 84) (.pointer (some ⟨g, o, none⟩)) rfl rfl (fun W hSw => ?_) S0 ?_
  · (try dsimp only at hSw); go_simp <;> with_reducible rfl
  try simp only [Act.put, l9a, l9z, l9s]
  refine tk9 (i := 12) (some 85) (.pointer (some ⟨g, o, none⟩)) rfl rfl (fun W hSw => ?_) S0 ?_
  · (try dsimp only at hSw); go_simp <;> with_reducible rfl
  try simp only [Act.put, l9a, l9z, l9s]
  refine tk9 (i := 13) (some 86) (.pointer (some ⟨g, o, none⟩)) rfl rfl (fun W hSw => ?_) S0 ?_
  · (try dsimp only at hSw); go_simp <;> with_reducible rfl
  try simp only [Act.put, l9a, l9z, l9s]
  refine tk9 (i := 14) (some 87) (.pointer (some ⟨g, o + 4, none⟩)) rfl rfl (fun W hSw => ?_) S0 ?_
  · (try dsimp only at hSw); go_simp <;> with_reducible rfl
  try simp only [Act.put, l9a, l9z, l9s]
  refine tk9 (i := 15) (some 88) (.int .i64 n.tm.cap) rfl rfl (fun W hSw => ?_) S0 ?_
  · (try dsimp only at hSw); go_simp <;> with_reducible rfl
  try simp only [Act.put, l9a, l9z, l9s]
  refine tk9 (i := 16) (some 89) (.pointer (some ⟨g, o, none⟩)) rfl rfl (fun W hSw => ?_) S0 ?_
  · (try dsimp only at hSw); go_simp <;> with_reducible rfl
  try simp only [Act.put, l9a, l9z, l9s]
  refine tk9 (i := 17) (some 90) (.pointer (some ⟨g, o, none⟩)) rfl rfl (fun W hSw => ?_) S0 ?_
  · (try dsimp only at hSw); go_simp <;> with_reducible rfl
  try simp only [Act.put, l9a, l9z, l9s]
  refine tk9 (i := 18) (some 91) (.pointer (some ⟨g, o, none⟩)) rfl rfl (fun W hSw => ?_) S0 ?_
  · (try dsimp only at hSw); go_simp <;> with_reducible rfl
  try simp only [Act.put, l9a, l9z, l9s]
  refine tk9 (i := 19) (some 92) (.pointer (some ⟨g, o + 6, none⟩)) rfl rfl (fun W hSw => ?_) S0 ?_
  · (try dsimp only at hSw); go_simp <;> with_reducible rfl
  try simp only [Act.put, l9a, l9z, l9s]
  refine tk9 (i := 20) (some 93) (.int .i64 n.tm.price) rfl rfl (fun W hSw => ?_) S0 ?_
  · (try dsimp only at hSw); go_simp <;> with_reducible rfl
  try simp only [Act.put, l9a, l9z, l9s]
  refine tk9 (i := 21) (some 94) (.pointer (some ⟨g, o, none⟩)) rfl rfl (fun W hSw => ?_) S0 ?_
  · (try dsimp only at hSw); go_simp <;> with_reducible rfl
  try simp only [Act.put, l9a, l9z, l9s]
  refine tk9 (i := 22) (some 95) (.pointer (some ⟨g, o, none⟩)) rfl rfl (fun W hSw => ?_) S0 ?_
  · (try dsimp only at hSw); go_simp <;> with_reducible rfl
  try simp only [Act.put, l9a, l9z, l9s]
  refine tk9 (i := 23) (some 96) (.pointer (some ⟨g, o, none⟩)) rfl rfl (fun W hSw => ?_) S0 ?_
  · (try dsimp only at hSw); go_simp <;> with_reducible rfl
  try simp only [Act.put, l9a, l9z, l9s]
  refine tk9 (i := 24) (some 97) (.pointer (some ⟨g, o + 7, none⟩)) rfl rfl (fun W hSw => ?_) S0 ?_
  · (try dsimp only at hSw); go_simp <;> with_reducible rfl
  try simp only [Act.put, l9a, l9z, l9s]
  refine tk9 (i := 25) (some 98) (.int .i64 n.tm.most) rfl rfl (fun W hSw => ?_) S0 ?_
  · (try dsimp only at hSw); go_simp <;> with_reducible rfl
  try simp only [Act.put, l9a, l9z, l9s]
  refine tk9 (i := 26) (some 99) (.int .i64 pm) rfl rfl (fun W hSw => ?_) S0 ?_
  · (try dsimp only at hSw); go_simp <;> first | with_reducible rfl | exact HW1.out
  try simp only [Act.put, l9a, l9z, l9s]
  refine tk9 (i := 27) (some 100) (.int .i64 (n.tm.cap + pm)) rfl rfl (fun W hSw => ?_) S0 ?_
  · (try dsimp only at hSw); go_simp <;> first | with_reducible rfl | exact HW2.out
  try simp only [Act.put, l9a, l9z, l9s]
  refine tk9 (i := 28) (some 101) (.bool false) rfl rfl (fun W hSw => ?_) S0 ?_
  · (try dsimp only at hSw); go_simp <;> with_reducible rfl
  try simp only [Act.put, l9a, l9z, l9s]
  refine tk9 (i := 29) (some 102) (.bool false) rfl rfl (fun W hSw => ?_) S0 ?_
  · (try dsimp only at hSw); go_simp <;> with_reducible rfl
  try simp only [Act.put, l9a, l9z, l9s]
  refine tk9 (i := 30) (some 4) (.bool false) rfl rfl (fun W hSw => ?_) S0 ?_
  · (try dsimp only at hSw); go_simp <;> with_reducible rfl
  try simp only [Act.put, l9a, l9z, l9s]
  refine wpAnyH_done (by kernel_rfl) ?_ _
  have hbreg : Below wd.heap.size wd wd.drew := S0.2
  clear S0
  go_wp2_with fail
  go_ret
  exact ⟨rbool (by rw [HS3.out]; simp [d6, d7]), bthen BB.out hbreg⟩
end Go.Proofs.YtjpkpfmpjgeeiaaGreat
