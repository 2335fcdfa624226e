
/- Chapter 9: the program's NetworkOk (gen_npz.py). -/
import Derived.Test.YtjpkpfmpjgeeiaaGreatQ38
import Derived.Test.YtjpkpfmpjgeeiaaGreatQ42
import Derived.Test.YtjpkpfmpjgeeiaaGreatQ44
import Derived.Test.YtjpkpfmpjgeeiaaGreatQ45
import Derived.Deep.DeepCutAuto
namespace Go.Proofs.YtjpkpfmpjgeeiaaGreat
open Go.RowKit
set_option linter.unusedVariables false
set_option maxRecDepth 100000
theorem netIn_has {w : World} {g : Nat} {n : Net} (h : Has w g 38 #[.int .i64 n.tm.keep, .int .i64 n.tm.free, .int .i64 n.tm.step, .int .i64 n.tm.rate, .int .i64 n.tm.cap, .int .i64 n.tm.longer, .int .i64 n.tm.price, .int .i64 n.tm.most, .int .i64 n.room, .int .i64 n.secret, .int .i64 n.now, .slice n.AS n.st.length n.cS, .slice n.AP n.pc.length n.cP, .slice n.AG n.gr.length n.cG, .slice n.AJ n.jr.length n.cJ]) : NetIn w g 0 n :=
  ⟨fun i v hv => by rw [Nat.zero_add]; exact has_cell h i (by simpa [ntC] using hv), has_lt h⟩
theorem frame_facts {n : Net} (h : frameB n = true) : termsB n.tm = true ∧ n.pc.length ≤ 12 := by
  unfold frameB at h
  simp only [Bool.and_eq_true, decide_eq_true_eq] at h
  exact ⟨h.1.1.1.1.1.1.1, h.1.1.2⟩
theorem netP_iff {n : Net} : NetP n ↔ frameB n = true ∧ SitesP n n.st.length ∧ (∀ (i : Nat) (p : Pc), n.pc[i]? = some p → parB n i p = true) ∧ (BoxesB n ∧ KeptP n) ∧ loadL n.st n.pc ≤ n.room :=
  ⟨fun h => ⟨h.frame, fun k s _ hs => h.sites k s hs, h.pars, ⟨h.boxes, h.kept⟩, h.load⟩, fun ⟨h1, h2, h3, h4, h5⟩ => ⟨h1, fun k s hs => h2 k s (List.getElem?_eq_some_iff.1 hs).1 hs, h3, h4.1, h4.2, h5⟩⟩
set_option maxHeartbeats 8000000 in
theorem netI9_any (w : World) (B : Nat) (n : Net) (hB : B ≤ w.heap.size) (hV : NetV w B n) :
    Calls Tryz.prog 23 #[.agg #[.int .i64 n.tm.keep, .int .i64 n.tm.free, .int .i64 n.tm.step, .int .i64 n.tm.rate, .int .i64 n.tm.cap, .int .i64 n.tm.longer, .int .i64 n.tm.price, .int .i64 n.tm.most, .int .i64 n.room, .int .i64 n.secret, .int .i64 n.now, .slice n.AS n.st.length n.cS, .slice n.AP n.pc.length n.cP, .slice n.AG n.gr.length n.cG, .slice n.AJ n.jr.length n.cJ]] w (Tells (NetP n) w) := by
  have HV := Lib.hid hV; clear hV
  go_enter Tryz.func23, Tryz.ntmps23
  go_upto_region 1 with fail
  generalize hW : w.alloc (.cells #[.int .i64 n.tm.keep, .int .i64 n.tm.free, .int .i64 n.tm.step, .int .i64 n.tm.rate, .int .i64 n.tm.cap, .int .i64 n.tm.longer, .int .i64 n.tm.price, .int .i64 n.tm.most, .int .i64 n.room, .int .i64 n.secret, .int .i64 n.now, .slice n.AS n.st.length n.cS, .slice n.AP n.pc.length n.cP, .slice n.AG n.gr.length n.cG, .slice n.AJ n.jr.length n.cJ] 38) = w1
  have b1 : Below w.heap.size w w1 := by rw [← hW]; exact balloc _ _
  have k1 : Has w1 w.heap.size 38 #[.int .i64 n.tm.keep, .int .i64 n.tm.free, .int .i64 n.tm.step, .int .i64 n.tm.rate, .int .i64 n.tm.cap, .int .i64 n.tm.longer, .int .i64 n.tm.price, .int .i64 n.tm.most, .int .i64 n.room, .int .i64 n.secret, .int .i64 n.now, .slice n.AS n.st.length n.cS, .slice n.AP n.pc.length n.cP, .slice n.AG n.gr.length n.cG, .slice n.AJ n.jr.length n.cJ] := by rw [← hW]; exact has_new _ _ _
  clear hW
  have hs1 := b1.size
  have BB := Lib.hid b1; have K := Lib.hid k1; have HN := Lib.hid (netIn_has k1); clear k1 b1
  have HFA := Lib.hid (fun W (hb : Below w1.heap.size w1 W) => frameI_any W w.heap.size 0 B n (HN.out.later hb) (by have := hb.size; omega) (HV.out.later hB (bthen BB.out hb)))
  obtain ⟨q2, hq2⟩ := has_q (SitesP n n.st.length)
  obtain ⟨q3, hq3⟩ := has_q (∀ (i : Nat) (p : Pc), n.pc[i]? = some p → parB n i p = true)
  obtain ⟨q4, hq4⟩ := has_q (BoxesB n ∧ KeptP n)
  have HQ2 := Lib.hid hq2; have HQ3 := Lib.hid hq3; have HQ4 := Lib.hid hq4; clear hq2 hq3 hq4
  have HSI := Lib.hid (fun W (hb : Below w1.heap.size w1 W) => (sitesI_any W w.heap.size 0 B n (HN.out.later hb) (by have := hb.size; omega) (HV.out.later hB (bthen BB.out hb))).mono fun e w' h => tells_q HQ2.out h)
  have hnp := netP_iff (n := n)
  have HNP := Lib.hid hnp; clear hnp
  have hkl := has_lt K.out
  cases hf : frameB n
  · skip
    have nc8 := has_cell (has_drew K.out) 8 rfl
    have S0 : (fun W : World => (W.cell? ⟨w.heap.size, 8, none⟩ = some (.int .i64 n.room)) ∧ Below w1.heap.size w1 W) w1.drew := ⟨nc8, (Below.refl _ _).drew⟩
    clear nc8
    refine wp_region_held_drew (S := (fun W : World => (W.cell? ⟨w.heap.size, 8, none⟩ = some (.int .i64 n.room)) ∧ Below w1.heap.size w1 W)) (by kernel_rfl) S0 (fun _ => ?_)
    refine wpAnyH_ready (rs := [0]) (by kernel_rfl) (by simp) ?_
    refine AllReadyH.cons rfl (fun K hK => ?_) AllReadyH.nil
    go_simp
    go_at_call 45
    refine (HFA.out _ S0.2).mono ?_
    rintro e wa ⟨rfl, hb8⟩
    rw [hf]
    have hb9wa : Below w1.heap.size w1 wa := bthen ((Below.refl _ _).drew : Below w1.heap.size w1 w1.drew) hb8
    have Swa : (fun W : World => (W.cell? ⟨w.heap.size, 8, none⟩ = some (.int .i64 n.room)) ∧ Below w1.heap.size w1 W) wa := ⟨(bold hb9wa _ _ (by omega)).trans S0.1, hb9wa⟩
    clear hb8
    go_wp2_with fail
    refine hK.out _ _ Swa (fun _ => ?_)
    clear hK K
    try simp only [Act.put, l9a, l9z, l9s]
    refine tk9 (i := 1) (some 4) (.bool false) rfl rfl (fun W hSw => ?_) Swa ?_
    · (try dsimp only at hSw); go_simp <;> with_reducible rfl
    try simp only [Act.put, l9a, l9z, l9s]
    refine sk9 (i := 2) (some 5) rfl rfl Swa ?_
    try simp only [Act.put, l9a, l9z, l9s]
    refine tk9 (i := 3) (some 6) (.bool false) rfl rfl (fun W hSw => ?_) Swa ?_
    · (try dsimp only at hSw); go_simp <;> with_reducible rfl
    try simp only [Act.put, l9a, l9z, l9s]
    refine tk9 (i := 4) (some 7) (.bool false) rfl rfl (fun W hSw => ?_) Swa ?_
    · (try dsimp only at hSw); go_simp <;> with_reducible rfl
    try simp only [Act.put, l9a, l9z, l9s]
    refine sk9 (i := 5) (some 8) rfl rfl Swa ?_
    try simp only [Act.put, l9a, l9z, l9s]
    refine tk9 (i := 6) (some 9) (.bool false) rfl rfl (fun W hSw => ?_) Swa ?_
    · (try dsimp only at hSw); go_simp <;> with_reducible rfl
    try simp only [Act.put, l9a, l9z, l9s]
    refine tk9 (i := 7) (some 10) (.bool false) rfl rfl (fun W hSw => ?_) Swa ?_
    · (try dsimp only at hSw); go_simp <;> with_reducible rfl
    try simp only [Act.put, l9a, l9z, l9s]
    refine sk9 (i := 8) (some 11) rfl rfl Swa ?_
    try simp only [Act.put, l9a, l9z, l9s]
    refine tk9 (i := 9) (some 12) (.bool false) rfl rfl (fun W hSw => ?_) Swa ?_
    · (try dsimp only at hSw); go_simp <;> with_reducible rfl
    try simp only [Act.put, l9a, l9z, l9s]
    refine tk9 (i := 10) (some 13) (.bool false) rfl rfl (fun W hSw => ?_) Swa ?_
    · (try dsimp only at hSw); go_simp <;> with_reducible rfl
    try simp only [Act.put, l9a, l9z, l9s]
    refine sk9 (i := 11) (some 14) rfl rfl Swa ?_
    try simp only [Act.put, l9a, l9z, l9s]
    refine sk9 (i := 12) (some 15) rfl rfl Swa ?_
    try simp only [Act.put, l9a, l9z, l9s]
    refine sk9 (i := 13) (some 16) rfl rfl Swa ?_
    try simp only [Act.put, l9a, l9z, l9s]
    refine sk9 (i := 14) (some 17) rfl rfl Swa ?_
    try simp only [Act.put, l9a, l9z, l9s]
    refine tk9 (i := 15) (some 18) (.bool false) rfl rfl (fun W hSw => ?_) Swa ?_
    · (try dsimp only at hSw); go_simp <;> with_reducible rfl
    try simp only [Act.put, l9a, l9z, l9s]
    refine tk9 (i := 16) (some 2) (.bool false) rfl rfl (fun W hSw => ?_) Swa ?_
    · (try dsimp only at hSw); go_simp <;> with_reducible rfl
    try simp only [Act.put, l9a, l9z, l9s]
    refine wpAnyH_done (by kernel_rfl) ?_ _
    have hbreg : Below w1.heap.size w1 wa := Swa.2
    clear S0 Swa hb9wa
    go_wp2_with fail
    go_ret
    exact tells_no (fun h => by have h9 := HNP.out.1 h; rw [hf] at h9; cases h9.1) (bthen BB.out hbreg)
  have hff := frame_facts hf
  have HFF := Lib.hid hff; clear hff
  cases q2
  · skip
    have nc8 := has_cell (has_drew K.out) 8 rfl
    have S0 : (fun W : World => (W.cell? ⟨w.heap.size, 8, none⟩ = some (.int .i64 n.room)) ∧ Below w1.heap.size w1 W) w1.drew := ⟨nc8, (Below.refl _ _).drew⟩
    clear nc8
    refine wp_region_held_drew (S := (fun W : World => (W.cell? ⟨w.heap.size, 8, none⟩ = some (.int .i64 n.room)) ∧ Below w1.heap.size w1 W)) (by kernel_rfl) S0 (fun _ => ?_)
    refine wpAnyH_ready (rs := [0]) (by kernel_rfl) (by simp) ?_
    refine AllReadyH.cons rfl (fun K hK => ?_) AllReadyH.nil
    go_simp
    go_at_call 45
    refine (HFA.out _ S0.2).mono ?_
    rintro e wa ⟨rfl, hb8⟩
    rw [hf]
    have hb9wa : Below w1.heap.size w1 wa := bthen ((Below.refl _ _).drew : Below w1.heap.size w1 w1.drew) hb8
    have Swa : (fun W : World => (W.cell? ⟨w.heap.size, 8, none⟩ = some (.int .i64 n.room)) ∧ Below w1.heap.size w1 W) wa := ⟨(bold hb9wa _ _ (by omega)).trans S0.1, hb9wa⟩
    clear hb8
    go_wp2_with fail
    refine hK.out _ _ Swa (fun _ => ?_)
    clear hK K
    try simp only [Act.put, l9a, l9z, l9s]
    refine tk9 (i := 1) (some 4) (.bool true) rfl rfl (fun W hSw => ?_) Swa ?_
    · (try dsimp only at hSw); go_simp <;> with_reducible rfl
    try simp only [Act.put, l9a, l9z, l9s]
    refine wpAnyH_ready (rs := [2]) (by kernel_rfl) (by simp) ?_
    refine AllReadyH.cons rfl (fun K hK => ?_) AllReadyH.nil
    go_simp
    go_at_call 46
    refine (HSI.out _ Swa.2).mono ?_
    rintro e wb ⟨rfl, hb8⟩
    have hb9wb : Below w1.heap.size w1 wb := bthen Swa.2 hb8
    have Swb : (fun W : World => (W.cell? ⟨w.heap.size, 8, none⟩ = some (.int .i64 n.room)) ∧ Below w1.heap.size w1 W) wb := ⟨(bold hb9wb _ _ (by omega)).trans S0.1, hb9wb⟩
    clear hb8
    go_wp2_with fail
    refine hK.out _ _ Swb (fun _ => ?_)
    clear hK K
    try simp only [Act.put, l9a, l9z, l9s]
    refine tk9 (i := 3) (some 6) (.bool false) rfl rfl (fun W hSw => ?_) Swb ?_
    · (try dsimp only at hSw); go_simp <;> with_reducible rfl
    try simp only [Act.put, l9a, l9z, l9s]
    refine tk9 (i := 4) (some 7) (.bool false) rfl rfl (fun W hSw => ?_) Swb ?_
    · (try dsimp only at hSw); go_simp <;> with_reducible rfl
    try simp only [Act.put, l9a, l9z, l9s]
    refine sk9 (i := 5) (some 8) rfl rfl Swb ?_
    try simp only [Act.put, l9a, l9z, l9s]
    refine tk9 (i := 6) (some 9) (.bool false) rfl rfl (fun W hSw => ?_) Swb ?_
    · (try dsimp only at hSw); go_simp <;> with_reducible rfl
    try simp only [Act.put, l9a, l9z, l9s]
    refine tk9 (i := 7) (some 10) (.bool false) rfl rfl (fun W hSw => ?_) Swb ?_
    · (try dsimp only at hSw); go_simp <;> with_reducible rfl
    try simp only [Act.put, l9a, l9z, l9s]
    refine sk9 (i := 8) (some 11) rfl rfl Swb ?_
    try simp only [Act.put, l9a, l9z, l9s]
    refine tk9 (i := 9) (some 12) (.bool false) rfl rfl (fun W hSw => ?_) Swb ?_
    · (try dsimp only at hSw); go_simp <;> with_reducible rfl
    try simp only [Act.put, l9a, l9z, l9s]
    refine tk9 (i := 10) (some 13) (.bool false) rfl rfl (fun W hSw => ?_) Swb ?_
    · (try dsimp only at hSw); go_simp <;> with_reducible rfl
    try simp only [Act.put, l9a, l9z, l9s]
    refine sk9 (i := 11) (some 14) rfl rfl Swb ?_
    try simp only [Act.put, l9a, l9z, l9s]
    refine sk9 (i := 12) (some 15) rfl rfl Swb ?_
    try simp only [Act.put, l9a, l9z, l9s]
    refine sk9 (i := 13) (some 16) rfl rfl Swb ?_
    try simp only [Act.put, l9a, l9z, l9s]
    refine sk9 (i := 14) (some 17) rfl rfl Swb ?_
    try simp only [Act.put, l9a, l9z, l9s]
    refine tk9 (i := 15) (some 18) (.bool false) rfl rfl (fun W hSw => ?_) Swb ?_
    · (try dsimp only at hSw); go_simp <;> with_reducible rfl
    try simp only [Act.put, l9a, l9z, l9s]
    refine tk9 (i := 16) (some 2) (.bool false) rfl rfl (fun W hSw => ?_) Swb ?_
    · (try dsimp only at hSw); go_simp <;> with_reducible rfl
    try simp only [Act.put, l9a, l9z, l9s]
    refine wpAnyH_done (by kernel_rfl) ?_ _
    have hbreg : Below w1.heap.size w1 wb := Swb.2
    clear S0 Swa hb9wa Swb hb9wb
    go_wp2_with fail
    go_ret
    exact tells_no (fun h => by have h9 := HNP.out.1 h; have := HQ2.out.2 h9.2.1; cases this) (bthen BB.out hbreg)
  have HPI := Lib.hid (fun W (hb : Below w1.heap.size w1 W) => (parsI_any W w.heap.size 0 B n (HN.out.later hb) (by have := hb.size; omega) (HV.out.later hB (bthen BB.out hb)) HFF.out.2 HFF.out.1).mono fun e w' h => tells_q HQ3.out h)
  cases q3
  · skip
    have nc8 := has_cell (has_drew K.out) 8 rfl
    have S0 : (fun W : World => (W.cell? ⟨w.heap.size, 8, none⟩ = some (.int .i64 n.room)) ∧ Below w1.heap.size w1 W) w1.drew := ⟨nc8, (Below.refl _ _).drew⟩
    clear nc8
    refine wp_region_held_drew (S := (fun W : World => (W.cell? ⟨w.heap.size, 8, none⟩ = some (.int .i64 n.room)) ∧ Below w1.heap.size w1 W)) (by kernel_rfl) S0 (fun _ => ?_)
    refine wpAnyH_ready (rs := [0]) (by kernel_rfl) (by simp) ?_
    refine AllReadyH.cons rfl (fun K hK => ?_) AllReadyH.nil
    go_simp
    go_at_call 45
    refine (HFA.out _ S0.2).mono ?_
    rintro e wa ⟨rfl, hb8⟩
    rw [hf]
    have hb9wa : Below w1.heap.size w1 wa := bthen ((Below.refl _ _).drew : Below w1.heap.size w1 w1.drew) hb8
    have Swa : (fun W : World => (W.cell? ⟨w.heap.size, 8, none⟩ = some (.int .i64 n.room)) ∧ Below w1.heap.size w1 W) wa := ⟨(bold hb9wa _ _ (by omega)).trans S0.1, hb9wa⟩
    clear hb8
    go_wp2_with fail
    refine hK.out _ _ Swa (fun _ => ?_)
    clear hK K
    try simp only [Act.put, l9a, l9z, l9s]
    refine tk9 (i := 1) (some 4) (.bool true) rfl rfl (fun W hSw => ?_) Swa ?_
    · (try dsimp only at hSw); go_simp <;> with_reducible rfl
    try simp only [Act.put, l9a, l9z, l9s]
    refine wpAnyH_ready (rs := [2]) (by kernel_rfl) (by simp) ?_
    refine AllReadyH.cons rfl (fun K hK => ?_) AllReadyH.nil
    go_simp
    go_at_call 46
    refine (HSI.out _ Swa.2).mono ?_
    rintro e wb ⟨rfl, hb8⟩
    have hb9wb : Below w1.heap.size w1 wb := bthen Swa.2 hb8
    have Swb : (fun W : World => (W.cell? ⟨w.heap.size, 8, none⟩ = some (.int .i64 n.room)) ∧ Below w1.heap.size w1 W) wb := ⟨(bold hb9wb _ _ (by omega)).trans S0.1, hb9wb⟩
    clear hb8
    go_wp2_with fail
    refine hK.out _ _ Swb (fun _ => ?_)
    clear hK K
    try simp only [Act.put, l9a, l9z, l9s]
    refine tk9 (i := 3) (some 6) (.bool true) rfl rfl (fun W hSw => ?_) Swb ?_
    · (try dsimp only at hSw); go_simp <;> with_reducible rfl
    try simp only [Act.put, l9a, l9z, l9s]
    refine tk9 (i := 4) (some 7) (.bool true) rfl rfl (fun W hSw => ?_) Swb ?_
    · (try dsimp only at hSw); go_simp <;> with_reducible rfl
    try simp only [Act.put, l9a, l9z, l9s]
    refine wpAnyH_ready (rs := [5]) (by kernel_rfl) (by simp) ?_
    refine AllReadyH.cons rfl (fun K hK => ?_) AllReadyH.nil
    go_simp
    go_at_call 47
    refine (HPI.out _ Swb.2).mono ?_
    rintro e wc ⟨rfl, hb8⟩
    have hb9wc : Below w1.heap.size w1 wc := bthen Swb.2 hb8
    have Swc : (fun W : World => (W.cell? ⟨w.heap.size, 8, none⟩ = some (.int .i64 n.room)) ∧ Below w1.heap.size w1 W) wc := ⟨(bold hb9wc _ _ (by omega)).trans S0.1, hb9wc⟩
    clear hb8
    go_wp2_with fail
    refine hK.out _ _ Swc (fun _ => ?_)
    clear hK K
    try simp only [Act.put, l9a, l9z, l9s]
    refine tk9 (i := 6) (some 9) (.bool false) rfl rfl (fun W hSw => ?_) Swc ?_
    · (try dsimp only at hSw); go_simp <;> with_reducible rfl
    try simp only [Act.put, l9a, l9z, l9s]
    refine tk9 (i := 7) (some 10) (.bool false) rfl rfl (fun W hSw => ?_) Swc ?_
    · (try dsimp only at hSw); go_simp <;> with_reducible rfl
    try simp only [Act.put, l9a, l9z, l9s]
    refine sk9 (i := 8) (some 11) rfl rfl Swc ?_
    try simp only [Act.put, l9a, l9z, l9s]
    refine tk9 (i := 9) (some 12) (.bool false) rfl rfl (fun W hSw => ?_) Swc ?_
    · (try dsimp only at hSw); go_simp <;> with_reducible rfl
    try simp only [Act.put, l9a, l9z, l9s]
    refine tk9 (i := 10) (some 13) (.bool false) rfl rfl (fun W hSw => ?_) Swc ?_
    · (try dsimp only at hSw); go_simp <;> with_reducible rfl
    try simp only [Act.put, l9a, l9z, l9s]
    refine sk9 (i := 11) (some 14) rfl rfl Swc ?_
    try simp only [Act.put, l9a, l9z, l9s]
    refine sk9 (i := 12) (some 15) rfl rfl Swc ?_
    try simp only [Act.put, l9a, l9z, l9s]
    refine sk9 (i := 13) (some 16) rfl rfl Swc ?_
    try simp only [Act.put, l9a, l9z, l9s]
    refine sk9 (i := 14) (some 17) rfl rfl Swc ?_
    try simp only [Act.put, l9a, l9z, l9s]
    refine tk9 (i := 15) (some 18) (.bool false) rfl rfl (fun W hSw => ?_) Swc ?_
    · (try dsimp only at hSw); go_simp <;> with_reducible rfl
    try simp only [Act.put, l9a, l9z, l9s]
    refine tk9 (i := 16) (some 2) (.bool false) rfl rfl (fun W hSw => ?_) Swc ?_
    · (try dsimp only at hSw); go_simp <;> with_reducible rfl
    try simp only [Act.put, l9a, l9z, l9s]
    refine wpAnyH_done (by kernel_rfl) ?_ _
    have hbreg : Below w1.heap.size w1 wc := Swc.2
    clear S0 Swa hb9wa Swb hb9wb Swc hb9wc
    go_wp2_with fail
    go_ret
    exact tells_no (fun h => by have h9 := HNP.out.1 h; have := HQ3.out.2 h9.2.2.1; cases this) (bthen BB.out hbreg)
  have hpf : ∀ p ∈ n.pc, (0 ≤ p.size ∧ p.size ≤ 24) ∧ 0 ≤ p.site ∧ p.site < n.st.length := fun p hp => by
    obtain ⟨i, hi⟩ := List.getElem?_of_mem hp
    exact par_facts (HQ3.out.1 rfl i p hi)
  have HPF := Lib.hid hpf; clear hpf
  have HPL := Lib.hid (fun W (hb : Below w1.heap.size w1 W) => (placI_any W w.heap.size 0 B n (HN.out.later hb) (by have := hb.size; omega) (HV.out.later hB (bthen BB.out hb)) (fun p hp => (HPF.out p hp).2)).mono fun e w' h => tells_q HQ4.out h)
  cases q4
  · skip
    have nc8 := has_cell (has_drew K.out) 8 rfl
    have S0 : (fun W : World => (W.cell? ⟨w.heap.size, 8, none⟩ = some (.int .i64 n.room)) ∧ Below w1.heap.size w1 W) w1.drew := ⟨nc8, (Below.refl _ _).drew⟩
    clear nc8
    refine wp_region_held_drew (S := (fun W : World => (W.cell? ⟨w.heap.size, 8, none⟩ = some (.int .i64 n.room)) ∧ Below w1.heap.size w1 W)) (by kernel_rfl) S0 (fun _ => ?_)
    refine wpAnyH_ready (rs := [0]) (by kernel_rfl) (by simp) ?_
    refine AllReadyH.cons rfl (fun K hK => ?_) AllReadyH.nil
    go_simp
    go_at_call 45
    refine (HFA.out _ S0.2).mono ?_
    rintro e wa ⟨rfl, hb8⟩
    rw [hf]
    have hb9wa : Below w1.heap.size w1 wa := bthen ((Below.refl _ _).drew : Below w1.heap.size w1 w1.drew) hb8
    have Swa : (fun W : World => (W.cell? ⟨w.heap.size, 8, none⟩ = some (.int .i64 n.room)) ∧ Below w1.heap.size w1 W) wa := ⟨(bold hb9wa _ _ (by omega)).trans S0.1, hb9wa⟩
    clear hb8
    go_wp2_with fail
    refine hK.out _ _ Swa (fun _ => ?_)
    clear hK K
    try simp only [Act.put, l9a, l9z, l9s]
    refine tk9 (i := 1) (some 4) (.bool true) rfl rfl (fun W hSw => ?_) Swa ?_
    · (try dsimp only at hSw); go_simp <;> with_reducible rfl
    try simp only [Act.put, l9a, l9z, l9s]
    refine wpAnyH_ready (rs := [2]) (by kernel_rfl) (by simp) ?_
    refine AllReadyH.cons rfl (fun K hK => ?_) AllReadyH.nil
    go_simp
    go_at_call 46
    refine (HSI.out _ Swa.2).mono ?_
    rintro e wb ⟨rfl, hb8⟩
    have hb9wb : Below w1.heap.size w1 wb := bthen Swa.2 hb8
    have Swb : (fun W : World => (W.cell? ⟨w.heap.size, 8, none⟩ = some (.int .i64 n.room)) ∧ Below w1.heap.size w1 W) wb := ⟨(bold hb9wb _ _ (by omega)).trans S0.1, hb9wb⟩
    clear hb8
    go_wp2_with fail
    refine hK.out _ _ Swb (fun _ => ?_)
    clear hK K
    try simp only [Act.put, l9a, l9z, l9s]
    refine tk9 (i := 3) (some 6) (.bool true) rfl rfl (fun W hSw => ?_) Swb ?_
    · (try dsimp only at hSw); go_simp <;> with_reducible rfl
    try simp only [Act.put, l9a, l9z, l9s]
    refine tk9 (i := 4) (some 7) (.bool true) rfl rfl (fun W hSw => ?_) Swb ?_
    · (try dsimp only at hSw); go_simp <;> with_reducible rfl
    try simp only [Act.put, l9a, l9z, l9s]
    refine wpAnyH_ready (rs := [5]) (by kernel_rfl) (by simp) ?_
    refine AllReadyH.cons rfl (fun K hK => ?_) AllReadyH.nil
    go_simp
    go_at_call 47
    refine (HPI.out _ Swb.2).mono ?_
    rintro e wc ⟨rfl, hb8⟩
    have hb9wc : Below w1.heap.size w1 wc := bthen Swb.2 hb8
    have Swc : (fun W : World => (W.cell? ⟨w.heap.size, 8, none⟩ = some (.int .i64 n.room)) ∧ Below w1.heap.size w1 W) wc := ⟨(bold hb9wc _ _ (by omega)).trans S0.1, hb9wc⟩
    clear hb8
    go_wp2_with fail
    refine hK.out _ _ Swc (fun _ => ?_)
    clear hK K
    try simp only [Act.put, l9a, l9z, l9s]
    refine tk9 (i := 6) (some 9) (.bool true) rfl rfl (fun W hSw => ?_) Swc ?_
    · (try dsimp only at hSw); go_simp <;> with_reducible rfl
    try simp only [Act.put, l9a, l9z, l9s]
    refine tk9 (i := 7) (some 10) (.bool true) rfl rfl (fun W hSw => ?_) Swc ?_
    · (try dsimp only at hSw); go_simp <;> with_reducible rfl
    try simp only [Act.put, l9a, l9z, l9s]
    refine wpAnyH_ready (rs := [8]) (by kernel_rfl) (by simp) ?_
    refine AllReadyH.cons rfl (fun K hK => ?_) AllReadyH.nil
    go_simp
    go_at_call 48
    refine (HPL.out _ Swc.2).mono ?_
    rintro e wd ⟨rfl, hb8⟩
    have hb9wd : Below w1.heap.size w1 wd := bthen Swc.2 hb8
    have Swd : (fun W : World => (W.cell? ⟨w.heap.size, 8, none⟩ = some (.int .i64 n.room)) ∧ Below w1.heap.size w1 W) wd := ⟨(bold hb9wd _ _ (by omega)).trans S0.1, hb9wd⟩
    clear hb8
    go_wp2_with fail
    refine hK.out _ _ Swd (fun _ => ?_)
    clear hK K
    try simp only [Act.put, l9a, l9z, l9s]
    refine tk9 (i := 9) (some 12) (.bool false) rfl rfl (fun W hSw => ?_) Swd ?_
    · (try dsimp only at hSw); go_simp <;> with_reducible rfl
    try simp only [Act.put, l9a, l9z, l9s]
    refine tk9 (i := 10) (some 13) (.bool false) rfl rfl (fun W hSw => ?_) Swd ?_
    · (try dsimp only at hSw); go_simp <;> with_reducible rfl
    try simp only [Act.put, l9a, l9z, l9s]
    refine sk9 (i := 11) (some 14) rfl rfl Swd ?_
    try simp only [Act.put, l9a, l9z, l9s]
    refine sk9 (i := 12) (some 15) rfl rfl Swd ?_
    try simp only [Act.put, l9a, l9z, l9s]
    refine sk9 (i := 13) (some 16) rfl rfl Swd ?_
    try simp only [Act.put, l9a, l9z, l9s]
    refine sk9 (i := 14) (some 17) rfl rfl Swd ?_
    try simp only [Act.put, l9a, l9z, l9s]
    refine tk9 (i := 15) (some 18) (.bool false) rfl rfl (fun W hSw => ?_) Swd ?_
    · (try dsimp only at hSw); go_simp <;> with_reducible rfl
    try simp only [Act.put, l9a, l9z, l9s]
    refine tk9 (i := 16) (some 2) (.bool false) rfl rfl (fun W hSw => ?_) Swd ?_
    · (try dsimp only at hSw); go_simp <;> with_reducible rfl
    try simp only [Act.put, l9a, l9z, l9s]
    refine wpAnyH_done (by kernel_rfl) ?_ _
    have hbreg : Below w1.heap.size w1 wd := Swd.2
    clear S0 Swa hb9wa Swb hb9wb Swc hb9wc Swd hb9wd
    go_wp2_with fail
    go_ret
    exact tells_no (fun h => by have h9 := HNP.out.1 h; have := HQ4.out.2 h9.2.2.2.1; cases this) (bthen BB.out hbreg)
  have HVA := Lib.hid (fun W (hb : Below w1.heap.size w1 W) => vanI_any W w.heap.size 0 B n (HN.out.later hb) (by have := hb.size; omega) (HV.out.later hB (bthen BB.out hb)) (fun p hp => (HPF.out p hp).1) (fun p hp _ => (HPF.out p hp).2) HFF.out.2)
  have hyes : loadL n.st n.pc ≤ n.room → NetP n := fun h => HNP.out.2 ⟨hf, HQ2.out.1 rfl, HQ3.out.1 rfl, HQ4.out.1 rfl, h⟩
  have HYES := Lib.hid hyes; clear hyes
  generalize hld : loadL n.st n.pc = ld at HVA
  by_cases hle : ld ≤ n.room
  · skip
    have nc8 := has_cell (has_drew K.out) 8 rfl
    have S0 : (fun W : World => (W.cell? ⟨w.heap.size, 8, none⟩ = some (.int .i64 n.room)) ∧ Below w1.heap.size w1 W) w1.drew := ⟨nc8, (Below.refl _ _).drew⟩
    clear nc8
    refine wp_region_held_drew (S := (fun W : World => (W.cell? ⟨w.heap.size, 8, none⟩ = some (.int .i64 n.room)) ∧ Below w1.heap.size w1 W)) (by kernel_rfl) S0 (fun _ => ?_)
    refine wpAnyH_ready (rs := [0]) (by kernel_rfl) (by simp) ?_
    refine AllReadyH.cons rfl (fun K hK => ?_) AllReadyH.nil
    go_simp
    go_at_call 45
    refine (HFA.out _ S0.2).mono ?_
    rintro e wa ⟨rfl, hb8⟩
    rw [hf]
    have hb9wa : Below w1.heap.size w1 wa := bthen ((Below.refl _ _).drew : Below w1.heap.size w1 w1.drew) hb8
    have Swa : (fun W : World => (W.cell? ⟨w.heap.size, 8, none⟩ = some (.int .i64 n.room)) ∧ Below w1.heap.size w1 W) wa := ⟨(bold hb9wa _ _ (by omega)).trans S0.1, hb9wa⟩
    clear hb8
    go_wp2_with fail
    refine hK.out _ _ Swa (fun _ => ?_)
    clear hK K
    try simp only [Act.put, l9a, l9z, l9s]
    refine tk9 (i := 1) (some 4) (.bool true) rfl rfl (fun W hSw => ?_) Swa ?_
    · (try dsimp only at hSw); go_simp <;> with_reducible rfl
    try simp only [Act.put, l9a, l9z, l9s]
    refine wpAnyH_ready (rs := [2]) (by kernel_rfl) (by simp) ?_
    refine AllReadyH.cons rfl (fun K hK => ?_) AllReadyH.nil
    go_simp
    go_at_call 46
    refine (HSI.out _ Swa.2).mono ?_
    rintro e wb ⟨rfl, hb8⟩
    have hb9wb : Below w1.heap.size w1 wb := bthen Swa.2 hb8
    have Swb : (fun W : World => (W.cell? ⟨w.heap.size, 8, none⟩ = some (.int .i64 n.room)) ∧ Below w1.heap.size w1 W) wb := ⟨(bold hb9wb _ _ (by omega)).trans S0.1, hb9wb⟩
    clear hb8
    go_wp2_with fail
    refine hK.out _ _ Swb (fun _ => ?_)
    clear hK K
    try simp only [Act.put, l9a, l9z, l9s]
    refine tk9 (i := 3) (some 6) (.bool true) rfl rfl (fun W hSw => ?_) Swb ?_
    · (try dsimp only at hSw); go_simp <;> with_reducible rfl
    try simp only [Act.put, l9a, l9z, l9s]
    refine tk9 (i := 4) (some 7) (.bool true) rfl rfl (fun W hSw => ?_) Swb ?_
    · (try dsimp only at hSw); go_simp <;> with_reducible rfl
    try simp only [Act.put, l9a, l9z, l9s]
    refine wpAnyH_ready (rs := [5]) (by kernel_rfl) (by simp) ?_
    refine AllReadyH.cons rfl (fun K hK => ?_) AllReadyH.nil
    go_simp
    go_at_call 47
    refine (HPI.out _ Swb.2).mono ?_
    rintro e wc ⟨rfl, hb8⟩
    have hb9wc : Below w1.heap.size w1 wc := bthen Swb.2 hb8
    have Swc : (fun W : World => (W.cell? ⟨w.heap.size, 8, none⟩ = some (.int .i64 n.room)) ∧ Below w1.heap.size w1 W) wc := ⟨(bold hb9wc _ _ (by omega)).trans S0.1, hb9wc⟩
    clear hb8
    go_wp2_with fail
    refine hK.out _ _ Swc (fun _ => ?_)
    clear hK K
    try simp only [Act.put, l9a, l9z, l9s]
    refine tk9 (i := 6) (some 9) (.bool true) rfl rfl (fun W hSw => ?_) Swc ?_
    · (try dsimp only at hSw); go_simp <;> with_reducible rfl
    try simp only [Act.put, l9a, l9z, l9s]
    refine tk9 (i := 7) (some 10) (.bool true) rfl rfl (fun W hSw => ?_) Swc ?_
    · (try dsimp only at hSw); go_simp <;> with_reducible rfl
    try simp only [Act.put, l9a, l9z, l9s]
    refine wpAnyH_ready (rs := [8]) (by kernel_rfl) (by simp) ?_
    refine AllReadyH.cons rfl (fun K hK => ?_) AllReadyH.nil
    go_simp
    go_at_call 48
    refine (HPL.out _ Swc.2).mono ?_
    rintro e wd ⟨rfl, hb8⟩
    have hb9wd : Below w1.heap.size w1 wd := bthen Swc.2 hb8
    have Swd : (fun W : World => (W.cell? ⟨w.heap.size, 8, none⟩ = some (.int .i64 n.room)) ∧ Below w1.heap.size w1 W) wd := ⟨(bold hb9wd _ _ (by omega)).trans S0.1, hb9wd⟩
    clear hb8
    go_wp2_with fail
    refine hK.out _ _ Swd (fun _ => ?_)
    clear hK K
    try simp only [Act.put, l9a, l9z, l9s]
    refine tk9 (i := 9) (some 12) (.bool true) rfl rfl (fun W hSw => ?_) Swd ?_
    · (try dsimp only at hSw); go_simp <;> with_reducible rfl
    try simp only [Act.put, l9a, l9z, l9s]
    refine tk9 (i := 10) (some 13) (.bool true) rfl rfl (fun W hSw => ?_) Swd ?_
    · (try dsimp only at hSw); go_simp <;> with_reducible rfl
    try simp only [Act.put, l9a, l9z, l9s]
    refine tk9 (i := 12) (some 15) (.pointer (some ⟨w.heap.size, 8, none⟩)) rfl rfl (fun W hSw => ?_) Swd ?_
    · (try dsimp only at hSw); go_simp <;> with_reducible rfl
    try simp only [Act.put, l9a, l9z, l9s]
    refine tk9 (i := 13) (some 16) (.int .i64 n.room) rfl rfl (fun W hSw => ?_) Swd ?_
    · (try dsimp only at hSw); go_simp <;> with_reducible rfl
    try simp only [Act.put, l9a, l9z, l9s]
    refine wpAnyH_ready (rs := [11]) (by kernel_rfl) (by simp) ?_
    refine AllReadyH.cons rfl (fun K hK => ?_) AllReadyH.nil
    go_simp
    go_at_call 49
    refine (HVA.out _ Swd.2).mono ?_
    rintro e we ⟨rfl, hb8⟩
    have hb9we : Below w1.heap.size w1 we := bthen Swd.2 hb8
    have Swe : (fun W : World => (W.cell? ⟨w.heap.size, 8, none⟩ = some (.int .i64 n.room)) ∧ Below w1.heap.size w1 W) we := ⟨(bold hb9we _ _ (by omega)).trans S0.1, hb9we⟩
    clear hb8
    go_wp2_with fail
    refine hK.out _ _ Swe (fun _ => ?_)
    clear hK K
    try simp only [Act.put, l9a, l9z, l9s]
    refine tk9 (i := 14) (some 17) (.bool true) rfl rfl (fun W hSw => ?_) Swe ?_
    · (try dsimp only at hSw); go_simp <;> first | with_reducible rfl | simp [hle]
    try simp only [Act.put, l9a, l9z, l9s]
    refine tk9 (i := 15) (some 18) (.bool true) rfl rfl (fun W hSw => ?_) Swe ?_
    · (try dsimp only at hSw); go_simp <;> with_reducible rfl
    try simp only [Act.put, l9a, l9z, l9s]
    refine tk9 (i := 16) (some 2) (.bool true) rfl rfl (fun W hSw => ?_) Swe ?_
    · (try dsimp only at hSw); go_simp <;> with_reducible rfl
    try simp only [Act.put, l9a, l9z, l9s]
    refine wpAnyH_done (by kernel_rfl) ?_ _
    have hbreg : Below w1.heap.size w1 we := Swe.2
    clear S0 Swa hb9wa Swb hb9wb Swc hb9wc Swd hb9wd Swe hb9we
    go_wp2_with fail
    go_ret
    exact tells_yes (HYES.out (by rw [hld]; exact hle)) (bthen BB.out hbreg)
  · skip
    have nc8 := has_cell (has_drew K.out) 8 rfl
    have S0 : (fun W : World => (W.cell? ⟨w.heap.size, 8, none⟩ = some (.int .i64 n.room)) ∧ Below w1.heap.size w1 W) w1.drew := ⟨nc8, (Below.refl _ _).drew⟩
    clear nc8
    refine wp_region_held_drew (S := (fun W : World => (W.cell? ⟨w.heap.size, 8, none⟩ = some (.int .i64 n.room)) ∧ Below w1.heap.size w1 W)) (by kernel_rfl) S0 (fun _ => ?_)
    refine wpAnyH_ready (rs := [0]) (by kernel_rfl) (by simp) ?_
    refine AllReadyH.cons rfl (fun K hK => ?_) AllReadyH.nil
    go_simp
    go_at_call 45
    refine (HFA.out _ S0.2).mono ?_
    rintro e wa ⟨rfl, hb8⟩
    rw [hf]
    have hb9wa : Below w1.heap.size w1 wa := bthen ((Below.refl _ _).drew : Below w1.heap.size w1 w1.drew) hb8
    have Swa : (fun W : World => (W.cell? ⟨w.heap.size, 8, none⟩ = some (.int .i64 n.room)) ∧ Below w1.heap.size w1 W) wa := ⟨(bold hb9wa _ _ (by omega)).trans S0.1, hb9wa⟩
    clear hb8
    go_wp2_with fail
    refine hK.out _ _ Swa (fun _ => ?_)
    clear hK K
    try simp only [Act.put, l9a, l9z, l9s]
    refine tk9 (i := 1) (some 4) (.bool true) rfl rfl (fun W hSw => ?_) Swa ?_
    · (try dsimp only at hSw); go_simp <;> with_reducible rfl
    try simp only [Act.put, l9a, l9z, l9s]
    refine wpAnyH_ready (rs := [2]) (by kernel_rfl) (by simp) ?_
    refine AllReadyH.cons rfl (fun K hK => ?_) AllReadyH.nil
    go_simp
    go_at_call 46
    refine (HSI.out _ Swa.2).mono ?_
    rintro e wb ⟨rfl, hb8⟩
    have hb9wb : Below w1.heap.size w1 wb := bthen Swa.2 hb8
    have Swb : (fun W : World => (W.cell? ⟨w.heap.size, 8, none⟩ = some (.int .i64 n.room)) ∧ Below w1.heap.size w1 W) wb := ⟨(bold hb9wb _ _ (by omega)).trans S0.1, hb9wb⟩
    clear hb8
    go_wp2_with fail
    refine hK.out _ _ Swb (fun _ => ?_)
    clear hK K
    try simp only [Act.put, l9a, l9z, l9s]
    refine tk9 (i := 3) (some 6) (.bool true) rfl rfl (fun W hSw => ?_) Swb ?_
    · (try dsimp only at hSw); go_simp <;> with_reducible rfl
    try simp only [Act.put, l9a, l9z, l9s]
    refine tk9 (i := 4) (some 7) (.bool true) rfl rfl (fun W hSw => ?_) Swb ?_
    · (try dsimp only at hSw); go_simp <;> with_reducible rfl
    try simp only [Act.put, l9a, l9z, l9s]
    refine wpAnyH_ready (rs := [5]) (by kernel_rfl) (by simp) ?_
    refine AllReadyH.cons rfl (fun K hK => ?_) AllReadyH.nil
    go_simp
    go_at_call 47
    refine (HPI.out _ Swb.2).mono ?_
    rintro e wc ⟨rfl, hb8⟩
    have hb9wc : Below w1.heap.size w1 wc := bthen Swb.2 hb8
    have Swc : (fun W : World => (W.cell? ⟨w.heap.size, 8, none⟩ = some (.int .i64 n.room)) ∧ Below w1.heap.size w1 W) wc := ⟨(bold hb9wc _ _ (by omega)).trans S0.1, hb9wc⟩
    clear hb8
    go_wp2_with fail
    refine hK.out _ _ Swc (fun _ => ?_)
    clear hK K
    try simp only [Act.put, l9a, l9z, l9s]
    refine tk9 (i := 6) (some 9) (.bool true) rfl rfl (fun W hSw => ?_) Swc ?_
    · (try dsimp only at hSw); go_simp <;> with_reducible rfl
    try simp only [Act.put, l9a, l9z, l9s]
    refine tk9 (i := 7) (some 10) (.bool true) rfl rfl (fun W hSw => ?_) Swc ?_
    · (try dsimp only at hSw); go_simp <;> with_reducible rfl
    try simp only [Act.put, l9a, l9z, l9s]
    refine wpAnyH_ready (rs := [8]) (by kernel_rfl) (by simp) ?_
    refine AllReadyH.cons rfl (fun K hK => ?_) AllReadyH.nil
    go_simp
    go_at_call 48
    refine (HPL.out _ Swc.2).mono ?_
    rintro e wd ⟨rfl, hb8⟩
    have hb9wd : Below w1.heap.size w1 wd := bthen Swc.2 hb8
    have Swd : (fun W : World => (W.cell? ⟨w.heap.size, 8, none⟩ = some (.int .i64 n.room)) ∧ Below w1.heap.size w1 W) wd := ⟨(bold hb9wd _ _ (by omega)).trans S0.1, hb9wd⟩
    clear hb8
    go_wp2_with fail
    refine hK.out _ _ Swd (fun _ => ?_)
    clear hK K
    try simp only [Act.put, l9a, l9z, l9s]
    refine tk9 (i := 9) (some 12) (.bool true) rfl rfl (fun W hSw => ?_) Swd ?_
    · (try dsimp only at hSw); go_simp <;> with_reducible rfl
    try simp only [Act.put, l9a, l9z, l9s]
    refine tk9 (i := 10) (some 13) (.bool true) rfl rfl (fun W hSw => ?_) Swd ?_
    · (try dsimp only at hSw); go_simp <;> with_reducible rfl
    try simp only [Act.put, l9a, l9z, l9s]
    refine tk9 (i := 12) (some 15) (.pointer (some ⟨w.heap.size, 8, none⟩)) rfl rfl (fun W hSw => ?_) Swd ?_
    · (try dsimp only at hSw); go_simp <;> with_reducible rfl
    try simp only [Act.put, l9a, l9z, l9s]
    refine tk9 (i := 13) (some 16) (.int .i64 n.room) rfl rfl (fun W hSw => ?_) Swd ?_
    · (try dsimp only at hSw); go_simp <;> with_reducible rfl
    try simp only [Act.put, l9a, l9z, l9s]
    refine wpAnyH_ready (rs := [11]) (by kernel_rfl) (by simp) ?_
    refine AllReadyH.cons rfl (fun K hK => ?_) AllReadyH.nil
    go_simp
    go_at_call 49
    refine (HVA.out _ Swd.2).mono ?_
    rintro e we ⟨rfl, hb8⟩
    have hb9we : Below w1.heap.size w1 we := bthen Swd.2 hb8
    have Swe : (fun W : World => (W.cell? ⟨w.heap.size, 8, none⟩ = some (.int .i64 n.room)) ∧ Below w1.heap.size w1 W) we := ⟨(bold hb9we _ _ (by omega)).trans S0.1, hb9we⟩
    clear hb8
    go_wp2_with fail
    refine hK.out _ _ Swe (fun _ => ?_)
    clear hK K
    try simp only [Act.put, l9a, l9z, l9s]
    refine tk9 (i := 14) (some 17) (.bool false) rfl rfl (fun W hSw => ?_) Swe ?_
    · (try dsimp only at hSw); go_simp <;> first | with_reducible rfl | simp [hle]
    try simp only [Act.put, l9a, l9z, l9s]
    refine tk9 (i := 15) (some 18) (.bool false) rfl rfl (fun W hSw => ?_) Swe ?_
    · (try dsimp only at hSw); go_simp <;> with_reducible rfl
    try simp only [Act.put, l9a, l9z, l9s]
    refine tk9 (i := 16) (some 2) (.bool false) rfl rfl (fun W hSw => ?_) Swe ?_
    · (try dsimp only at hSw); go_simp <;> with_reducible rfl
    try simp only [Act.put, l9a, l9z, l9s]
    refine wpAnyH_done (by kernel_rfl) ?_ _
    have hbreg : Below w1.heap.size w1 we := Swe.2
    clear S0 Swa hb9wa Swb hb9wb Swc hb9wc Swd hb9wd Swe hb9we
    go_wp2_with fail
    go_ret
    exact tells_no (fun h => by have h9 := h.load; rw [hld] at h9; omega) (bthen BB.out hbreg)
theorem netSB_any (w : World) (B : Nat) (n : Net) (hB : B ≤ w.heap.size) (hV : NetV w B n) :
    Calls Tryz.prog 17 #[.agg #[.int .i64 n.tm.keep, .int .i64 n.tm.free, .int .i64 n.tm.step, .int .i64 n.tm.rate, .int .i64 n.tm.cap, .int .i64 n.tm.longer, .int .i64 n.tm.price, .int .i64 n.tm.most, .int .i64 n.room, .int .i64 n.secret, .int .i64 n.now, .slice n.AS n.st.length n.cS, .slice n.AP n.pc.length n.cP, .slice n.AG n.gr.length n.cG, .slice n.AJ n.jr.length n.cJ]] w fun e w' => e = .returned (.bool (netB n)) ∧ Below w.heap.size w w' :=
  (netS9_any w B n hB hV).mono fun e w' h => tells_q netB_iff h
theorem netIB_any (w : World) (B : Nat) (n : Net) (hB : B ≤ w.heap.size) (hV : NetV w B n) :
    Calls Tryz.prog 23 #[.agg #[.int .i64 n.tm.keep, .int .i64 n.tm.free, .int .i64 n.tm.step, .int .i64 n.tm.rate, .int .i64 n.tm.cap, .int .i64 n.tm.longer, .int .i64 n.tm.price, .int .i64 n.tm.most, .int .i64 n.room, .int .i64 n.secret, .int .i64 n.now, .slice n.AS n.st.length n.cS, .slice n.AP n.pc.length n.cP, .slice n.AG n.gr.length n.cG, .slice n.AJ n.jr.length n.cJ]] w fun e w' => e = .returned (.bool (netB n)) ∧ Below w.heap.size w w' :=
  (netI9_any w B n hB hV).mono fun e w' h => tells_q netB_iff h
end Go.Proofs.YtjpkpfmpjgeeiaaGreat
