
/- Chapter 9: the program's placesOk (gen_npy.py). -/
import Derived.Test.YtjpkpfmpjgeeiaaGreatQ43
import Derived.Test.YtjpkpfmpjgeeiaaGreatQ32
import Derived.Test.YtjpkpfmpjgeeiaaGreatQ26
import Derived.Test.YtjpkpfmpjgeeiaaGreatQ27
import Derived.Deep.RegionHeld3
import Derived.Deep.DeepCutAuto
namespace Go.Proofs.YtjpkpfmpjgeeiaaGreat
open Go.RowKit
set_option linter.unusedVariables false
set_option maxRecDepth 100000
theorem any_bel {P : List Pc} {k : Nat} {L : List Bx} (h : L.any (badB P k) = false) : AllBel P k L := fun b hb h0 => by
  have := List.any_eq_false.1 h b hb
  unfold badB at this
  cases e : belB P k b
  · rw [e] at this; simp [h0] at this
  · rfl
theorem any_bad {x : Net} {k : Nat} {s : Sit} {c : Cl} (hs : x.st[k]? = some s) (hc : c ∈ s.bk) (h : c.L.any (badB x.pc k) = true) : ¬ BoxesB x := by
  obtain ⟨b, hb, hbad⟩ := List.any_eq_true.1 h
  unfold badB at hbad
  rw [Bool.and_eq_true] at hbad
  exact not_boxes hs hc hb (by simpa using hbad.1) (by simpa using hbad.2)
set_option maxHeartbeats 8000000 in
theorem placI_any (w : World) (g o B : Nat) (n : Net) (H : NetIn w g o n) (hB : B ≤ w.heap.size) (hV : NetV w B n) (hsr : ∀ p ∈ n.pc, 0 ≤ p.site ∧ p.site < n.st.length) :
    Calls Tryz.prog 48 #[.pointer (some ⟨g, o, none⟩)] w (Tells (BoxesB n ∧ KeptP n) w) := by
  have HV := Lib.hid hV; have HH := Lib.hid H; have HSR := Lib.hid hsr; have hl1 := hV.l1; have hl2 := hV.l2; clear hV H hsr
  unfold maxLen at hl1 hl2
  go_enter Tryz.func48, Tryz.ntmps48
  go_upto_region 1 with fail
  generalize hW : w.alloc (.cells #[.pointer (some ⟨g, o, none⟩)] 130) = w0
  have b0 : Below w.heap.size w w0 := by rw [← hW]; exact balloc _ _
  have k0 : Has w0 w.heap.size 130 #[.pointer (some ⟨g, o, none⟩)] := by rw [← hW]; exact has_new _ _ _
  clear hW
  have hs0 := b0.size
  have BB := Lib.hid b0; have K0 := Lib.hid k0; clear k0 b0
  have nc11 := (HH.out.later BB.out).c 11 _ rfl
  have gl := (HH.out.later BB.out).lt
  have d0 := has_cell K0.out 0 rfl; have dl := has_lt K0.out
  go_wp2_with fail
  clear nc11 gl d0 dl
  go_loopw [14] (fun i wr => ∃ k : Nat, k ≤ n.st.length ∧ i = .int .i64 (k : Int) ∧ AllSit n k ∧ Below w0.heap.size w0 wr) (fun i _ => n.st.length - (intOf i).toNat)
  case atStart => exact ⟨0, Nat.zero_le _, rfl, fun j p h => by omega, Below.refl _ _⟩
  case round =>
    obtain ⟨k, hk, rfl, hall, hb⟩ := hrel
    have HALL := Lib.hid hall; clear hall
    have hsz := hb.size
    have BR := Lib.hid hb; clear hb
    by_cases hlt : k < n.st.length
    · obtain ⟨b, off, y, hA, hbB, hy, hc0, hc1, hc2, hc3, hc4, hc5, hc6, hc7, hc8, hc9, hc10⟩ := ((HV.out.later hB (bthen BB.out BR.out)).si).at_ hlt
      have HY := Lib.hid hy; clear hy
      have HVY := Lib.hid (HV.out.sv y (List.mem_of_getElem? HY.out))
      have hl3 := HVY.out.l3
      unfold maxLen at hl3
      have hkk0 : (0 : Int) ≤ (k : Int) := by omega
      have hkk1 : (k : Int) < (n.st.length : Int) := by omega
      have hbw : b < wr.heap.size := by omega
      rw [hA]
      clear hA
      go_upto_region 4 with fail
      clear hc0 hc1 hc2 hc3 hc4 hc5 hc6 hc7 hc8 hc9 hc10
      generalize hW : (wr.alloc (.cells #[.int .i64 (k : Int)] 3)).alloc (.cells #[.slice y.A1 y.o.length y.c1, .slice y.A2 y.q.length y.c2, .slice y.AB y.bk.length y.cB, .int .i64 y.dk, .int .i64 y.ds, .bool y.dl, .bool y.dp, .bool y.df, .int .i64 y.par, .int .i64 y.who, .slice y.AJ y.jr.length y.cJ] 88) = w1
      have b1 : Below wr.heap.size wr w1 := by rw [← hW]; exact bthen (balloc _ _) (balloc _ _)
      have k1 : Has w1 wr.heap.size 3 #[.int .i64 (k : Int)] := by rw [← hW]; exact has_alloc (has_new _ _ _) _
      have k2 : Has w1 (wr.heap.size + 1) 88 #[.slice y.A1 y.o.length y.c1, .slice y.A2 y.q.length y.c2, .slice y.AB y.bk.length y.cB, .int .i64 y.dk, .int .i64 y.ds, .bool y.dl, .bool y.dp, .bool y.df, .int .i64 y.par, .int .i64 y.who, .slice y.AJ y.jr.length y.cJ] := by rw [← hW]; have := has_new (wr.alloc (.cells #[.int .i64 (k : Int)] 3)) 88 #[.slice y.A1 y.o.length y.c1, .slice y.A2 y.q.length y.c2, .slice y.AB y.bk.length y.cB, .int .i64 y.dk, .int .i64 y.ds, .bool y.dl, .bool y.dp, .bool y.df, .int .i64 y.par, .int .i64 y.who, .slice y.AJ y.jr.length y.cJ]; simpa using this
      clear hW
      have hs1 := b1.size
      have B1 := Lib.hid (bthen BR.out b1); have K1 := Lib.hid k1
      have q2 := has_cell k2 2 rfl; have ql := has_lt k2
      clear k1 k2 b1
      go_wp2_with fail
      clear q2 ql
      go_loopw [22] (fun i wi => ∃ j : Nat, j ≤ y.bk.length ∧ i = .int .i64 (j : Int) ∧ AllCol n.pc k (y.bk.take j) ∧ Below w1.heap.size w1 wi) (fun i _ => y.bk.length - (intOf i).toNat)
      case atStart => exact ⟨0, Nat.zero_le _, rfl, fun c hc => by simp at hc, Below.refl _ _⟩
      case round =>
        obtain ⟨j, hj, rfl, hcol, hbi⟩ := hrel
        have HCOL := Lib.hid hcol; clear hcol
        have hszi := hbi.size
        have BI := Lib.hid hbi; clear hbi
        by_cases hjl : j < y.bk.length
        · obtain ⟨b3, off3, c, hA3, hbB3, hc, cc0, cc1, cc2⟩ := ((HVY.out.later hB (bthen BB.out (bthen B1.out BI.out))).kb).at_ hjl
          have HC := Lib.hid hc; clear hc
          have hvc := HVY.out.cv c (List.mem_of_getElem? HC.out)
          have HVC := Lib.hid hvc; clear hvc
          have hjj0 : (0 : Int) ≤ (j : Int) := by omega
          have hjj1 : (j : Int) < (y.bk.length : Int) := by omega
          have hbw3 : b3 < wr.heap.size := by omega
          rw [hA3]
          clear hA3
          go_upto_region 7 with fail
          clear cc0 cc1 cc2
          generalize hW : wr.alloc (.cells #[.int .i64 c.z, .slice c.AF c.F.length c.cF, .slice c.AB c.L.length c.cB] 123) = w3
          have b3' : Below wr.heap.size wr w3 := by rw [← hW]; exact balloc _ _
          have k3 : Has w3 wr.heap.size 123 #[.int .i64 c.z, .slice c.AF c.F.length c.cF, .slice c.AB c.L.length c.cB] := by rw [← hW]; exact has_new _ _ _
          clear hW
          have hs3 := b3'.size
          have B3 := Lib.hid (bthen BI.out b3')
          have q2 := has_cell k3 2 rfl; have ql := has_lt k3
          clear k3 b3'
          go_wp2_with fail
          clear q2 ql
          have B9 := Lib.hid (bthen BB.out (bthen B1.out B3.out))
          refine (anyBad_any w3 g o B w.heap.size _ n k c.AB c.cB c.L HVC.out.lb (HVC.out.later hB B9.out).b (HH.out.later B9.out) (Nat.le_trans hB B9.out.size) (HV.out.later hB B9.out) (has_lt (has_call K0.out (bthen B1.out B3.out))) (has_lt (has_call K1.out B3.out)) (has_cell (has_call K0.out (bthen B1.out B3.out)) 0 rfl) (has_cell (has_call K1.out B3.out) 0 rfl)).mono ?_
          rintro e w5 ⟨rfl, hb5⟩
          cases hq : c.L.any (badB n.pc k)
          · have HN := Lib.hid (HCOL.out.succ HC.out (any_bel hq))
            clear hq
            go_wp2_with fail
            go_roundw
            case rel => exact ⟨j + 1, by omega, by go_num, HN.out, bthen B3.out hb5⟩
            case measure => simp [intOf]; omega
          · go_wp2_with fail
            go_ret
            exact tells_no (fun h => any_bad HY.out (List.mem_of_getElem? HC.out) hq h.1) (bthen B9.out hb5)
        · have hjL : j = y.bk.length := by omega
          subst hjL
          have hb9 := HCOL.out
          rw [List.take_length] at hb9
          have HN := Lib.hid (HALL.out.succ HY.out hb9); clear hb9
          have hmk : ¬ (y.bk.length : Int) < (y.bk.length : Int) := by omega
          go_wp2_with fail
          go_roundw
          case rel => exact ⟨k + 1, by omega, by go_num, HN.out, bthen B1.out BI.out⟩
          case measure => simp [intOf]; omega
    · have hkl : k = n.st.length := by omega
      subst hkl
      have HBX := Lib.hid HALL.out.all
      have hkk : ¬ (n.st.length : Int) < (n.st.length : Int) := by omega
      have nc12 := (HH.out.later (bthen BB.out BR.out)).c 12 _ rfl
      have gl := (HH.out.later (bthen BB.out BR.out)).lt
      have d0 := has_cell (has_call K0.out BR.out) 0 rfl; have dl := has_lt (has_call K0.out BR.out)
      go_wp2_with fail
      clear nc12 gl d0 dl hkk HALL hlt
      go_loopw [37] (fun i wi => ∃ k : Nat, k ≤ n.pc.length ∧ i = .int .i64 (k : Int) ∧ (∀ (j : Nat) (p : Pc), j < k → n.pc[j]? = some p → keptB p = true → 0 ≤ gIdx (hasC ((j : Int) + 1)) (bankAt n.st p.site) 0) ∧ Below w0.heap.size w0 wi) (fun i _ => n.pc.length - (intOf i).toNat)
      case atStart => exact ⟨0, Nat.zero_le _, rfl, fun j p h => by omega, BR.out⟩
      case round =>
        obtain ⟨k, hk2, rfl, hall, hb⟩ := hrel
        have HALL := Lib.hid hall; clear hall
        have hszi := hb.size
        have BI := Lib.hid hb; clear hb
        by_cases hlt : k < n.pc.length
        · obtain ⟨b, off, p, hA, hbB, hp, hc0, hc1, hc2, hc3, hc4, hc5, hc6, hc7, hc8, hc9, hc10, hc11, hc12⟩ := ((HV.out.later hB (bthen BB.out BI.out)).pl).at_ hlt
          have HP := Lib.hid hp; clear hp
          have hkk0 : (0 : Int) ≤ (k : Int) := by omega
          have hkk1 : (k : Int) < (n.pc.length : Int) := by omega
          have hbw : b < wr.heap.size := by omega
          rw [hA]
          clear hA
          go_upto_region 14 with fail
          clear hc0 hc1 hc2 hc3 hc4 hc5 hc6 hc7 hc8 hc9 hc10 hc11 hc12
          generalize hW : wr.alloc (.cells #[.int .i64 p.size, .int .i64 p.owner, .int .i64 p.site, .int .i64 p.stage, .int .i64 p.since, .int .i64 p.ext, .int .i64 p.ls, .int .i64 p.ln, .int .i64 p.lt, .int .i64 p.lp, .int .i64 p.lu, .int .i64 p.who, .int .i64 p.fee] 55) = w1
          have b1 : Below wr.heap.size wr w1 := by rw [← hW]; exact balloc _ _
          have k1 : Has w1 wr.heap.size 55 #[.int .i64 p.size, .int .i64 p.owner, .int .i64 p.site, .int .i64 p.stage, .int .i64 p.since, .int .i64 p.ext, .int .i64 p.ls, .int .i64 p.ln, .int .i64 p.lt, .int .i64 p.lp, .int .i64 p.lu, .int .i64 p.who, .int .i64 p.fee] := by rw [← hW]; exact has_new _ _ _
          clear hW
          have hs1 := b1.size
          have B1 := Lib.hid (bthen BI.out b1); have K := Lib.hid k1; clear k1 b1
          have hsr := HSR.out p (List.mem_of_getElem? HP.out)
          obtain ⟨j, hj⟩ := Int.eq_ofNat_of_zero_le hsr.1
          have hjl : j < n.st.length := by omega
          obtain ⟨b2, off2, y, hA2, hbB2, hy, sc0, sc1, sc2, sc3, sc4, sc5, sc6, sc7, sc8, sc9, sc10⟩ := ((HV.out.later hB (bthen (bthen BB.out B1.out) (Below.refl _ _).drew)).si).at_ hjl
          have hba : bankAt n.st p.site = y.bk := by rw [hj]; exact bankAt_eq hy
          have HVY := Lib.hid (HV.out.sv y (List.mem_of_getElem? hy))
          have hbw2 : b2 < w1.heap.size := by omega
          have hjj0 : (0 : Int) ≤ (j : Int) := by omega
          have hjj1 : (j : Int) < (n.st.length : Int) := by omega
          clear sc0 sc1 sc3 sc4 sc5 sc6 sc7 sc8 sc9 sc10 hy hbB2
          have hye : (keptB p = true → 0 ≤ gIdx (hasC ((k : Int) + 1)) y.bk 0) → ∀ (j : Nat) (x : Pc), j < k + 1 → n.pc[j]? = some x → keptB x = true → 0 ≤ gIdx (hasC ((j : Int) + 1)) (bankAt n.st x.site) 0 := fun h j x hj hx hkx => by
            by_cases e : j = k
            · subst e; rw [HP.out] at hx; injection hx with hx; subst hx; rw [hba]; exact h hkx
            · exact HALL.out j x (by omega) hx hkx
          have hno : keptB p = true → gIdx (hasC ((k : Int) + 1)) y.bk 0 < 0 → ¬ KeptP n := fun h1 h2 g => by have := g k p HP.out h1; rw [hba] at this; omega
          have HYE := Lib.hid hye; have HNO := Lib.hid hno; clear hye hno hba
          have HCW := Lib.hid (fun W (hb9 : Below w1.heap.size w1 W) => colW_any W B y.AB y.bk.length y.cB ((k : Int) + 1) y.bk rfl HVY.out.l3 (by have := hb9.size; omega) (HVY.out.later hB (bthen (bthen BB.out B1.out) hb9)).kb (HVY.out.later hB (bthen (bthen BB.out B1.out) hb9)).cv)
          have hgl := (HH.out.later (bthen BB.out B1.out)).lt
          have hkl2 := has_lt K.out
          have hk0l := has_lt K0.out
          have HSC := Lib.hid sc2; have HA2 := Lib.hid hA2; have HJ := Lib.hid hj; clear sc2 hA2 hj hsr
          cases h9 : keptB p
          · skip
            have pc0 := has_cell (has_drew K.out) 0 rfl; have pc1 := has_cell (has_drew K.out) 1 rfl; have pc2 := has_cell (has_drew K.out) 2 rfl; have pc3 := has_cell (has_drew K.out) 3 rfl; have pc4 := has_cell (has_drew K.out) 4 rfl; have pc5 := has_cell (has_drew K.out) 5 rfl; have pc6 := has_cell (has_drew K.out) 6 rfl; have pc7 := has_cell (has_drew K.out) 7 rfl; have pc8 := has_cell (has_drew K.out) 8 rfl; have pc9 := has_cell (has_drew K.out) 9 rfl; have pc10 := has_cell (has_drew K.out) 10 rfl; have pc11 := has_cell (has_drew K.out) 11 rfl; have pc12 := has_cell (has_drew K.out) 12 rfl
            have nc11 := (HH.out.later (bthen (bthen BB.out B1.out) (Below.refl _ _).drew)).c 11 _ rfl
            rw [HA2.out] at nc11
            have sc2 := HSC.out
            have d0 := has_cell (has_drew (has_call K0.out B1.out)) 0 rfl
            have S0 : (fun W : World => (W.cell? ⟨wr.heap.size, 0, none⟩ = some (.int .i64 p.size) ∧ W.cell? ⟨wr.heap.size, 1, none⟩ = some (.int .i64 p.owner) ∧ W.cell? ⟨wr.heap.size, 2, none⟩ = some (.int .i64 p.site) ∧ W.cell? ⟨wr.heap.size, 3, none⟩ = some (.int .i64 p.stage) ∧ W.cell? ⟨wr.heap.size, 4, none⟩ = some (.int .i64 p.since) ∧ W.cell? ⟨wr.heap.size, 5, none⟩ = some (.int .i64 p.ext) ∧ W.cell? ⟨wr.heap.size, 6, none⟩ = some (.int .i64 p.ls) ∧ W.cell? ⟨wr.heap.size, 7, none⟩ = some (.int .i64 p.ln) ∧ W.cell? ⟨wr.heap.size, 8, none⟩ = some (.int .i64 p.lt) ∧ W.cell? ⟨wr.heap.size, 9, none⟩ = some (.int .i64 p.lp) ∧ W.cell? ⟨wr.heap.size, 10, none⟩ = some (.int .i64 p.lu) ∧ W.cell? ⟨wr.heap.size, 11, none⟩ = some (.int .i64 p.who) ∧ W.cell? ⟨wr.heap.size, 12, none⟩ = some (.int .i64 p.fee) ∧ W.cell? ⟨w.heap.size, 0, none⟩ = some (.pointer (some ⟨g, o, none⟩)) ∧ W.cell? ⟨g, o + 11, none⟩ = some (.slice (some ⟨b2, off2, none⟩) n.st.length n.cS) ∧ W.cell? ⟨b2, off2 + j * 11 + 2, none⟩ = some (.slice y.AB y.bk.length y.cB)) ∧ Below w1.heap.size w1 W) w1.drew := ⟨⟨pc0, pc1, pc2, pc3, pc4, pc5, pc6, pc7, pc8, pc9, pc10, pc11, pc12, d0, nc11, sc2⟩, (Below.refl _ _).drew⟩
            clear pc0 pc1 pc2 pc3 pc4 pc5 pc6 pc7 pc8 pc9 pc10 pc11 pc12 d0 nc11 sc2
            refine wp_region_held_drew (S := (fun W : World => (W.cell? ⟨wr.heap.size, 0, none⟩ = some (.int .i64 p.size) ∧ W.cell? ⟨wr.heap.size, 1, none⟩ = some (.int .i64 p.owner) ∧ W.cell? ⟨wr.heap.size, 2, none⟩ = some (.int .i64 p.site) ∧ W.cell? ⟨wr.heap.size, 3, none⟩ = some (.int .i64 p.stage) ∧ W.cell? ⟨wr.heap.size, 4, none⟩ = some (.int .i64 p.since) ∧ W.cell? ⟨wr.heap.size, 5, none⟩ = some (.int .i64 p.ext) ∧ W.cell? ⟨wr.heap.size, 6, none⟩ = some (.int .i64 p.ls) ∧ W.cell? ⟨wr.heap.size, 7, none⟩ = some (.int .i64 p.ln) ∧ W.cell? ⟨wr.heap.size, 8, none⟩ = some (.int .i64 p.lt) ∧ W.cell? ⟨wr.heap.size, 9, none⟩ = some (.int .i64 p.lp) ∧ W.cell? ⟨wr.heap.size, 10, none⟩ = some (.int .i64 p.lu) ∧ W.cell? ⟨wr.heap.size, 11, none⟩ = some (.int .i64 p.who) ∧ W.cell? ⟨wr.heap.size, 12, none⟩ = some (.int .i64 p.fee) ∧ W.cell? ⟨w.heap.size, 0, none⟩ = some (.pointer (some ⟨g, o, none⟩)) ∧ W.cell? ⟨g, o + 11, none⟩ = some (.slice (some ⟨b2, off2, none⟩) n.st.length n.cS) ∧ W.cell? ⟨b2, off2 + j * 11 + 2, none⟩ = some (.slice y.AB y.bk.length y.cB)) ∧ Below w1.heap.size w1 W)) (by kernel_rfl) S0 (fun _ => ?_)
            refine tk9 (i := 0) (some 42) (.agg #[.int .i64 p.size, .int .i64 p.owner, .int .i64 p.site, .int .i64 p.stage, .int .i64 p.since, .int .i64 p.ext, .int .i64 p.ls, .int .i64 p.ln, .int .i64 p.lt, .int .i64 p.lp, .int .i64 p.lu, .int .i64 p.who, .int .i64 p.fee]) rfl rfl (fun W hSw => ?_) S0 ?_
            · (try dsimp only at hSw); go_simp <;> with_reducible rfl
            try simp only [Act.put, l9a, l9z, l9s]
            refine wpAnyH_ready (rs := [1]) (by kernel_rfl) (by simp) ?_
            refine AllReadyH.cons rfl (fun K hK => ?_) AllReadyH.nil
            go_simp
            go_at_call 90
            refine (keptI_any _ p).mono ?_
            rintro e wa ⟨rfl, hb8⟩
            rw [h9]
            have hb9wa : Below w1.heap.size w1 wa := bthen ((Below.refl _ _).drew : Below w1.heap.size w1 w1.drew) hb8
            have Swa : (fun W : World => (W.cell? ⟨wr.heap.size, 0, none⟩ = some (.int .i64 p.size) ∧ W.cell? ⟨wr.heap.size, 1, none⟩ = some (.int .i64 p.owner) ∧ W.cell? ⟨wr.heap.size, 2, none⟩ = some (.int .i64 p.site) ∧ W.cell? ⟨wr.heap.size, 3, none⟩ = some (.int .i64 p.stage) ∧ W.cell? ⟨wr.heap.size, 4, none⟩ = some (.int .i64 p.since) ∧ W.cell? ⟨wr.heap.size, 5, none⟩ = some (.int .i64 p.ext) ∧ W.cell? ⟨wr.heap.size, 6, none⟩ = some (.int .i64 p.ls) ∧ W.cell? ⟨wr.heap.size, 7, none⟩ = some (.int .i64 p.ln) ∧ W.cell? ⟨wr.heap.size, 8, none⟩ = some (.int .i64 p.lt) ∧ W.cell? ⟨wr.heap.size, 9, none⟩ = some (.int .i64 p.lp) ∧ W.cell? ⟨wr.heap.size, 10, none⟩ = some (.int .i64 p.lu) ∧ W.cell? ⟨wr.heap.size, 11, none⟩ = some (.int .i64 p.who) ∧ W.cell? ⟨wr.heap.size, 12, none⟩ = some (.int .i64 p.fee) ∧ W.cell? ⟨w.heap.size, 0, none⟩ = some (.pointer (some ⟨g, o, none⟩)) ∧ W.cell? ⟨g, o + 11, none⟩ = some (.slice (some ⟨b2, off2, none⟩) n.st.length n.cS) ∧ W.cell? ⟨b2, off2 + j * 11 + 2, none⟩ = some (.slice y.AB y.bk.length y.cB)) ∧ Below w1.heap.size w1 W) wa := ⟨⟨(bold hb9wa _ _ (by omega)).trans S0.1.1, (bold hb9wa _ _ (by omega)).trans S0.1.2.1, (bold hb9wa _ _ (by omega)).trans S0.1.2.2.1, (bold hb9wa _ _ (by omega)).trans S0.1.2.2.2.1, (bold hb9wa _ _ (by omega)).trans S0.1.2.2.2.2.1, (bold hb9wa _ _ (by omega)).trans S0.1.2.2.2.2.2.1, (bold hb9wa _ _ (by omega)).trans S0.1.2.2.2.2.2.2.1, (bold hb9wa _ _ (by omega)).trans S0.1.2.2.2.2.2.2.2.1, (bold hb9wa _ _ (by omega)).trans S0.1.2.2.2.2.2.2.2.2.1, (bold hb9wa _ _ (by omega)).trans S0.1.2.2.2.2.2.2.2.2.2.1, (bold hb9wa _ _ (by omega)).trans S0.1.2.2.2.2.2.2.2.2.2.2.1, (bold hb9wa _ _ (by omega)).trans S0.1.2.2.2.2.2.2.2.2.2.2.2.1, (bold hb9wa _ _ (by omega)).trans S0.1.2.2.2.2.2.2.2.2.2.2.2.2.1, (bold hb9wa _ _ (by omega)).trans S0.1.2.2.2.2.2.2.2.2.2.2.2.2.2.1, (bold hb9wa _ _ (by omega)).trans S0.1.2.2.2.2.2.2.2.2.2.2.2.2.2.2.1, (bold hb9wa _ _ (by omega)).trans S0.1.2.2.2.2.2.2.2.2.2.2.2.2.2.2.2⟩, hb9wa⟩
            clear hb8
            go_wp2_with fail
            refine hK.out _ _ Swa (fun _ => ?_)
            clear hK K
            try simp only [Act.put, l9a, l9z, l9s]
            refine tk9 (i := 2) (some 44) (.bool false) rfl rfl (fun W hSw => ?_) Swa ?_
            · (try dsimp only at hSw); go_simp <;> with_reducible rfl
            try simp only [Act.put, l9a, l9z, l9s]
            refine sk9 (i := 3) (some 45) rfl rfl Swa ?_
            try simp only [Act.put, l9a, l9z, l9s]
            refine sk9 (i := 4) (some 46) rfl rfl Swa ?_
            try simp only [Act.put, l9a, l9z, l9s]
            refine sk9 (i := 5) (some 47) rfl rfl Swa ?_
            try simp only [Act.put, l9a, l9z, l9s]
            refine sk9 (i := 6) (some 48) rfl rfl Swa ?_
            try simp only [Act.put, l9a, l9z, l9s]
            refine sk9 (i := 7) (some 49) rfl rfl Swa ?_
            try simp only [Act.put, l9a, l9z, l9s]
            refine sk9 (i := 8) (some 50) rfl rfl Swa ?_
            try simp only [Act.put, l9a, l9z, l9s]
            refine sk9 (i := 9) (some 51) rfl rfl Swa ?_
            try simp only [Act.put, l9a, l9z, l9s]
            refine sk9 (i := 10) (some 52) rfl rfl Swa ?_
            try simp only [Act.put, l9a, l9z, l9s]
            refine sk9 (i := 11) (some 53) rfl rfl Swa ?_
            try simp only [Act.put, l9a, l9z, l9s]
            refine sk9 (i := 12) (some 54) rfl rfl Swa ?_
            try simp only [Act.put, l9a, l9z, l9s]
            refine sk9 (i := 13) (some 55) rfl rfl Swa ?_
            try simp only [Act.put, l9a, l9z, l9s]
            refine sk9 (i := 14) (some 56) rfl rfl Swa ?_
            try simp only [Act.put, l9a, l9z, l9s]
            refine sk9 (i := 15) (some 57) rfl rfl Swa ?_
            try simp only [Act.put, l9a, l9z, l9s]
            refine tk9 (i := 16) (some 58) (.bool false) rfl rfl (fun W hSw => ?_) Swa ?_
            · (try dsimp only at hSw); go_simp <;> with_reducible rfl
            try simp only [Act.put, l9a, l9z, l9s]
            refine wpAnyH_done (by kernel_rfl) ?_ _
            have hbreg : Below w1.heap.size w1 wa := Swa.2
            clear S0 Swa hb9wa
            have HN := Lib.hid (HYE.out (fun h => by rw [h9] at h; cases h))
            go_wp2_with fail
            go_roundw
            case rel => exact ⟨k + 1, by omega, by go_num, HN.out, bthen B1.out hbreg⟩
            case measure => simp [intOf]; omega
          obtain ⟨gi, hgi⟩ : ∃ v, gIdx (hasC ((k : Int) + 1)) y.bk 0 = v := ⟨_, rfl⟩
          by_cases hlt0 : gi < 0
          · skip
            have pc0 := has_cell (has_drew K.out) 0 rfl; have pc1 := has_cell (has_drew K.out) 1 rfl; have pc2 := has_cell (has_drew K.out) 2 rfl; have pc3 := has_cell (has_drew K.out) 3 rfl; have pc4 := has_cell (has_drew K.out) 4 rfl; have pc5 := has_cell (has_drew K.out) 5 rfl; have pc6 := has_cell (has_drew K.out) 6 rfl; have pc7 := has_cell (has_drew K.out) 7 rfl; have pc8 := has_cell (has_drew K.out) 8 rfl; have pc9 := has_cell (has_drew K.out) 9 rfl; have pc10 := has_cell (has_drew K.out) 10 rfl; have pc11 := has_cell (has_drew K.out) 11 rfl; have pc12 := has_cell (has_drew K.out) 12 rfl
            have nc11 := (HH.out.later (bthen (bthen BB.out B1.out) (Below.refl _ _).drew)).c 11 _ rfl
            rw [HA2.out] at nc11
            have sc2 := HSC.out
            have d0 := has_cell (has_drew (has_call K0.out B1.out)) 0 rfl
            have S0 : (fun W : World => (W.cell? ⟨wr.heap.size, 0, none⟩ = some (.int .i64 p.size) ∧ W.cell? ⟨wr.heap.size, 1, none⟩ = some (.int .i64 p.owner) ∧ W.cell? ⟨wr.heap.size, 2, none⟩ = some (.int .i64 p.site) ∧ W.cell? ⟨wr.heap.size, 3, none⟩ = some (.int .i64 p.stage) ∧ W.cell? ⟨wr.heap.size, 4, none⟩ = some (.int .i64 p.since) ∧ W.cell? ⟨wr.heap.size, 5, none⟩ = some (.int .i64 p.ext) ∧ W.cell? ⟨wr.heap.size, 6, none⟩ = some (.int .i64 p.ls) ∧ W.cell? ⟨wr.heap.size, 7, none⟩ = some (.int .i64 p.ln) ∧ W.cell? ⟨wr.heap.size, 8, none⟩ = some (.int .i64 p.lt) ∧ W.cell? ⟨wr.heap.size, 9, none⟩ = some (.int .i64 p.lp) ∧ W.cell? ⟨wr.heap.size, 10, none⟩ = some (.int .i64 p.lu) ∧ W.cell? ⟨wr.heap.size, 11, none⟩ = some (.int .i64 p.who) ∧ W.cell? ⟨wr.heap.size, 12, none⟩ = some (.int .i64 p.fee) ∧ W.cell? ⟨w.heap.size, 0, none⟩ = some (.pointer (some ⟨g, o, none⟩)) ∧ W.cell? ⟨g, o + 11, none⟩ = some (.slice (some ⟨b2, off2, none⟩) n.st.length n.cS) ∧ W.cell? ⟨b2, off2 + j * 11 + 2, none⟩ = some (.slice y.AB y.bk.length y.cB)) ∧ Below w1.heap.size w1 W) w1.drew := ⟨⟨pc0, pc1, pc2, pc3, pc4, pc5, pc6, pc7, pc8, pc9, pc10, pc11, pc12, d0, nc11, sc2⟩, (Below.refl _ _).drew⟩
            clear pc0 pc1 pc2 pc3 pc4 pc5 pc6 pc7 pc8 pc9 pc10 pc11 pc12 d0 nc11 sc2
            refine wp_region_held_drew (S := (fun W : World => (W.cell? ⟨wr.heap.size, 0, none⟩ = some (.int .i64 p.size) ∧ W.cell? ⟨wr.heap.size, 1, none⟩ = some (.int .i64 p.owner) ∧ W.cell? ⟨wr.heap.size, 2, none⟩ = some (.int .i64 p.site) ∧ W.cell? ⟨wr.heap.size, 3, none⟩ = some (.int .i64 p.stage) ∧ W.cell? ⟨wr.heap.size, 4, none⟩ = some (.int .i64 p.since) ∧ W.cell? ⟨wr.heap.size, 5, none⟩ = some (.int .i64 p.ext) ∧ W.cell? ⟨wr.heap.size, 6, none⟩ = some (.int .i64 p.ls) ∧ W.cell? ⟨wr.heap.size, 7, none⟩ = some (.int .i64 p.ln) ∧ W.cell? ⟨wr.heap.size, 8, none⟩ = some (.int .i64 p.lt) ∧ W.cell? ⟨wr.heap.size, 9, none⟩ = some (.int .i64 p.lp) ∧ W.cell? ⟨wr.heap.size, 10, none⟩ = some (.int .i64 p.lu) ∧ W.cell? ⟨wr.heap.size, 11, none⟩ = some (.int .i64 p.who) ∧ W.cell? ⟨wr.heap.size, 12, none⟩ = some (.int .i64 p.fee) ∧ W.cell? ⟨w.heap.size, 0, none⟩ = some (.pointer (some ⟨g, o, none⟩)) ∧ W.cell? ⟨g, o + 11, none⟩ = some (.slice (some ⟨b2, off2, none⟩) n.st.length n.cS) ∧ W.cell? ⟨b2, off2 + j * 11 + 2, none⟩ = some (.slice y.AB y.bk.length y.cB)) ∧ Below w1.heap.size w1 W)) (by kernel_rfl) S0 (fun _ => ?_)
            refine tk9 (i := 0) (some 42) (.agg #[.int .i64 p.size, .int .i64 p.owner, .int .i64 p.site, .int .i64 p.stage, .int .i64 p.since, .int .i64 p.ext, .int .i64 p.ls, .int .i64 p.ln, .int .i64 p.lt, .int .i64 p.lp, .int .i64 p.lu, .int .i64 p.who, .int .i64 p.fee]) rfl rfl (fun W hSw => ?_) S0 ?_
            · (try dsimp only at hSw); go_simp <;> with_reducible rfl
            try simp only [Act.put, l9a, l9z, l9s]
            refine wpAnyH_ready (rs := [1]) (by kernel_rfl) (by simp) ?_
            refine AllReadyH.cons rfl (fun K hK => ?_) AllReadyH.nil
            go_simp
            go_at_call 90
            refine (keptI_any _ p).mono ?_
            rintro e wa ⟨rfl, hb8⟩
            rw [h9]
            have hb9wa : Below w1.heap.size w1 wa := bthen ((Below.refl _ _).drew : Below w1.heap.size w1 w1.drew) hb8
            have Swa : (fun W : World => (W.cell? ⟨wr.heap.size, 0, none⟩ = some (.int .i64 p.size) ∧ W.cell? ⟨wr.heap.size, 1, none⟩ = some (.int .i64 p.owner) ∧ W.cell? ⟨wr.heap.size, 2, none⟩ = some (.int .i64 p.site) ∧ W.cell? ⟨wr.heap.size, 3, none⟩ = some (.int .i64 p.stage) ∧ W.cell? ⟨wr.heap.size, 4, none⟩ = some (.int .i64 p.since) ∧ W.cell? ⟨wr.heap.size, 5, none⟩ = some (.int .i64 p.ext) ∧ W.cell? ⟨wr.heap.size, 6, none⟩ = some (.int .i64 p.ls) ∧ W.cell? ⟨wr.heap.size, 7, none⟩ = some (.int .i64 p.ln) ∧ W.cell? ⟨wr.heap.size, 8, none⟩ = some (.int .i64 p.lt) ∧ W.cell? ⟨wr.heap.size, 9, none⟩ = some (.int .i64 p.lp) ∧ W.cell? ⟨wr.heap.size, 10, none⟩ = some (.int .i64 p.lu) ∧ W.cell? ⟨wr.heap.size, 11, none⟩ = some (.int .i64 p.who) ∧ W.cell? ⟨wr.heap.size, 12, none⟩ = some (.int .i64 p.fee) ∧ W.cell? ⟨w.heap.size, 0, none⟩ = some (.pointer (some ⟨g, o, none⟩)) ∧ W.cell? ⟨g, o + 11, none⟩ = some (.slice (some ⟨b2, off2, none⟩) n.st.length n.cS) ∧ W.cell? ⟨b2, off2 + j * 11 + 2, none⟩ = some (.slice y.AB y.bk.length y.cB)) ∧ Below w1.heap.size w1 W) wa := ⟨⟨(bold hb9wa _ _ (by omega)).trans S0.1.1, (bold hb9wa _ _ (by omega)).trans S0.1.2.1, (bold hb9wa _ _ (by omega)).trans S0.1.2.2.1, (bold hb9wa _ _ (by omega)).trans S0.1.2.2.2.1, (bold hb9wa _ _ (by omega)).trans S0.1.2.2.2.2.1, (bold hb9wa _ _ (by omega)).trans S0.1.2.2.2.2.2.1, (bold hb9wa _ _ (by omega)).trans S0.1.2.2.2.2.2.2.1, (bold hb9wa _ _ (by omega)).trans S0.1.2.2.2.2.2.2.2.1, (bold hb9wa _ _ (by omega)).trans S0.1.2.2.2.2.2.2.2.2.1, (bold hb9wa _ _ (by omega)).trans S0.1.2.2.2.2.2.2.2.2.2.1, (bold hb9wa _ _ (by omega)).trans S0.1.2.2.2.2.2.2.2.2.2.2.1, (bold hb9wa _ _ (by omega)).trans S0.1.2.2.2.2.2.2.2.2.2.2.2.1, (bold hb9wa _ _ (by omega)).trans S0.1.2.2.2.2.2.2.2.2.2.2.2.2.1, (bold hb9wa _ _ (by omega)).trans S0.1.2.2.2.2.2.2.2.2.2.2.2.2.2.1, (bold hb9wa _ _ (by omega)).trans S0.1.2.2.2.2.2.2.2.2.2.2.2.2.2.2.1, (bold hb9wa _ _ (by omega)).trans S0.1.2.2.2.2.2.2.2.2.2.2.2.2.2.2.2⟩, hb9wa⟩
            clear hb8
            go_wp2_with fail
            refine hK.out _ _ Swa (fun _ => ?_)
            clear hK K
            try simp only [Act.put, l9a, l9z, l9s]
            refine tk9 (i := 2) (some 44) (.bool true) rfl rfl (fun W hSw => ?_) Swa ?_
            · (try dsimp only at hSw); go_simp <;> with_reducible rfl
            try simp only [Act.put, l9a, l9z, l9s]
            refine tk9 (i := 3) (some 45) (.pointer (some ⟨g, o, none⟩)) rfl rfl (fun W hSw => ?_) Swa ?_
            · (try dsimp only at hSw); go_simp <;> with_reducible rfl
            try simp only [Act.put, l9a, l9z, l9s]
            refine tk9 (i := 4) (some 46) (.pointer (some ⟨g, o, none⟩)) rfl rfl (fun W hSw => ?_) Swa ?_
            · (try dsimp only at hSw); go_simp <;> with_reducible rfl
            try simp only [Act.put, l9a, l9z, l9s]
            refine tk9 (i := 5) (some 47) (.pointer (some ⟨g, o + 11, none⟩)) rfl rfl (fun W hSw => ?_) Swa ?_
            · (try dsimp only at hSw); go_simp <;> with_reducible rfl
            try simp only [Act.put, l9a, l9z, l9s]
            refine tk9 (i := 6) (some 48) (.slice (some ⟨b2, off2, none⟩) n.st.length n.cS) rfl rfl (fun W hSw => ?_) Swa ?_
            · (try dsimp only at hSw); go_simp <;> with_reducible rfl
            try simp only [Act.put, l9a, l9z, l9s]
            refine tk9 (i := 7) (some 49) (.pointer (some ⟨wr.heap.size, 2, none⟩)) rfl rfl (fun W hSw => ?_) Swa ?_
            · (try dsimp only at hSw); go_simp <;> with_reducible rfl
            try simp only [Act.put, l9a, l9z, l9s]
            refine tk9 (i := 8) (some 50) (.int .i64 (j : Int)) rfl rfl (fun W hSw => ?_) Swa ?_
            · (try dsimp only at hSw); go_simp <;> first | with_reducible rfl | (rw [HJ.out]) | (rw [← HJ.out])
            try simp only [Act.put, l9a, l9z, l9s]
            refine tk9 (i := 9) (some 51) (.pointer (some ⟨b2, off2 + j * 11, none⟩)) rfl rfl (fun W hSw => ?_) Swa ?_
            · (try dsimp only at hSw); go_simp <;> with_reducible rfl
            try simp only [Act.put, l9a, l9z, l9s]
            refine tk9 (i := 10) (some 52) (.pointer (some ⟨b2, off2 + j * 11 + 2, none⟩)) rfl rfl (fun W hSw => ?_) Swa ?_
            · (try dsimp only at hSw); go_simp <;> with_reducible rfl
            try simp only [Act.put, l9a, l9z, l9s]
            refine tk9 (i := 11) (some 53) (.slice y.AB y.bk.length y.cB) rfl rfl (fun W hSw => ?_) Swa ?_
            · (try dsimp only at hSw); go_simp <;> with_reducible rfl
            try simp only [Act.put, l9a, l9z, l9s]
            refine tk9 (i := 12) (some 54) (.int .i64 (k : Int)) rfl rfl (fun W hSw => ?_) Swa ?_
            · (try dsimp only at hSw); go_simp <;> with_reducible rfl
            try simp only [Act.put, l9a, l9z, l9s]
            refine tk9 (i := 13) (some 55) (.int .i64 ((k : Int) + 1)) rfl rfl (fun W hSw => ?_) Swa ?_
            · (try dsimp only at hSw); go_simp <;> (first | with_reducible rfl | exact IntWalk.i64_in _ (by omega))
            try simp only [Act.put, l9a, l9z, l9s]
            refine wpAnyH_ready (rs := [14]) (by kernel_rfl) (by simp) ?_
            refine AllReadyH.cons rfl (fun K hK => ?_) AllReadyH.nil
            go_simp
            go_at_call 91
            refine (HCW.out _ Swa.2).mono ?_
            rintro e wb ⟨rfl, hb8⟩
            rw [hgi]
            have hb9wb : Below w1.heap.size w1 wb := bthen Swa.2 hb8
            have Swb : (fun W : World => (W.cell? ⟨wr.heap.size, 0, none⟩ = some (.int .i64 p.size) ∧ W.cell? ⟨wr.heap.size, 1, none⟩ = some (.int .i64 p.owner) ∧ W.cell? ⟨wr.heap.size, 2, none⟩ = some (.int .i64 p.site) ∧ W.cell? ⟨wr.heap.size, 3, none⟩ = some (.int .i64 p.stage) ∧ W.cell? ⟨wr.heap.size, 4, none⟩ = some (.int .i64 p.since) ∧ W.cell? ⟨wr.heap.size, 5, none⟩ = some (.int .i64 p.ext) ∧ W.cell? ⟨wr.heap.size, 6, none⟩ = some (.int .i64 p.ls) ∧ W.cell? ⟨wr.heap.size, 7, none⟩ = some (.int .i64 p.ln) ∧ W.cell? ⟨wr.heap.size, 8, none⟩ = some (.int .i64 p.lt) ∧ W.cell? ⟨wr.heap.size, 9, none⟩ = some (.int .i64 p.lp) ∧ W.cell? ⟨wr.heap.size, 10, none⟩ = some (.int .i64 p.lu) ∧ W.cell? ⟨wr.heap.size, 11, none⟩ = some (.int .i64 p.who) ∧ W.cell? ⟨wr.heap.size, 12, none⟩ = some (.int .i64 p.fee) ∧ W.cell? ⟨w.heap.size, 0, none⟩ = some (.pointer (some ⟨g, o, none⟩)) ∧ W.cell? ⟨g, o + 11, none⟩ = some (.slice (some ⟨b2, off2, none⟩) n.st.length n.cS) ∧ W.cell? ⟨b2, off2 + j * 11 + 2, none⟩ = some (.slice y.AB y.bk.length y.cB)) ∧ Below w1.heap.size w1 W) wb := ⟨⟨(bold hb9wb _ _ (by omega)).trans S0.1.1, (bold hb9wb _ _ (by omega)).trans S0.1.2.1, (bold hb9wb _ _ (by omega)).trans S0.1.2.2.1, (bold hb9wb _ _ (by omega)).trans S0.1.2.2.2.1, (bold hb9wb _ _ (by omega)).trans S0.1.2.2.2.2.1, (bold hb9wb _ _ (by omega)).trans S0.1.2.2.2.2.2.1, (bold hb9wb _ _ (by omega)).trans S0.1.2.2.2.2.2.2.1, (bold hb9wb _ _ (by omega)).trans S0.1.2.2.2.2.2.2.2.1, (bold hb9wb _ _ (by omega)).trans S0.1.2.2.2.2.2.2.2.2.1, (bold hb9wb _ _ (by omega)).trans S0.1.2.2.2.2.2.2.2.2.2.1, (bold hb9wb _ _ (by omega)).trans S0.1.2.2.2.2.2.2.2.2.2.2.1, (bold hb9wb _ _ (by omega)).trans S0.1.2.2.2.2.2.2.2.2.2.2.2.1, (bold hb9wb _ _ (by omega)).trans S0.1.2.2.2.2.2.2.2.2.2.2.2.2.1, (bold hb9wb _ _ (by omega)).trans S0.1.2.2.2.2.2.2.2.2.2.2.2.2.2.1, (bold hb9wb _ _ (by omega)).trans S0.1.2.2.2.2.2.2.2.2.2.2.2.2.2.2.1, (bold hb9wb _ _ (by omega)).trans S0.1.2.2.2.2.2.2.2.2.2.2.2.2.2.2.2⟩, hb9wb⟩
            clear hb8
            go_wp2_with fail
            refine hK.out _ _ Swb (fun _ => ?_)
            clear hK K
            try simp only [Act.put, l9a, l9z, l9s]
            refine tk9 (i := 15) (some 57) (.bool true) rfl rfl (fun W hSw => ?_) Swb ?_
            · (try dsimp only at hSw); go_simp <;> with_reducible rfl
            try simp only [Act.put, l9a, l9z, l9s]
            refine tk9 (i := 16) (some 58) (.bool true) rfl rfl (fun W hSw => ?_) Swb ?_
            · (try dsimp only at hSw); go_simp <;> with_reducible rfl
            try simp only [Act.put, l9a, l9z, l9s]
            refine wpAnyH_done (by kernel_rfl) ?_ _
            have hbreg : Below w1.heap.size w1 wb := Swb.2
            clear S0 Swa hb9wa Swb hb9wb
            go_wp2_with fail
            go_ret
            exact tells_no (fun h => HNO.out h9 (by rw [hgi]; exact hlt0) h.2) (bthen BB.out (bthen B1.out hbreg))
          have pc0 := has_cell (has_drew K.out) 0 rfl; have pc1 := has_cell (has_drew K.out) 1 rfl; have pc2 := has_cell (has_drew K.out) 2 rfl; have pc3 := has_cell (has_drew K.out) 3 rfl; have pc4 := has_cell (has_drew K.out) 4 rfl; have pc5 := has_cell (has_drew K.out) 5 rfl; have pc6 := has_cell (has_drew K.out) 6 rfl; have pc7 := has_cell (has_drew K.out) 7 rfl; have pc8 := has_cell (has_drew K.out) 8 rfl; have pc9 := has_cell (has_drew K.out) 9 rfl; have pc10 := has_cell (has_drew K.out) 10 rfl; have pc11 := has_cell (has_drew K.out) 11 rfl; have pc12 := has_cell (has_drew K.out) 12 rfl
          have nc11 := (HH.out.later (bthen (bthen BB.out B1.out) (Below.refl _ _).drew)).c 11 _ rfl
          rw [HA2.out] at nc11
          have sc2 := HSC.out
          have d0 := has_cell (has_drew (has_call K0.out B1.out)) 0 rfl
          have S0 : (fun W : World => (W.cell? ⟨wr.heap.size, 0, none⟩ = some (.int .i64 p.size) ∧ W.cell? ⟨wr.heap.size, 1, none⟩ = some (.int .i64 p.owner) ∧ W.cell? ⟨wr.heap.size, 2, none⟩ = some (.int .i64 p.site) ∧ W.cell? ⟨wr.heap.size, 3, none⟩ = some (.int .i64 p.stage) ∧ W.cell? ⟨wr.heap.size, 4, none⟩ = some (.int .i64 p.since) ∧ W.cell? ⟨wr.heap.size, 5, none⟩ = some (.int .i64 p.ext) ∧ W.cell? ⟨wr.heap.size, 6, none⟩ = some (.int .i64 p.ls) ∧ W.cell? ⟨wr.heap.size, 7, none⟩ = some (.int .i64 p.ln) ∧ W.cell? ⟨wr.heap.size, 8, none⟩ = some (.int .i64 p.lt) ∧ W.cell? ⟨wr.heap.size, 9, none⟩ = some (.int .i64 p.lp) ∧ W.cell? ⟨wr.heap.size, 10, none⟩ = some (.int .i64 p.lu) ∧ W.cell? ⟨wr.heap.size, 11, none⟩ = some (.int .i64 p.who) ∧ W.cell? ⟨wr.heap.size, 12, none⟩ = some (.int .i64 p.fee) ∧ W.cell? ⟨w.heap.size, 0, none⟩ = some (.pointer (some ⟨g, o, none⟩)) ∧ W.cell? ⟨g, o + 11, none⟩ = some (.slice (some ⟨b2, off2, none⟩) n.st.length n.cS) ∧ W.cell? ⟨b2, off2 + j * 11 + 2, none⟩ = some (.slice y.AB y.bk.length y.cB)) ∧ Below w1.heap.size w1 W) w1.drew := ⟨⟨pc0, pc1, pc2, pc3, pc4, pc5, pc6, pc7, pc8, pc9, pc10, pc11, pc12, d0, nc11, sc2⟩, (Below.refl _ _).drew⟩
          clear pc0 pc1 pc2 pc3 pc4 pc5 pc6 pc7 pc8 pc9 pc10 pc11 pc12 d0 nc11 sc2
          refine wp_region_held_drew (S := (fun W : World => (W.cell? ⟨wr.heap.size, 0, none⟩ = some (.int .i64 p.size) ∧ W.cell? ⟨wr.heap.size, 1, none⟩ = some (.int .i64 p.owner) ∧ W.cell? ⟨wr.heap.size, 2, none⟩ = some (.int .i64 p.site) ∧ W.cell? ⟨wr.heap.size, 3, none⟩ = some (.int .i64 p.stage) ∧ W.cell? ⟨wr.heap.size, 4, none⟩ = some (.int .i64 p.since) ∧ W.cell? ⟨wr.heap.size, 5, none⟩ = some (.int .i64 p.ext) ∧ W.cell? ⟨wr.heap.size, 6, none⟩ = some (.int .i64 p.ls) ∧ W.cell? ⟨wr.heap.size, 7, none⟩ = some (.int .i64 p.ln) ∧ W.cell? ⟨wr.heap.size, 8, none⟩ = some (.int .i64 p.lt) ∧ W.cell? ⟨wr.heap.size, 9, none⟩ = some (.int .i64 p.lp) ∧ W.cell? ⟨wr.heap.size, 10, none⟩ = some (.int .i64 p.lu) ∧ W.cell? ⟨wr.heap.size, 11, none⟩ = some (.int .i64 p.who) ∧ W.cell? ⟨wr.heap.size, 12, none⟩ = some (.int .i64 p.fee) ∧ W.cell? ⟨w.heap.size, 0, none⟩ = some (.pointer (some ⟨g, o, none⟩)) ∧ W.cell? ⟨g, o + 11, none⟩ = some (.slice (some ⟨b2, off2, none⟩) n.st.length n.cS) ∧ W.cell? ⟨b2, off2 + j * 11 + 2, none⟩ = some (.slice y.AB y.bk.length y.cB)) ∧ Below w1.heap.size w1 W)) (by kernel_rfl) S0 (fun _ => ?_)
          refine tk9 (i := 0) (some 42) (.agg #[.int .i64 p.size, .int .i64 p.owner, .int .i64 p.site, .int .i64 p.stage, .int .i64 p.since, .int .i64 p.ext, .int .i64 p.ls, .int .i64 p.ln, .int .i64 p.lt, .int .i64 p.lp, .int .i64 p.lu, .int .i64 p.who, .int .i64 p.fee]) rfl rfl (fun W hSw => ?_) S0 ?_
          · (try dsimp only at hSw); go_simp <;> with_reducible rfl
          try simp only [Act.put, l9a, l9z, l9s]
          refine wpAnyH_ready (rs := [1]) (by kernel_rfl) (by simp) ?_
          refine AllReadyH.cons rfl (fun K hK => ?_) AllReadyH.nil
          go_simp
          go_at_call 90
          refine (keptI_any _ p).mono ?_
          rintro e wa ⟨rfl, hb8⟩
          rw [h9]
          have hb9wa : Below w1.heap.size w1 wa := bthen ((Below.refl _ _).drew : Below w1.heap.size w1 w1.drew) hb8
          have Swa : (fun W : World => (W.cell? ⟨wr.heap.size, 0, none⟩ = some (.int .i64 p.size) ∧ W.cell? ⟨wr.heap.size, 1, none⟩ = some (.int .i64 p.owner) ∧ W.cell? ⟨wr.heap.size, 2, none⟩ = some (.int .i64 p.site) ∧ W.cell? ⟨wr.heap.size, 3, none⟩ = some (.int .i64 p.stage) ∧ W.cell? ⟨wr.heap.size, 4, none⟩ = some (.int .i64 p.since) ∧ W.cell? ⟨wr.heap.size, 5, none⟩ = some (.int .i64 p.ext) ∧ W.cell? ⟨wr.heap.size, 6, none⟩ = some (.int .i64 p.ls) ∧ W.cell? ⟨wr.heap.size, 7, none⟩ = some (.int .i64 p.ln) ∧ W.cell? ⟨wr.heap.size, 8, none⟩ = some (.int .i64 p.lt) ∧ W.cell? ⟨wr.heap.size, 9, none⟩ = some (.int .i64 p.lp) ∧ W.cell? ⟨wr.heap.size, 10, none⟩ = some (.int .i64 p.lu) ∧ W.cell? ⟨wr.heap.size, 11, none⟩ = some (.int .i64 p.who) ∧ W.cell? ⟨wr.heap.size, 12, none⟩ = some (.int .i64 p.fee) ∧ W.cell? ⟨w.heap.size, 0, none⟩ = some (.pointer (some ⟨g, o, none⟩)) ∧ W.cell? ⟨g, o + 11, none⟩ = some (.slice (some ⟨b2, off2, none⟩) n.st.length n.cS) ∧ W.cell? ⟨b2, off2 + j * 11 + 2, none⟩ = some (.slice y.AB y.bk.length y.cB)) ∧ Below w1.heap.size w1 W) wa := ⟨⟨(bold hb9wa _ _ (by omega)).trans S0.1.1, (bold hb9wa _ _ (by omega)).trans S0.1.2.1, (bold hb9wa _ _ (by omega)).trans S0.1.2.2.1, (bold hb9wa _ _ (by omega)).trans S0.1.2.2.2.1, (bold hb9wa _ _ (by omega)).trans S0.1.2.2.2.2.1, (bold hb9wa _ _ (by omega)).trans S0.1.2.2.2.2.2.1, (bold hb9wa _ _ (by omega)).trans S0.1.2.2.2.2.2.2.1, (bold hb9wa _ _ (by omega)).trans S0.1.2.2.2.2.2.2.2.1, (bold hb9wa _ _ (by omega)).trans S0.1.2.2.2.2.2.2.2.2.1, (bold hb9wa _ _ (by omega)).trans S0.1.2.2.2.2.2.2.2.2.2.1, (bold hb9wa _ _ (by omega)).trans S0.1.2.2.2.2.2.2.2.2.2.2.1, (bold hb9wa _ _ (by omega)).trans S0.1.2.2.2.2.2.2.2.2.2.2.2.1, (bold hb9wa _ _ (by omega)).trans S0.1.2.2.2.2.2.2.2.2.2.2.2.2.1, (bold hb9wa _ _ (by omega)).trans S0.1.2.2.2.2.2.2.2.2.2.2.2.2.2.1, (bold hb9wa _ _ (by omega)).trans S0.1.2.2.2.2.2.2.2.2.2.2.2.2.2.2.1, (bold hb9wa _ _ (by omega)).trans S0.1.2.2.2.2.2.2.2.2.2.2.2.2.2.2.2⟩, hb9wa⟩
          clear hb8
          go_wp2_with fail
          refine hK.out _ _ Swa (fun _ => ?_)
          clear hK K
          try simp only [Act.put, l9a, l9z, l9s]
          refine tk9 (i := 2) (some 44) (.bool true) rfl rfl (fun W hSw => ?_) Swa ?_
          · (try dsimp only at hSw); go_simp <;> with_reducible rfl
          try simp only [Act.put, l9a, l9z, l9s]
          refine tk9 (i := 3) (some 45) (.pointer (some ⟨g, o, none⟩)) rfl rfl (fun W hSw => ?_) Swa ?_
          · (try dsimp only at hSw); go_simp <;> with_reducible rfl
          try simp only [Act.put, l9a, l9z, l9s]
          refine tk9 (i := 4) (some 46) (.pointer (some ⟨g, o, none⟩)) rfl rfl (fun W hSw => ?_) Swa ?_
          · (try dsimp only at hSw); go_simp <;> with_reducible rfl
          try simp only [Act.put, l9a, l9z, l9s]
          refine tk9 (i := 5) (some 47) (.pointer (some ⟨g, o + 11, none⟩)) rfl rfl (fun W hSw => ?_) Swa ?_
          · (try dsimp only at hSw); go_simp <;> with_reducible rfl
          try simp only [Act.put, l9a, l9z, l9s]
          refine tk9 (i := 6) (some 48) (.slice (some ⟨b2, off2, none⟩) n.st.length n.cS) rfl rfl (fun W hSw => ?_) Swa ?_
          · (try dsimp only at hSw); go_simp <;> with_reducible rfl
          try simp only [Act.put, l9a, l9z, l9s]
          refine tk9 (i := 7) (some 49) (.pointer (some ⟨wr.heap.size, 2, none⟩)) rfl rfl (fun W hSw => ?_) Swa ?_
          · (try dsimp only at hSw); go_simp <;> with_reducible rfl
          try simp only [Act.put, l9a, l9z, l9s]
          refine tk9 (i := 8) (some 50) (.int .i64 (j : Int)) rfl rfl (fun W hSw => ?_) Swa ?_
          · (try dsimp only at hSw); go_simp <;> first | with_reducible rfl | (rw [HJ.out]) | (rw [← HJ.out])
          try simp only [Act.put, l9a, l9z, l9s]
          refine tk9 (i := 9) (some 51) (.pointer (some ⟨b2, off2 + j * 11, none⟩)) rfl rfl (fun W hSw => ?_) Swa ?_
          · (try dsimp only at hSw); go_simp <;> with_reducible rfl
          try simp only [Act.put, l9a, l9z, l9s]
          refine tk9 (i := 10) (some 52) (.pointer (some ⟨b2, off2 + j * 11 + 2, none⟩)) rfl rfl (fun W hSw => ?_) Swa ?_
          · (try dsimp only at hSw); go_simp <;> with_reducible rfl
          try simp only [Act.put, l9a, l9z, l9s]
          refine tk9 (i := 11) (some 53) (.slice y.AB y.bk.length y.cB) rfl rfl (fun W hSw => ?_) Swa ?_
          · (try dsimp only at hSw); go_simp <;> with_reducible rfl
          try simp only [Act.put, l9a, l9z, l9s]
          refine tk9 (i := 12) (some 54) (.int .i64 (k : Int)) rfl rfl (fun W hSw => ?_) Swa ?_
          · (try dsimp only at hSw); go_simp <;> with_reducible rfl
          try simp only [Act.put, l9a, l9z, l9s]
          refine tk9 (i := 13) (some 55) (.int .i64 ((k : Int) + 1)) rfl rfl (fun W hSw => ?_) Swa ?_
          · (try dsimp only at hSw); go_simp <;> (first | with_reducible rfl | exact IntWalk.i64_in _ (by omega))
          try simp only [Act.put, l9a, l9z, l9s]
          refine wpAnyH_ready (rs := [14]) (by kernel_rfl) (by simp) ?_
          refine AllReadyH.cons rfl (fun K hK => ?_) AllReadyH.nil
          go_simp
          go_at_call 91
          refine (HCW.out _ Swa.2).mono ?_
          rintro e wb ⟨rfl, hb8⟩
          rw [hgi]
          have hb9wb : Below w1.heap.size w1 wb := bthen Swa.2 hb8
          have Swb : (fun W : World => (W.cell? ⟨wr.heap.size, 0, none⟩ = some (.int .i64 p.size) ∧ W.cell? ⟨wr.heap.size, 1, none⟩ = some (.int .i64 p.owner) ∧ W.cell? ⟨wr.heap.size, 2, none⟩ = some (.int .i64 p.site) ∧ W.cell? ⟨wr.heap.size, 3, none⟩ = some (.int .i64 p.stage) ∧ W.cell? ⟨wr.heap.size, 4, none⟩ = some (.int .i64 p.since) ∧ W.cell? ⟨wr.heap.size, 5, none⟩ = some (.int .i64 p.ext) ∧ W.cell? ⟨wr.heap.size, 6, none⟩ = some (.int .i64 p.ls) ∧ W.cell? ⟨wr.heap.size, 7, none⟩ = some (.int .i64 p.ln) ∧ W.cell? ⟨wr.heap.size, 8, none⟩ = some (.int .i64 p.lt) ∧ W.cell? ⟨wr.heap.size, 9, none⟩ = some (.int .i64 p.lp) ∧ W.cell? ⟨wr.heap.size, 10, none⟩ = some (.int .i64 p.lu) ∧ W.cell? ⟨wr.heap.size, 11, none⟩ = some (.int .i64 p.who) ∧ W.cell? ⟨wr.heap.size, 12, none⟩ = some (.int .i64 p.fee) ∧ W.cell? ⟨w.heap.size, 0, none⟩ = some (.pointer (some ⟨g, o, none⟩)) ∧ W.cell? ⟨g, o + 11, none⟩ = some (.slice (some ⟨b2, off2, none⟩) n.st.length n.cS) ∧ W.cell? ⟨b2, off2 + j * 11 + 2, none⟩ = some (.slice y.AB y.bk.length y.cB)) ∧ Below w1.heap.size w1 W) wb := ⟨⟨(bold hb9wb _ _ (by omega)).trans S0.1.1, (bold hb9wb _ _ (by omega)).trans S0.1.2.1, (bold hb9wb _ _ (by omega)).trans S0.1.2.2.1, (bold hb9wb _ _ (by omega)).trans S0.1.2.2.2.1, (bold hb9wb _ _ (by omega)).trans S0.1.2.2.2.2.1, (bold hb9wb _ _ (by omega)).trans S0.1.2.2.2.2.2.1, (bold hb9wb _ _ (by omega)).trans S0.1.2.2.2.2.2.2.1, (bold hb9wb _ _ (by omega)).trans S0.1.2.2.2.2.2.2.2.1, (bold hb9wb _ _ (by omega)).trans S0.1.2.2.2.2.2.2.2.2.1, (bold hb9wb _ _ (by omega)).trans S0.1.2.2.2.2.2.2.2.2.2.1, (bold hb9wb _ _ (by omega)).trans S0.1.2.2.2.2.2.2.2.2.2.2.1, (bold hb9wb _ _ (by omega)).trans S0.1.2.2.2.2.2.2.2.2.2.2.2.1, (bold hb9wb _ _ (by omega)).trans S0.1.2.2.2.2.2.2.2.2.2.2.2.2.1, (bold hb9wb _ _ (by omega)).trans S0.1.2.2.2.2.2.2.2.2.2.2.2.2.2.1, (bold hb9wb _ _ (by omega)).trans S0.1.2.2.2.2.2.2.2.2.2.2.2.2.2.2.1, (bold hb9wb _ _ (by omega)).trans S0.1.2.2.2.2.2.2.2.2.2.2.2.2.2.2.2⟩, hb9wb⟩
          clear hb8
          go_wp2_with fail
          refine hK.out _ _ Swb (fun _ => ?_)
          clear hK K
          try simp only [Act.put, l9a, l9z, l9s]
          refine tk9 (i := 15) (some 57) (.bool false) rfl rfl (fun W hSw => ?_) Swb ?_
          · (try dsimp only at hSw); go_simp <;> with_reducible rfl
          try simp only [Act.put, l9a, l9z, l9s]
          refine tk9 (i := 16) (some 58) (.bool false) rfl rfl (fun W hSw => ?_) Swb ?_
          · (try dsimp only at hSw); go_simp <;> with_reducible rfl
          try simp only [Act.put, l9a, l9z, l9s]
          refine wpAnyH_done (by kernel_rfl) ?_ _
          have hbreg : Below w1.heap.size w1 wb := Swb.2
          clear S0 Swa hb9wa Swb hb9wb
          have HN := Lib.hid (HYE.out (fun _ => by rw [hgi]; omega))
          go_wp2_with fail
          go_roundw
          case rel => exact ⟨k + 1, by omega, by go_num, HN.out, bthen B1.out hbreg⟩
          case measure => simp [intOf]; omega
        · have hkl : k = n.pc.length := by omega
          subst hkl
          have hkk : ¬ (n.pc.length : Int) < (n.pc.length : Int) := by omega
          go_wp2_with fail
          go_ret
          exact tells_yes ⟨HBX.out, fun i p hp hk => HALL.out i p (List.getElem?_eq_some_iff.1 hp).1 hp hk⟩ (bthen BB.out BI.out)
end Go.Proofs.YtjpkpfmpjgeeiaaGreat
