/- Chapter 2: HeldInOrder of the program. -/
import Derived.Test.YthmbpcnpmfiaoaaHioA
namespace Go.Proofs.Ythmbpcnpmfiaoaa
open Go.RowKit
set_option linter.unusedVariables false

theorem heldV_yes {l : List Cl} {S : List Int} (h : szB S = true) : heldV l S = (heldR S (bgO l) 0 : Int) := if_pos h
theorem heldV_no {l : List Cl} {S : List Int} (h : szB S = false) : heldV l S = 0 := if_neg (by rw [h]; decide)
theorem heldR_one {S : List Int} {G : List Gp} {k : Nat} {s : Int} (h : S[k]? = some s) : heldR (S.drop k) G k = if leastP s G < 0 then k else heldR (S.drop (k + 1)) (takeG G (leastP s G).toNat s) (k + 1) := by
  rw [drop_one h]; rfl

set_option maxRecDepth 100000 in
set_option maxHeartbeats 2000000 in
theorem heldI_any (w : World) (B : Nat) (A AS : Option Addr) (c cS : Nat) (l : List Cl) (S : List Int) (hl : l.length ≤ maxLen) (hSl : S.length ≤ maxLen) (hB : B ≤ w.heap.size) (hS : KL w B A l) (hV : ∀ x ∈ l, CV w B x) (hI : IL w B AS S) :
    Calls Try.prog 19 #[.slice A l.length c, .slice AS S.length cS] w fun e w' => e = .returned (.int .i64 (heldV l S)) ∧ Below w.heap.size w w' := by
  have hSl' := hSl
  unfold maxLen at hSl'
  have HS := Lib.hid hS; have HV := Lib.hid hV; have HI := Lib.hid hI; clear hS hV hI
  go_enter Try.func19, Try.ntmps19
  go_wp2_with fail
  refine (sizesI_any w B AS cS S hSl hB HI.out).mono ?_
  rintro e w1 ⟨rfl, hb1⟩
  have hz1 := hb1.size
  cases hq : szB S
  · have HZ := Lib.hid (heldV_no (l := l) hq); clear hq
    go_wp2_with fail
    go_ret
    exact ⟨ret_int HZ.out.symm, hb1⟩
  · have HZ := Lib.hid (heldV_yes (l := l) hq); clear hq
    have HB1 := Lib.hid hb1; clear hb1
    go_wp2_with fail
    refine (bgI_any w1 B A l.length c l rfl hl (by omega) (HS.out.later hB HB1.out) (fun x hx => (HV.out x hx).later hB HB1.out)).mono ?_
    rintro e w2 ⟨A', c', rfl, hor, hb2⟩
    have hgl := bgO_len l
    have hz2 := hb2.size
    have HOR := Lib.hid (hor.more (show w.heap.size ≤ w1.heap.size by omega)); have HB2 := Lib.hid (bthen HB1.out hb2); clear hor hb2
    obtain ⟨n, hn⟩ : ∃ n, (bgO l).length = n := ⟨_, rfl⟩
    rw [hn] at hgl ⊢
    have HN := Lib.hid hn; clear hn
    go_wp2_with fail
    go_loopw [16] (fun i wr => ∃ (k : Nat) (G : List Gp), k ≤ S.length ∧ i = .int .i64 k ∧ G.length = n ∧ heldR S (bgO l) 0 = heldR (S.drop k) G k ∧ OR wr w.heap.size 46 A' (gpV G) ∧ Below w.heap.size w wr) (fun i _ => S.length - (intOf i).toNat)
    case atStart => exact ⟨0, bgO l, Nat.zero_le _, rfl, HN.out, rfl, HOR.out, HB2.out⟩
    case round =>
      obtain ⟨k, G, hk, rfl, hG, hR, hor, hb⟩ := hrel
      have hsz := hb.size
      have HR := Lib.hid hR; have HO := Lib.hid hor; have HB := Lib.hid hb; clear hR hor
      by_cases hlt : k < S.length
      · obtain ⟨b, off, s, rfl, hbB, hx, hc0⟩ := (HI.out.later hB hb).at_ hlt
        have h1 := HR.out.trans (heldR_one hx)
        have H1 := Lib.hid h1; clear h1 hx
        have hbw : b < wr.heap.size := by omega
        go_wp2_with fail
        refine (leastP_any _ A' n c' _ G s hG.symm (by unfold maxLen; omega) (Nat.le_refl _) (by first | exact HO.out.gp | exact HO.out.alloc_ _ |>.gp)).mono ?_
        rintro e w3 ⟨rfl, hb3⟩
        by_cases hneg : leastP s G < 0
        · have hd : decide (leastP s G < 0) = true := by simpa using hneg
          have H2 := Lib.hid (H1.out.trans (if_pos hneg)); clear hneg
          go_wp2_with fail
          go_ret
          refine ⟨ret_int ?_, ?_⟩
          · rw [HZ.out, H2.out]
          · exact bthen HB.out hb3
        · obtain ⟨m, x, hm, hxm, _⟩ := fitV_yes hneg
          have h2 := H1.out.trans (if_neg hneg)
          rw [hm, Int.toNat_natCast, takeG_at hxm] at h2
          have hml : m < G.length := (List.getElem?_eq_some_iff.1 hxm).1
          obtain ⟨g, cur, rfl, hgb, hh, hcur, hor2⟩ := (HO.out.below hb3).putG hxm (wrap64 (x.size - s))
          have H2 := Lib.hid h2; clear h2 hneg hxm
          rw [hm]; clear hm
          have hd : decide ((m : Int) < 0) = false := by simp
          have hc2 := has_cell hh (m * 3 + 2) hcur
          have hf2 := has_free hh (m * 3 + 2)
          have hb4 := (bthen HB.out hb3).setCell (p := ⟨g, m * 3 + 2, none⟩) hgb (.int .i64 (wrap64 (x.size - s)))
          have HO2 := Lib.hid hor2; have HB4 := Lib.hid hb4; clear hor2 hb4 hcur hh
          have hm1 : (m : Int) < (n : Int) := by omega
          have hm0 : (0 : Int) ≤ (m : Int) := by omega
          go_wp2
          go_roundw
          case rel => exact ⟨k + 1, _, by omega, by go_num, by simp [hG], H2.out, HO2.out, HB4.out⟩
          case measure => simp [intOf]; omega
      · have hkl : k = S.length := by omega
        go_wp2
        go_ret
        refine ⟨ret_int ?_, HB.out⟩
        rw [HZ.out, HR.out, hkl, List.drop_length]; rfl
end Go.Proofs.Ythmbpcnpmfiaoaa
