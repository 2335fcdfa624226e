/- Chapter 5: walks of inForce and giversTo. -/
import Derived.Test.YtdaeljjjcgpcoaaGraE
namespace Go.Proofs.Ytdaeljjjcgpcoaa
open Go.RowKit
set_option linter.unusedVariables false

set_option maxRecDepth 100000 in
set_option maxHeartbeats 4000000 in
theorem force_any (w : World) (B : Nat) (A : Option Addr) (c : Nat) (l : List Gr) (p t : Int) (hl : l.length ≤ 1048576) (hB : B ≤ w.heap.size) (hS : grL w B A l) :
    Calls Try.prog 18 #[.slice A l.length c, .int .i64 p, .int .i64 t] w fun e w' => ∃ A' c', e = .returned (.slice A' (forceL p t l).length c') ∧ OR w' w.heap.size 35 A' (grV (forceL p t l)) ∧ Below w.heap.size w w' := by
  have hmk := makegr_run l.length hl
  have HS := Lib.hid hS; clear hS
  go_enter Try.func18, Try.ntmps18
  go_wp2
  go_loopw [15] (fun i wr => ∃ (k : Nat) (cs : Array Value), k ≤ l.length ∧ i = .int .i64 k ∧ Copiedgr wr w.heap.size cs (mixL p t l k) (mixL p t l k).length ∧ Below w.heap.size w wr) (fun i _ => l.length - (intOf i).toNat)
  case atStart => exact ⟨0, _, Nat.zero_le _, rfl, copied_zero w l.length p t l, balloc _ _⟩
  case round =>
    obtain ⟨k, cs, hk, rfl, hcp, hb⟩ := hrel
    have HC := Lib.hid hcp; clear hcp
    clear hmk
    have hsz := hb.size
    by_cases hlt : k < l.length
    · obtain ⟨b, off, ⟨x0, x1, x2, x3, x4, x5, x6⟩, rfl, hbB, hx, hc0, hc1, hc2, hc3, hc4, hc5, hc6⟩ := (HS.out.later hB hb).at_ hlt
      have Hx := Lib.hid hx; clear hx
      dsimp only at hc0 hc1 hc2 hc3 hc4 hc5 hc6
      have hlt0 : w.heap.size < wr.heap.size := has_lt HC.out.heap
      cases ha : appB p t ⟨x0, x1, x2, x3, x4, x5, x6⟩
      · have HA := Lib.hid ha; clear ha
        go_wp2_with (go_at_call 12; refine (appI_any _ x0 x1 x2 x3 x4 x5 x6 p t).mono ?_; rintro e w1 ⟨rfl, hb1⟩; rw [HA.out])
        go_roundw
        case rel =>
          have hb2 := bthen (balloc wr (.cells #[.int .i64 x0, .int .i64 x1, .int .i64 x2, .int .i64 x3, .int .i64 x4, .int .i64 x5, .bool x6] 35)) hb1
          exact ⟨k + 1, cs, by omega, by go_num, by rw [mix_stay Hx.out HA.out]; exact HC.out.below hb2, hb.trans (hb2.mono hsz)⟩
        case measure => simp [intOf]; omega
      · have HA := Lib.hid ha; clear ha
        go_wp2_with (go_at_call 12; refine (appI_any _ x0 x1 x2 x3 x4 x5 x6 p t).mono ?_; rintro e w1 ⟨rfl, hb1⟩; rw [HA.out]; have hb2 := bthen (balloc wr (.cells #[.int .i64 x0, .int .i64 x1, .int .i64 x2, .int .i64 x3, .int .i64 x4, .int .i64 x5, .bool x6] 35)) hb1; have hC2 := HC.out.below hb2; have kb := has_call (has_new wr 35 #[.int .i64 x0, .int .i64 x1, .int .i64 x2, .int .i64 x3, .int .i64 x4, .int .i64 x5, .bool x6]) hb1; have r0 := has_cell kb 0 rfl; have r1 := has_cell kb 1 rfl; have r2 := has_cell kb 2 rfl; have r3 := has_cell kb 3 rfl; have r4 := has_cell kb 4 rfl; have r5 := has_cell kb 5 rfl; have r6 := has_cell kb 6 rfl; have hml : (mixL p t l k).length = l.length := mix_len p t l (by omega); obtain ⟨u0, hu0⟩ := hC2.cellAt (j := k * 7) (by omega); obtain ⟨u1, hu1⟩ := hC2.cellAt (j := k * 7 + 1) (by omega); obtain ⟨u2, hu2⟩ := hC2.cellAt (j := k * 7 + 2) (by omega); obtain ⟨u3, hu3⟩ := hC2.cellAt (j := k * 7 + 3) (by omega); obtain ⟨u4, hu4⟩ := hC2.cellAt (j := k * 7 + 4) (by omega); obtain ⟨u5, hu5⟩ := hC2.cellAt (j := k * 7 + 5) (by omega); obtain ⟨u6, hu6⟩ := hC2.cellAt (j := k * 7 + 6) (by omega); have hf0 := has_free hC2.heap (k * 7); have hf1 := has_free hC2.heap (k * 7 + 1); have hf2 := has_free hC2.heap (k * 7 + 2); have hf3 := has_free hC2.heap (k * 7 + 3); have hf4 := has_free hC2.heap (k * 7 + 4); have hf5 := has_free hC2.heap (k * 7 + 5); have hf6 := has_free hC2.heap (k * 7 + 6); have HST := Lib.hid (hC2.put (k := k) (by omega) ⟨x0, x1, x2, x3, x4, x5, x6⟩); clear hC2 hml)
        go_roundw
        case rel => exact ⟨k + 1, _, by omega, by go_num, by rw [mix_next Hx.out, HA.out]; exact HST.out, ((((((((hb.trans (hb2.mono hsz)).setCell (Nat.le_refl _) _).setCell (Nat.le_refl _) _).setCell (Nat.le_refl _) _).setCell (Nat.le_refl _) _).setCell (Nat.le_refl _) _).setCell (Nat.le_refl _) _).setCell (Nat.le_refl _) _)⟩
        case measure => simp [intOf]; omega
    · go_wp2
      go_ret
      have hkl : k = l.length := by omega
      subst hkl
      have h2 := HC.out
      rw [mix_end] at h2
      exact ⟨some ⟨w.heap.size, 0, none⟩, l.length, retv (by rw [forceL_len]; rfl), h2.row (Nat.le_refl _), hb⟩

set_option maxRecDepth 100000 in
set_option maxHeartbeats 4000000 in
theorem givers_any (w : World) (B : Nat) (A : Option Addr) (c : Nat) (l : List Gr) (y d : Int) (hl : l.length ≤ 1048576) (hB : B ≤ w.heap.size) (hS : grL w B A l) :
    Calls Try.prog 33 #[.slice A l.length c, .int .i64 y, .int .i64 d] w fun e w' => ∃ A' c', e = .returned (.slice A' (giversL l y d).length c') ∧ OR w' w.heap.size 3 A' (intV (giversL l y d)) ∧ Below w.heap.size w w' := by
  obtain ⟨i0, hi0, hz0, hz1, hz2⟩ := info_parts intInfo
  have I0 := Lib.hid hi0; have Z0 := Lib.hid hz0; have Z1 := Lib.hid hz1; have Z2 := Lib.hid hz2; clear hi0 hz0 hz1 hz2
  have HS := Lib.hid hS; clear hS
  go_enter Try.func33, Try.ntmps33
  go_wp2
  go_loopw [7, 13] (fun v i wr => ∃ (k : Nat), k ≤ l.length ∧ i = .int .i64 k ∧ wr.ownsRow w.heap.size 3 1 v (giversL (l.take k) y d).length (intV (giversL (l.take k) y d)) ∧ Below w.heap.size w wr) (fun _ i _ => l.length - (intOf i).toNat)
  case atStart => exact ⟨0, Nat.zero_le _, rfl, by rw [givers_zero]; exact owns_new w _ _ _ (Nat.le_refl _), balloc _ _⟩
  case round =>
    obtain ⟨k, hk, rfl, hown, hb⟩ := hrel
    have HO := Lib.hid hown; clear hown
    have hsz := hb.size
    by_cases hlt : k < l.length
    · obtain ⟨b, off, ⟨x0, x1, x2, x3, x4, x5, x6⟩, rfl, hbB, hx, hc0, hc1, hc2, hc3, hc4, hc5, hc6⟩ := (HS.out.later hB hb).at_ hlt
      have Hx := Lib.hid hx; clear hx
      dsimp only at hc0 hc1 hc2 hc3 hc4 hc5 hc6
      by_cases h1 : x1 = y
      · by_cases h2 : d ≤ x3
        · have hg := givers_take l y d k
          have HH1 := Lib.hid h1
          have e1 : (x1 == y) = true := by simp [h1]
          clear h1
          go_wp2_with (at_builtin; go_must (refine list_app rfl _ _ 27 rfl w.heap.size 3 i0 (.int .i64 0) 1 8 Try.underlying27 I0.out Z0.out Z1.out Z2.out rfl (by decide) _ _ _ rfl ((HO.out.alloc _).alloc _) _ 1 1 (#[.int .i64 x0] : Array Value).toList rfl (src_at _ _ (wr.heap.size + 1) (by simp) #[.int .i64 x0] 1 rfl (by simp [Value.oneCell'])) (by unfold maxLen; omega) (by omega) (by simp; omega) ?_))
          intro A2 c2 w4 hown hgrow _
          have hb4 : Below w.heap.size w w4 := ((hb.alloc hsz _).alloc (by simp; omega) _).grown hgrow (by simp; omega) (fun k hk => ((HO.out.lt k hk).1))
          have OW4 := Lib.hid hown; have HB4 := Lib.hid hb4; clear hown hgrow hb4
          go_wp2_with fail
          go_roundw
          case rel => exact ⟨k + 1, by omega, by go_num, by rw [givers_hit Hx.out HH1.out h2]; simpa [intV] using OW4.out, HB4.out⟩
          case measure => simp [intOf]; omega
        · have HH2 := Lib.hid h2
          have e1 : (x1 == y) = true := by simp [h1]
          go_wp2_with fail
          go_roundw
          case rel => exact ⟨k + 1, by omega, by go_num, by rw [givers_miss Hx.out (.inr HH2.out)]; exact HO.out.alloc _, hb.alloc hsz _⟩
          case measure => simp [intOf]; omega
      · have HH1 := Lib.hid h1
        have e1 : (x1 == y) = false := by simp [h1]
        clear h1
        go_wp2_with fail
        go_roundw
        case rel => exact ⟨k + 1, by omega, by go_num, by rw [givers_miss Hx.out (.inl HH1.out)]; exact HO.out.alloc _, hb.alloc hsz _⟩
        case measure => simp [intOf]; omega
    · have hkl : k = l.length := by omega
      subst hkl
      obtain ⟨A2, c2, rfl, hor⟩ := or_own HO.out
      have HOR := Lib.hid hor; clear hor HO
      go_wp2
      go_ret
      have h2 := HOR.out
      rw [List.take_length] at h2 ⊢
      exact ⟨A2, c2, rfl, h2, hb⟩
end Go.Proofs.Ytdaeljjjcgpcoaa
