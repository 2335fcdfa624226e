/- Chapter 5: the walks of EndOf, both sides (gen_end.py). -/
import Derived.Test.YtockjdaijhfgaaaEndP
import Derived.WalkLawsBesides
namespace Go.Proofs.Ytockjdaijhfgaaa
open Go.RowKit
set_option linter.unusedVariables false
set_option maxRecDepth 100000 in
set_option maxHeartbeats 4000000 in
theorem ends_any (w : World) (B : Nat) (A : Option Addr) (c : Nat) (l : List Gr) (now : Int) (hl : l.length ≤ 1000000) (hB : B ≤ w.heap.size) (hS : grL w B A l) :
    Calls Try.prog 56 #[.slice A l.length c, .int .i64 now] w fun e w' => ∃ A' c', e = .returned (.slice A' (sortL (endsL l now)).length c') ∧ OR w' w.heap.size 3 A' (intV (sortL (endsL l now))) ∧ Below w.heap.size w w' := by
  obtain ⟨i0, hi0, hz0, hz1, hz2⟩ := info_parts intInfo
  have I0 := Lib.hid hi0; have Z0 := Lib.hid hz0; have Z1 := Lib.hid hz1; have Z2 := Lib.hid hz2; clear hi0 hz0 hz1 hz2
  have HS := Lib.hid hS; clear hS
  go_enter Try.func56, Try.ntmps56
  go_wp2
  go_loopw [5, 11] (fun v i wr => ∃ (k : Nat), k ≤ l.length ∧ i = .int .i64 k ∧ wr.ownsRow w.heap.size 3 1 v (endsL (l.take k) now).length (intV (endsL (l.take k) now)) ∧ Below w.heap.size w wr) (fun _ i _ => l.length - (intOf i).toNat)
  case atStart => exact ⟨0, Nat.zero_le _, rfl, by rw [ends_zero]; exact owns_new w _ _ _ (Nat.le_refl _), balloc _ _⟩
  case round =>
    obtain ⟨k, hk, rfl, hown, hb⟩ := hrel
    have HO := Lib.hid hown; clear hown
    have hsz := hb.size
    by_cases hlt : k < l.length
    · obtain ⟨b, off, ⟨x0, x1, x2, x3, x4, x5, x6⟩, rfl, hbB, hx, hc0, hc1, hc2, hc3, hc4, hc5, hc6⟩ := (HS.out.later hB hb).at_ hlt
      have Hx := Lib.hid hx; clear hx
      dsimp only at hc0 hc1 hc2 hc3 hc4 hc5 hc6
      by_cases h1 : now < x5
      · have hg := ends_take l now k
        go_wp2_with (at_builtin; go_must (refine list_app rfl _ _ 27 rfl w.heap.size 3 i0 (.int .i64 0) 1 8 Try.underlying27 I0.out Z0.out Z1.out Z2.out rfl (by decide) _ _ _ rfl ((HO.out.alloc _).alloc _) _ 1 1 (#[.int .i64 x5] : Array Value).toList rfl (src_at _ _ (wr.heap.size + 1) (by simp) #[.int .i64 x5] 1 rfl (by simp [Value.oneCell'])) (by unfold maxLen; omega) (by omega) (by simp; omega) ?_))
        intro A2 c2 w4 hown hgrow _
        have hb4 : Below w.heap.size w w4 := ((hb.alloc hsz _).alloc (by simp; omega) _).grown hgrow (by simp; omega) (fun k hk => ((HO.out.lt k hk).1))
        have OW4 := Lib.hid hown; have HB4 := Lib.hid hb4; clear hown hgrow hb4
        go_wp2_with fail
        go_roundw
        case rel => exact ⟨k + 1, by omega, by go_num, by rw [ends_hit Hx.out h1]; simpa [intV] using OW4.out, HB4.out⟩
        case measure => simp [intOf]; omega
      · have HH1 := Lib.hid h1
        go_wp2_with fail
        go_roundw
        case rel => exact ⟨k + 1, by omega, by go_num, by rw [ends_miss Hx.out HH1.out]; exact HO.out.alloc _, hb.alloc hsz _⟩
        case measure => simp [intOf]; omega
    · have hkl : k = l.length := by omega
      subst hkl
      have hO := HO.out
      rw [List.take_length] at hO
      have hlen := ends_len l now
      obtain ⟨A2, c2, rfl, _⟩ := or_own hO
      have HO2 := Lib.hid hO; clear hO HO
      go_wp2_with (go_at_call 53; refine (sort_any wr w.heap.size A2 c2 (endsL l now) HO2.out (by omega) hsz).mono ?_; rintro e w5 ⟨rfl, hor, hb5⟩; have HOR := Lib.hid hor; have HB5 := Lib.hid (hb.trans hb5); clear hor hb5)
      go_ret
      exact ⟨A2, c2, retv (by rw [sortL_len]; rfl), HOR.out, HB5.out⟩
set_option maxRecDepth 100000 in
set_option maxHeartbeats 4000000 in
theorem endI_any (w : World) (B : Nat) (A : Option Addr) (c : Nat) (l : List Gr) (owner who p now : Int) (hl : l.length ≤ 1048576) (hB : B ≤ w.heap.size) (hS : grL w B A l) :
    Calls Try.prog 30 #[.slice A l.length c, .int .i64 owner, .int .i64 who, .int .i64 p, .int .i64 now] w fun e w' => e = .returned (.int .i64 (endV l owner who p now)) ∧ Below w.heap.size w w' := by
  have HS := Lib.hid hS; clear hS
  cases hm : mayB l owner who p now
  · have HM := Lib.hid hm; clear hm
    go_enter Try.func30, Try.ntmps30
    go_wp2_with (go_at_call 12; refine (mayI_any w B A c l owner who p now hl hB HS.out).mono ?_; rintro e w1 ⟨rfl, hb1⟩; rw [HM.out])
    go_ret
    exact ⟨rint (endV_no HM.out).symm, hb1⟩
  · have hl30 : l.length ≤ 30 := by
      have := may_good hm
      simp only [goodB, Bool.and_eq_true] at this
      exact grantsB_len this.1.1.1.1
    have HM := Lib.hid hm; clear hm
    go_enter Try.func30, Try.ntmps30
    go_wp2_with (first | (go_at_call 12; refine (mayI_any w B A c l owner who p now hl hB HS.out).mono ?_; rintro e w1 ⟨rfl, hb1⟩; rw [HM.out]) | (go_at_call 56; refine (ends_any w1 B A c l now (by omega) (by have := hb1.size; omega) (HS.out.later hB hb1)).mono ?_; rintro e w3 ⟨A3, c3, rfl, hrow, hb3⟩; have HROW := Lib.hid hrow; have HB3 := Lib.hid (bthen hb1 hb3); clear hrow hb3))
    have hs3 := HB3.out.size
    have hlen : (sortL (endsL l now)).length ≤ 30 := by rw [sortL_len]; have := ends_len l now; omega
    clear hb1
    generalize hX : sortL (endsL l now) = X at hlen HROW ⊢
    have HX := Lib.hid hX; clear hX
    go_loopw [24] (fun i wr => ∃ k : Nat, k ≤ X.length ∧ i = .int .i64 k ∧ (∀ j x, j < k → X[j]? = some x → mayB l owner who p x = true) ∧ Below w3.heap.size w3 wr) (fun i _ => X.length - (intOf i).toNat)
    case atStart => exact ⟨0, Nat.zero_le _, rfl, (fun j x hj => absurd hj (by omega)), Below.refl _ _⟩
    case round =>
      obtain ⟨k, hk, rfl, hno, hb⟩ := hrel
      have hsz := hb.size
      have HNO := Lib.hid hno; have HB := Lib.hid hb; clear hno hb
      by_cases hlt : k < X.length
      · obtain ⟨b7, o7, y, rfl, hb7, hy, hc0⟩ := (HROW.out.il.later (Nat.le_refl _) HB.out).at_ hlt
        have HY := Lib.hid hy; clear hy
        cases hq : mayB l owner who p y
        · have HQ := Lib.hid hq; clear hq
          go_wp2_with (go_at_call 12; refine (mayI_any _ B A c l owner who p y hl (by omega) (HS.out.below ((HB3.out.trans (HB.out.mono hs3)).mono hB))).mono ?_; rintro e w5 ⟨rfl, hb5⟩; rw [HQ.out])
          go_ret
          exact ⟨rint (endV_is HM.out (end_hit HM.out (by rw [HX.out]; exact HY.out) HQ.out (by rw [HX.out]; exact HNO.out))).symm, (HB3.out.trans (HB.out.mono hs3)).trans (hb5.mono (by omega))⟩
        · have HQ := Lib.hid hq; clear hq
          go_wp2_with (go_at_call 12; refine (mayI_any _ B A c l owner who p y hl (by omega) (HS.out.below ((HB3.out.trans (HB.out.mono hs3)).mono hB))).mono ?_; rintro e w5 ⟨rfl, hb5⟩; rw [HQ.out])
          go_roundw
          case rel => exact ⟨k + 1, by omega, by go_num, (fun j x hj hx => by
            by_cases e : j = k
            · subst e; rw [HY.out] at hx; injection hx with hx; subst hx; exact HQ.out
            · exact HNO.out j x (by omega) hx), HB.out.trans (hb5.mono hsz)⟩
          case measure => simp [intOf]; omega
      · have hkl : k = X.length := by omega
        subst hkl
        go_wp2
        go_ret
        exact ⟨rint (endV_is HM.out (end_none HM.out (fun x hx => by
          rw [HX.out] at hx
          obtain ⟨j, hj, rfl⟩ := List.getElem_of_mem hx
          exact HNO.out j _ hj (List.getElem?_eq_getElem hj)))).symm, HB3.out.trans (HB.out.mono hs3)⟩
set_option maxRecDepth 100000 in
set_option maxHeartbeats 8000000 in
theorem endS_any (w : World) (B : Nat) (A : Option Addr) (c : Nat) (l : List Gr) (owner who p now : Int) (hl : l.length ≤ 1048576) (hB : B ≤ w.heap.size) (hS : grL w B A l) :
    Calls Try.prog 32 #[.slice A l.length c, .int .i64 owner, .int .i64 who, .int .i64 p, .int .i64 now] w fun e w' => e = .returned (.int .i64 (endV l owner who p now)) ∧ Below w.heap.size w w' := by
  have HS := Lib.hid hS; clear hS
  cases hm : mayB l owner who p now
  · have HM := Lib.hid hm; clear hm
    go_enter Try.func32, Try.ntmps32
    go_wp2_with (go_at_call 54; refine (mayS_any w B A c l owner who p now hl hB HS.out).mono ?_; rintro e w1 ⟨rfl, hb1⟩; rw [HM.out])
    go_ret
    exact ⟨rint (endV_no HM.out).symm, hb1⟩
  · have hnt := good_time (may_good hm)
    have HM := Lib.hid hm; clear hm
    go_enter Try.func32, Try.ntmps32
    go_wp2_with (go_at_call 54; refine (mayS_any w B A c l owner who p now hl hB HS.out).mono ?_; rintro e w1 ⟨rfl, hb1⟩; rw [HM.out])
    have HB1 := Lib.hid hb1; clear hb1
    go_loopg [11] 30000 (fun g i wr => ∃ x : Int, i = .int .i64 x ∧ SE l owner who p now x ∧ 20001 - x ≤ (g : Int) ∧ Below w.heap.size w wr)
    case atStart => exact ⟨now, rfl, se_start HM.out, by omega, HB1.out⟩
    case round =>
      clear HB1
      obtain ⟨x, rfl, hse, hgx, hb⟩ := hrel
      obtain ⟨wo, rfl⟩ : ∃ wo : World, wo = wr := ⟨_, rfl⟩
      have hsz := hb.size
      have hx1 := hse.1
      have hx2 := hse.2.1
      have HSE := Lib.hid hse; have HB := Lib.hid hb; clear hse hb
      cases hq : mayB l owner who p x
      · have HQ := Lib.hid hq; clear hq
        go_wp2_with (go_at_call 54; refine (mayS_any _ B A c l owner who p x hl (by omega) (HS.out.below (HB.out.mono hB))).mono ?_; rintro e w5 ⟨rfl, hb5⟩; rw [HQ.out])
        go_ret
        exact ⟨rint (endV_is HM.out (se_end HM.out HSE.out HQ.out)).symm, HB.out.trans (hb5.mono hsz)⟩
      · have hxt := good_time (may_good hq)
        have HQ := Lib.hid hq; clear hq
        go_wp2_with (go_at_call 54; refine (mayS_any _ B A c l owner who p x hl (by omega) (HS.out.below (HB.out.mono hB))).mono ?_; rintro e w5 ⟨rfl, hb5⟩; rw [HQ.out])
        have HB5 := Lib.hid (HB.out.trans (hb5.mono hsz)); clear hb5
        have hs5 := HB5.out.size
        go_loopw [12, 13] (fun v i wr => ∃ (k : Nat) (y : Int), k ≤ l.length ∧ i = .int .i64 k ∧ v = .int .i64 y ∧ NX (l.take k) x y ∧ w5 = wr) (fun _ i _ => l.length - (intOf i).toNat)
        case atStart => exact ⟨0, 20001, Nat.zero_le _, rfl, rfl, nx_start l hxt.2, rfl⟩
        case round =>
          obtain ⟨k, y, hk, rfl, rfl, hnx, rfl⟩ := hrel
          have hy1 := hnx.1
          have hy2 := hnx.2.1
          have HNX := Lib.hid hnx; clear hnx
          by_cases hlt : k < l.length
          · obtain ⟨b, off, ⟨x0, x1, x2, x3, x4, x5, x6⟩, rfl, hbB, hx, hc0, hc1, hc2, hc3, hc4, hc5, hc6⟩ := (HS.out.below (HB5.out.mono hB)).at_ hlt
            have Hx := Lib.hid hx; clear hx
            dsimp only at hc0 hc1 hc2 hc3 hc4 hc5 hc6
            by_cases h1 : x < x4
            · by_cases h2 : x < x5
              · go_wp2_with fail
                go_roundw
                case rel => exact ⟨k + 1, _, by omega, by go_num, rfl, nx_next Hx.out HNX.out (by omega) (by omega) (by intro _; dsimp only; omega) (by intro _; dsimp only; omega), by first | trivial | rfl⟩
                case measure => simp [intOf]; omega
              · go_wp2_with fail
                go_roundw
                case rel => exact ⟨k + 1, _, by omega, by go_num, rfl, nx_next Hx.out HNX.out (by omega) (by omega) (by intro _; dsimp only; omega) (by intro h; exact absurd h h2), by first | trivial | rfl⟩
                case measure => simp [intOf]; omega
            · by_cases h2 : x < x5
              · go_wp2_with fail
                go_roundw
                case rel => exact ⟨k + 1, _, by omega, by go_num, rfl, nx_next Hx.out HNX.out (by omega) (by omega) (by intro h; exact absurd h h1) (by intro _; dsimp only; omega), by first | trivial | rfl⟩
                case measure => simp [intOf]; omega
              · go_wp2_with fail
                go_roundw
                case rel => exact ⟨k + 1, y, by omega, by go_num, rfl, nx_next Hx.out HNX.out hy1 (Int.le_refl _) (by intro h; exact absurd h h1) (by intro h; exact absurd h h2), by first | trivial | rfl⟩
                case measure => simp [intOf]; omega
          · have hkl : k = l.length := by omega
            subst hkl
            go_wp2
            have h3 := HNX.out
            rw [List.take_length] at h3
            have H3 := Lib.hid (se_next HSE.out HQ.out h3); clear h3
            go_roundg (gk - 1)
            case measure => omega
            case rel => exact ⟨y, rfl, H3.out, by omega, HB5.out⟩
end Go.Proofs.Ytockjdaijhfgaaa
