/- Chapter 7: contracts of TriangleOk, by the program and by the model (gen_toug.py). -/
import Derived.Test.YtkchhnnklppbeaaTouF
import Derived.Deep.RegionHeld3
import Derived.Deep.DeepMust
import Derived.WalkLawsBesides
namespace Go.Proofs.Ytkchhnnklppbeaa
open Go.RowKit
set_option linter.unusedVariables false

/-- a leg as it is read -/
theorem legs_at {w : World} {B : Nat} {b r : Int} {bl fl : Nat} {R : List Rw} {AS : Option Addr} {S : List Sp} (hT : RoundT b r (gOf R) S) (hR : RdIn w B (some ⟨bl, fl, none⟩) R AS S) {p : Nat} (hp : p < R.length) :
    ∃ b3 f3 xc, b3 < B ∧ w.cell? ⟨bl, fl + p, none⟩ = some (.slice (some ⟨b3, f3, none⟩) R.length xc) ∧ ∀ q : Nat, q < R.length → w.cell? ⟨b3, f3 + q, none⟩ = some (.int .i64 (legT (gOf R) p q)) := by
  have hl : R.length = S.length + 1 := by have := hT.len; rwa [gOf_len] at this
  obtain ⟨x, hx, hlen, hq⟩ := leg_row hT (p := p) (by omega)
  obtain ⟨bb, ff, x', hA, _, hx', hc⟩ := hR.rows.at_ hp
  injection hA with hA; injection hA with h1 h2; subst h1; subst h2
  obtain rfl : x' = x := by rw [hx] at hx'; injection hx' with hx'; exact hx'.symm
  have hil := (hR.vals _ (List.mem_of_getElem? hx)).1
  rcases hil with h0 | ⟨b3, f3, hA3, hb3, hc3⟩
  · rw [h0] at hlen; simp at hlen
  · refine ⟨b3, f3, x'.c, hb3, ?_, fun q hq2 => hc3 q _ (hq q (by omega))⟩
    rw [hc, hA3, hlen, hl]
def TriT (n : Nat) (G : List (List Int)) : Prop := ∀ i k m : Nat, i < n → k < n → m < n → legT G i k ≤ legT G i m + legT G m k
theorem tells_call {p : Prop} {w w1 : World} {e : Ending} {w' : World} (h : Tells p w1 e w') (hb : Below w.heap.size w w1) : Tells p w e w' := by
  obtain ⟨v, h1, h2, h3⟩ := h
  exact ⟨v, h1, h2, bthen hb h3⟩

set_option maxRecDepth 100000 in
set_option maxHeartbeats 8000000 in
theorem triI_any (w : World) (B : Nat) (b r : Int) (AL AS : Option Addr) (cL cS : Nat) (R : List Rw) (S : List Sp) (hB : B ≤ w.heap.size) (hR : RdIn w B AL R AS S) :
    Calls Try.prog 8 #[.agg #[.int .i64 b, .int .i64 r, .slice AL R.length cL, .slice AS S.length cS]] w (Tells (RoundT b r (gOf R) S ∧ TriT R.length (gOf R)) w) := by
  have HR := Lib.hid hR; clear hR
  have HRC := Lib.hid (fun (W : World) (hb : Below w.heap.size w W) => roundI_any W B b r AL AS cL cS R S (by have := hb.size; omega) (HR.out.later hB hb))
  cases hv : roundB b r (gOf R) S
  · have HV := Lib.hid hv; clear hv
    go_enter Try.func8, Try.ntmps8
    go_wp2_with fail
    generalize hX : (w.alloc (.cells #[.int .i64 b, .int .i64 r, .slice AL R.length cL, .slice AS S.length cS] 27)) = w1
    have hb : Below w.heap.size w w1 := by rw [← hX]; exact balloc _ _
    have hk : Has w1 w.heap.size 27 #[.int .i64 b, .int .i64 r, .slice AL R.length cL, .slice AS S.length cS] := by rw [← hX]; exact has_new _ _ _
    have hzw1 : w1.heap.size = w.heap.size + 1 := by rw [← hX]; simp
    clear hX
    have zb := hb; clear hb
    have za := hk; clear hk
    clear hzw1
    refine (HRC.out _ zb).mono ?_
    rintro e w2 ⟨rfl, hb⟩
    rw [HV.out]
    replace za := has_call za hb
    replace zb := bthen zb hb; clear hb
    go_wp2_with fail
    go_ret
    exact ⟨false, rfl, ⟨fun h => (by cases h), fun h => (by have h8 := HV.out; rw [(roundB_iff _ _ _ _).2 h.1] at h8; cases h8)⟩, zb⟩
  have hT := (roundB_iff _ _ _ _).1 hv
  have HV := Lib.hid hv; clear hv
  have hrl : R.length = S.length + 1 := by have := hT.len; rwa [gOf_len] at this
  have h6 := hT.six
  have hsm : R.length ≤ 7 := by omega
  have hpos : 0 < R.length := by omega
  clear hrl h6
  obtain ⟨bl, fl, rfl, hbl⟩ : ∃ bl fl, AL = some ⟨bl, fl, none⟩ ∧ bl < B := by
    obtain ⟨bl, fl, x, h1, h2, _⟩ := HR.out.rows.at_ hpos
    exact ⟨bl, fl, h1, h2⟩
  have HT := Lib.hid hT; clear hT
  have HLEG := Lib.hid (fun (i k : Nat) (hi : i < R.length) (hk : k < R.length) => leg_in HT.out (i := (i : Int)) (j := (k : Int)) (by omega) (by have := HT.out.len; rw [gOf_len] at this; omega) (by omega) (by have := HT.out.len; rw [gOf_len] at this; omega))
  go_enter Try.func8, Try.ntmps8
  go_wp2_with fail
  generalize hX : (w.alloc (.cells #[.int .i64 b, .int .i64 r, .slice (some ⟨bl, fl, none⟩) R.length cL, .slice AS S.length cS] 27)) = w1
  have hb : Below w.heap.size w w1 := by rw [← hX]; exact balloc _ _
  have hk : Has w1 w.heap.size 27 #[.int .i64 b, .int .i64 r, .slice (some ⟨bl, fl, none⟩) R.length cL, .slice AS S.length cS] := by rw [← hX]; exact has_new _ _ _
  have hzw1 : w1.heap.size = w.heap.size + 1 := by rw [← hX]; simp
  clear hX
  have zb := hb; clear hb
  have za := hk; clear hk
  clear hzw1
  refine (HRC.out _ zb).mono ?_
  rintro e w2 ⟨rfl, hb⟩
  rw [HV.out]
  replace za := has_call za hb
  replace zb := bthen zb hb; clear hb
  have HRW := Lib.hid (HR.out.later hB zb)
  have hc2 := has_cell za 2 rfl
  have hbl1 : bl < w2.heap.size := by have := zb.size; omega
  have ZB := Lib.hid zb; clear zb za
  go_wp2_with fail
  go_loopw [15] (fun i wr => ∃ k : Nat, k ≤ R.length ∧ i = .int .i64 k ∧ (∀ i k2 m : Nat, i < k → k2 < R.length → m < R.length → legT (gOf R) i k2 ≤ legT (gOf R) i m + legT (gOf R) m k2) ∧ wr = w2) (fun i _ => R.length - (intOf i).toNat)
  case atStart => exact ⟨0, Nat.zero_le _, rfl, (fun i k m hi => absurd hi (by omega)), rfl⟩
  case round =>
    obtain ⟨i, hi, rfl, hok, rfl⟩ := hrel
    have HOK := Lib.hid hok; clear hok
    by_cases hlt : i < R.length
    · obtain ⟨b3, f3, xc, hb3, hrow, hlegs⟩ := legs_at HT.out HRW.out hlt
      have HLI := Lib.hid hlegs; clear hlegs
      go_wp2_with fail
      rename World => wz
      go_loopw [21] (fun mv wr => ∃ m : Nat, m ≤ R.length ∧ mv = .int .i64 m ∧ (∀ m2 k2 : Nat, m2 < m → k2 < R.length → legT (gOf R) i k2 ≤ legT (gOf R) i m2 + legT (gOf R) m2 k2) ∧ wr = wz) (fun mv _ => R.length - (intOf mv).toNat)
      case atStart => exact ⟨0, Nat.zero_le _, rfl, (fun m k hm => absurd hm (by omega)), rfl⟩
      case round =>
        obtain ⟨m, hm, rfl, hin, rfl⟩ := hrel
        have HIN := Lib.hid hin; clear hin
        by_cases hlm : m < R.length
        · have hhalf := HLI.out m hlm
          obtain ⟨b4, f4, xd, hb4, hrow4, hlegs4⟩ := legs_at HT.out HRW.out hlm
          have HLM := Lib.hid hlegs4; clear hlegs4
          have hbim := HLEG.out i m hlt hlm
          obtain ⟨Lim, hLim⟩ : ∃ x, legT (gOf R) i m = x := ⟨_, rfl⟩
          rw [hLim] at hhalf hbim
          have HLim := Lib.hid hLim; clear hLim
          go_wp2_with fail
          rename World => wy
          go_loopw [28] (fun kv wr => ∃ k : Nat, k ≤ R.length ∧ kv = .int .i64 k ∧ (∀ k2 : Nat, k2 < k → legT (gOf R) i k2 ≤ Lim + legT (gOf R) m k2) ∧ wr = wy) (fun kv _ => R.length - (intOf kv).toNat)
          case atStart => exact ⟨0, Nat.zero_le _, rfl, (fun k hk => absurd hk (by omega)), rfl⟩
          case round =>
            obtain ⟨k, hk, rfl, hik, rfl⟩ := hrel
            have HIK := Lib.hid hik; clear hik
            by_cases hlk : k < R.length
            · have hleg := HLI.out k hlk; have hmk := HLM.out k hlk
              have hbik := HLEG.out i k hlt hlk; have hbmk := HLEG.out m k hlm hlk
              obtain ⟨Lik, hLik⟩ : ∃ x, legT (gOf R) i k = x := ⟨_, rfl⟩
              obtain ⟨Lmk, hLmk⟩ : ∃ x, legT (gOf R) m k = x := ⟨_, rfl⟩
              rw [hLik] at hleg hbik; rw [hLmk] at hmk hbmk
              have HLik := Lib.hid hLik; have HLmk := Lib.hid hLmk; clear hLik hLmk
              by_cases hbad : Lim + Lmk < Lik
              · go_wp2_with fail
                go_ret
                exact ⟨false, rfl, ⟨fun h => (by cases h), fun h => (by have h8 := h.2 i k m hlt hlk hlm; rw [HLik.out, HLim.out, HLmk.out] at h8; omega)⟩, ZB.out⟩
              · go_wp2_with fail
                go_roundw
                case rel => exact ⟨k + 1, by omega, by go_num, (fun k2 hk2 => by
                  by_cases e : k2 = k
                  · subst e; rw [HLik.out, HLmk.out]; omega
                  · exact HIK.out k2 (by omega)), by first | trivial | rfl⟩
                case measure => simp [intOf]; omega
            · have hkl : k = R.length := by omega
              have HIK2 := Lib.hid (fun k2 (h : k2 < R.length) => HIK.out k2 (by omega))
              clear hkl
              go_wp2_with fail
              go_roundw
              case rel => exact ⟨m + 1, by omega, by go_num, (fun m2 k2 hm2 hk2 => by
                by_cases e : m2 = m
                · subst e; rw [HLim.out]; exact HIK2.out k2 hk2
                · exact HIN.out m2 k2 (by omega) hk2), by first | trivial | rfl⟩
              case measure => simp [intOf]; omega
        · have hml : m = R.length := by omega
          have HIN2 := Lib.hid (fun m2 k2 (h : m2 < R.length) (h2 : k2 < R.length) => HIN.out m2 k2 (by omega) h2)
          clear hml
          go_wp2_with fail
          go_roundw
          case rel => exact ⟨i + 1, by omega, by go_num, (fun i2 k2 m2 hi2 hk2 hm2 => by
            by_cases e : i2 = i
            · subst e; exact HIN2.out m2 k2 hm2 hk2
            · exact HOK.out i2 k2 m2 (by omega) hk2 hm2), by first | trivial | rfl⟩
          case measure => simp [intOf]; omega
    · go_wp2_with fail
      go_ret
      exact ⟨true, rfl, ⟨fun _ => ⟨HT.out, fun i2 k2 m2 h1 h2 h3 => HOK.out i2 k2 m2 (by omega) h2 h3⟩, fun _ => rfl⟩, ZB.out⟩
set_option maxRecDepth 100000 in
set_option maxHeartbeats 8000000 in
theorem triS_any (w : World) (B : Nat) (b r : Int) (AL AS : Option Addr) (cL cS : Nat) (R : List Rw) (S : List Sp) (hB : B ≤ w.heap.size) (hR : RdIn w B AL R AS S) :
    Calls Try.prog 10 #[.agg #[.int .i64 b, .int .i64 r, .slice AL R.length cL, .slice AS S.length cS]] w (Tells (RoundT b r (gOf R) S ∧ TriT R.length (gOf R)) w) := by
  have HR := Lib.hid hR; clear hR
  have HRC := Lib.hid (fun (W : World) (hb : Below w.heap.size w W) => roundS_any W B b r AL AS cL cS R S (by have := hb.size; omega) (HR.out.later hB hb))
  cases hv : roundB b r (gOf R) S
  · have HV := Lib.hid hv; clear hv
    go_enter Try.func10, Try.ntmps10
    go_wp2_with fail
    generalize hX : (w.alloc (.cells #[.int .i64 b, .int .i64 r, .slice AL R.length cL, .slice AS S.length cS] 27)) = w1
    have hb : Below w.heap.size w w1 := by rw [← hX]; exact balloc _ _
    have hk : Has w1 w.heap.size 27 #[.int .i64 b, .int .i64 r, .slice AL R.length cL, .slice AS S.length cS] := by rw [← hX]; exact has_new _ _ _
    have hzw1 : w1.heap.size = w.heap.size + 1 := by rw [← hX]; simp
    clear hX
    have zb := hb; clear hb
    have za := hk; clear hk
    clear hzw1
    refine (HRC.out _ zb).mono ?_
    rintro e w2 ⟨rfl, hb⟩
    rw [HV.out]
    replace za := has_call za hb
    replace zb := bthen zb hb; clear hb
    go_wp2_with fail
    go_ret
    exact ⟨false, rfl, ⟨fun h => (by cases h), fun h => (by have h8 := HV.out; rw [(roundB_iff _ _ _ _).2 h.1] at h8; cases h8)⟩, zb⟩
  have hT := (roundB_iff _ _ _ _).1 hv
  have HV := Lib.hid hv; clear hv
  have hrl : R.length = S.length + 1 := by have := hT.len; rwa [gOf_len] at this
  have h6 := hT.six
  have hsm : R.length ≤ 7 := by omega
  have hpos : 0 < R.length := by omega
  clear hrl h6
  obtain ⟨bl, fl, rfl, hbl⟩ : ∃ bl fl, AL = some ⟨bl, fl, none⟩ ∧ bl < B := by
    obtain ⟨bl, fl, x, h1, h2, _⟩ := HR.out.rows.at_ hpos
    exact ⟨bl, fl, h1, h2⟩
  have HT := Lib.hid hT; clear hT
  have HLEG := Lib.hid (fun (i k : Nat) (hi : i < R.length) (hk : k < R.length) => leg_in HT.out (i := (i : Int)) (j := (k : Int)) (by omega) (by have := HT.out.len; rw [gOf_len] at this; omega) (by omega) (by have := HT.out.len; rw [gOf_len] at this; omega))
  go_enter Try.func10, Try.ntmps10
  go_wp2_with fail
  generalize hX : (w.alloc (.cells #[.int .i64 b, .int .i64 r, .slice (some ⟨bl, fl, none⟩) R.length cL, .slice AS S.length cS] 27)) = w1
  have hb : Below w.heap.size w w1 := by rw [← hX]; exact balloc _ _
  have hk : Has w1 w.heap.size 27 #[.int .i64 b, .int .i64 r, .slice (some ⟨bl, fl, none⟩) R.length cL, .slice AS S.length cS] := by rw [← hX]; exact has_new _ _ _
  have hzw1 : w1.heap.size = w.heap.size + 1 := by rw [← hX]; simp
  clear hX
  have zb := hb; clear hb
  have za := hk; clear hk
  clear hzw1
  refine (HRC.out _ zb).mono ?_
  rintro e w2 ⟨rfl, hb⟩
  rw [HV.out]
  replace za := has_call za hb
  replace zb := bthen zb hb; clear hb
  have ZA := Lib.hid za; have ZB := Lib.hid zb; clear zb za
  go_wp2_with fail
  go_loopw [3, 4, 5] (fun iv kv mv wr => ∃ i : Nat, i ≤ R.length ∧ iv = .int .i64 i ∧ (∀ i2 k2 m : Nat, i2 < i → k2 < R.length → m < R.length → legT (gOf R) i2 k2 ≤ legT (gOf R) i2 m + legT (gOf R) m k2) ∧ Has wr w.heap.size 27 #[.int .i64 b, .int .i64 r, .slice (some ⟨bl, fl, none⟩) R.length cL, .slice AS S.length cS] ∧ Below w.heap.size w wr) (fun iv _ _ _ => R.length - (intOf iv).toNat)
  case atStart => exact ⟨0, Nat.zero_le _, rfl, (fun i k m hi => absurd hi (by omega)), ZA.out, ZB.out⟩
  case round =>
    obtain ⟨i, hi, rfl, hok, hH, hb⟩ := hrel
    have HOK := Lib.hid hok; clear hok
    have hc2 := has_cell hH 2 rfl
    have HH := Lib.hid hH; have HB := Lib.hid hb; clear hH hb
    by_cases hlt : i < R.length
    · go_wp2_with fail
      clear hc2
      rename World => wz
      go_loopw [4, 5] (fun kv mv wr => ∃ k : Nat, k ≤ R.length ∧ kv = .int .i64 k ∧ (∀ k2 m2 : Nat, k2 < k → m2 < R.length → legT (gOf R) i k2 ≤ legT (gOf R) i m2 + legT (gOf R) m2 k2) ∧ Has wr w.heap.size 27 #[.int .i64 b, .int .i64 r, .slice (some ⟨bl, fl, none⟩) R.length cL, .slice AS S.length cS] ∧ Below w.heap.size w wr) (fun kv _ _ => R.length - (intOf kv).toNat)
      case atStart => exact ⟨0, Nat.zero_le _, rfl, (fun m k hm => absurd hm (by omega)), HH.out, HB.out⟩
      case round =>
        obtain ⟨k, hk, rfl, hin, hH, hb⟩ := hrel
        have HIN := Lib.hid hin; clear hin
        have hc2 := has_cell hH 2 rfl
        have HH := Lib.hid hH; have HB := Lib.hid hb; clear hH hb
        by_cases hlk : k < R.length
        · go_wp2_with fail
          clear hc2
          rename World => wy
          go_loopw [5] (fun mv wr => ∃ m : Nat, m ≤ R.length ∧ mv = .int .i64 m ∧ (∀ m2 : Nat, m2 < m → legT (gOf R) i k ≤ legT (gOf R) i m2 + legT (gOf R) m2 k) ∧ Has wr w.heap.size 27 #[.int .i64 b, .int .i64 r, .slice (some ⟨bl, fl, none⟩) R.length cL, .slice AS S.length cS] ∧ Below w.heap.size w wr) (fun mv _ => R.length - (intOf mv).toNat)
          case atStart => exact ⟨0, Nat.zero_le _, rfl, (fun k hk => absurd hk (by omega)), HH.out, HB.out⟩
          case round =>
            obtain ⟨m, hm, rfl, hik, hH, hb⟩ := hrel
            have HIK := Lib.hid hik; clear hik
            have hc2 := has_cell hH 2 rfl
            have HRW := Lib.hid (HR.out.later hB hb)
            have HH := Lib.hid hH; have HB := Lib.hid hb; clear hH hb
            by_cases hlm : m < R.length
            · obtain ⟨b3, f3, xc, hb3, hrow, hlegs⟩ := legs_at HT.out HRW.out hlt
              obtain ⟨b4, f4, xd, hb4, hrow4, hlegs4⟩ := legs_at HT.out HRW.out hlm
              have hleg := hlegs k hlk; have hmk := hlegs4 k hlk; have hhalf := hlegs m hlm
              have hbik := HLEG.out i k hlt hlk; have hbmk := HLEG.out m k hlm hlk; have hbim := HLEG.out i m hlt hlm
              obtain ⟨Lik, hLik⟩ : ∃ x, legT (gOf R) i k = x := ⟨_, rfl⟩
              obtain ⟨Lmk, hLmk⟩ : ∃ x, legT (gOf R) m k = x := ⟨_, rfl⟩
              obtain ⟨Lim, hLim⟩ : ∃ x, legT (gOf R) i m = x := ⟨_, rfl⟩
              rw [hLik] at hleg hbik; rw [hLmk] at hmk hbmk; rw [hLim] at hhalf hbim
              have HLik := Lib.hid hLik; have HLmk := Lib.hid hLmk; have HLim := Lib.hid hLim; clear hLik hLmk hLim hlegs hlegs4
              have hsz : B ≤ wr.heap.size := by have := HB.out.size; omega
              have hww : IntKind.i64.wrap (Lim + Lmk) = Lim + Lmk := IntWalk.i64_in _ (by omega)
              by_cases hbad : Lim + Lmk < Lik
              · go_wp2_with fail
                go_quiet (fail)
                go_wp2_with fail
                go_ret
                exact ⟨false, rfl, ⟨fun h => (by cases h), fun h => (by have h8 := h.2 i k m hlt hlk hlm; rw [HLik.out, HLim.out, HLmk.out] at h8; omega)⟩, below_dn HB.out _⟩
              · go_wp2_with fail
                go_quiet (fail)
                go_wp2_with fail
                go_roundw
                case rel => exact ⟨m + 1, by omega, by go_num, (fun m2 hm2 => by
                  by_cases e : m2 = m
                  · subst e; rw [HLik.out, HLmk.out, HLim.out]; omega
                  · exact HIK.out m2 (by omega)), HH.out, below_dn HB.out _⟩
                case measure => simp [intOf]; omega
            · have hml : m = R.length := by omega
              have HIK2 := Lib.hid (fun m2 (h : m2 < R.length) => HIK.out m2 (by omega))
              clear hml
              go_wp2_with fail
              go_roundw
              case rel => exact ⟨k + 1, by omega, by go_num, (fun k2 m2 hk2 hm2 => by
                by_cases e : k2 = k
                · subst e; exact HIK2.out m2 hm2
                · exact HIN.out k2 m2 (by omega) hm2), HH.out, HB.out⟩
              case measure => simp [intOf]; omega
        · have hkl : k = R.length := by omega
          have HIN2 := Lib.hid (fun k2 m2 (h : k2 < R.length) (h2 : m2 < R.length) => HIN.out k2 m2 (by omega) h2)
          clear hkl
          go_wp2_with fail
          go_roundw
          case rel => exact ⟨i + 1, by omega, by go_num, (fun i2 k2 m2 hi2 hk2 hm2 => by
            by_cases e : i2 = i
            · subst e; exact HIN2.out k2 m2 hk2 hm2
            · exact HOK.out i2 k2 m2 (by omega) hk2 hm2), HH.out, HB.out⟩
          case measure => simp [intOf]; omega
    · go_wp2_with fail
      go_ret
      exact ⟨true, rfl, ⟨fun _ => ⟨HT.out, fun i2 k2 m2 h1 h2 h3 => HOK.out i2 k2 m2 (by omega) h2 h3⟩, fun _ => rfl⟩, HB.out⟩
end Go.Proofs.Ytkchhnnklppbeaa
