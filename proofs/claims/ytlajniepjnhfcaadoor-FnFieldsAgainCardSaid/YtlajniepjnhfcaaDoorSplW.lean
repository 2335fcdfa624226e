/- Chapter 1: the law FnFieldsAgain: the draw. -/
import Derived.Test.YtlajniepjnhfcaaDoorHexB
import Derived.Test.YtlajniepjnhfcaaDoorDraw
import Derived.Test.YtlajniepjnhfcaaDoorHexU
import Derived.Test.YtlajniepjnhfcaaDoorSplQ
namespace Go.Proofs.YtlajniepjnhfcaaDoor
open Go.RowKit
set_option linter.unusedVariables false

def DrawnT (m : Nat) (w : World) (B g : Nat) (e : Ending) (w' : World) : Prop := ∃ s : ByteArray, s.size ≤ m ∧ e = .returned (.string s) ∧ Cur w' B g ∧ Only w g w'
set_option maxHeartbeats 400000 in
theorem pickStr_any (w : World) (B g gl m bd : Nat) (cs : Array Value) (hC : Cur w B g) (hL : Has w gl 9 cs) (hm : cs.size = m) (h1 : 1 ≤ m) (h2 : m ≤ 1000) (hne : gl ≠ g)
    (hall : ∀ k, k < m → ∃ x : ByteArray, x.size ≤ bd ∧ cs[k]? = some (.string x)) :
    Calls Tryd.prog 14 #[.pointer (some ⟨g, 0, none⟩), .slice (some ⟨gl, 0, none⟩) m m] w (DrawnT bd w B g) := by
  have HC := Lib.hid hC; clear hC
  have HL := Lib.hid hL; clear hL
  have HA := Lib.hid hall; clear hall
  go_enter Tryd.func14, Tryd.ntmps14
  go_wp2_with fail
  refine (below_any w B g m (by omega) (by omega) HC.out).mono ?_
  rintro e w1 ⟨x, hx0, hx1, rfl, hC1, ho1⟩
  have HC1 := Lib.hid hC1; clear hC1
  have k1 := has_only HL.out ho1 hne
  obtain ⟨k, rfl⟩ := Int.eq_ofNat_of_zero_le hx0
  obtain ⟨y, hy0, hyc⟩ := HA.out k (by omega)
  have e1 := has_cell k1 k hyc
  clear k1 hyc
  go_wp2_with fail
  go_ret
  exact ⟨y, hy0, rfl, HC1.out, ho1⟩

/-- one byte as a text -/
theorem conv_txt1 (W : World) (g : Nat) (x : Int) (h : Has W g 5 #[.int .u8 x]) : ∃ s : ByteArray, s.size = 1 ∧ (convert 22 9 (.slice (some ⟨g, 0, none⟩) 1 1)).run Tryd.prog W = .ok (.string s) W :=
  ⟨strOfNums [x], by rw [strOfNums_size]; rfl, run_convert_bytes_arg W _ _ Tryd.underlying22 Tryd.underlying5 g 0 1 1 [x] rfl (fun i hi => by
    have hi0 : i = 0 := by simpa using hi
    subst hi0
    rw [Nat.zero_add, has_cell h 0 rfl]; rfl) _ Tryd.underlying9⟩

theorem cur_belowT {w w' : World} {B g : Nat} (h : Cur w B g) (hb : Below w.heap.size w w') : Cur w' B g := by
  have hB := h.lt.1
  obtain ⟨A, n, c, i, hh, hH, hS, hn, h0, h1, hg⟩ := h
  have hlt := has_lt hH
  exact ⟨A, n, c, i, hh, (hb.block g hlt).trans hH, hS.kept fun p hp => World.cell?_of_block (hb.block p.block (by omega)), hn, h0, h1, hg⟩

theorem wrap_two {x : Int} {p : Nat} (h : x = (p : Int)) (hp : p ≤ 2) : wrap64 (1 + wrap64 x) = 1 + (p : Int) := by
  subst h
  obtain rfl | rfl | rfl : p = 0 ∨ p = 1 ∨ p = 2 := by omega
  · unfold wrap64; decide
  · unfold wrap64; decide
  · unfold wrap64; decide
set_option maxRecDepth 100000 in
set_option maxHeartbeats 4000000 in
theorem drawSpl_any (w : World) (A : Option Addr) (n c : Nat) (hn : n ≤ maxLen) (hS : BS w w.heap.size A n) :
    Calls Tryd.prog 5 #[.slice A n c] w (DrawnS w) := by
  have HS := Lib.hid hS; clear hS
  go_enter Tryd.func5, Tryd.ntmps5
  go_wp2_with fail
  refine (new_any w w.heap.size A n c hn (Nat.le_refl _) HS.out).mono ?_
  rintro e w1 ⟨rfl, hC0, hb0⟩
  have HC0 := Lib.hid hC0; clear hC0
  go_wp2_with fail
  refine (below_any w1 _ _ 9 (by omega) (by omega) HC0.out).mono ?_
  rintro e w2 ⟨x2, x2a, x2b, rfl, hC2, ho2⟩
  have HC2 := Lib.hid hC2; clear hC2
  have hb2 := hb0.trans (only_below ho2 HC0.out.lt.1 (Nat.le_refl _))
  clear ho2
  go_wp2_with fail
  refine (once_any w2 _ _ 15 (by omega) (by omega) HC2.out).mono ?_
  rintro e w3 ⟨x3, rfl, hC3, ho3⟩
  have HC3 := Lib.hid hC3; clear hC3
  have hb3 := hb2.trans (only_below ho3 HC2.out.lt.1 (Nat.le_refl _))
  clear ho3
  obtain ⟨m, hm⟩ := Int.eq_ofNat_of_zero_le x2a
  subst hm
  cases x3
  · have hm25 : m ≤ 25 := by omega
    go_wp2
    go_loopw [5, 6] (fun sv iv wr => ∃ (k : Nat) (s : ByteArray), k ≤ m ∧ iv = .int .i64 (k : Int) ∧ sv = .string s ∧ s.size ≤ 8 * k ∧ Cur wr w.heap.size w.heap.size ∧ Below w.heap.size w wr) (fun _ iv _ => m - (intOf iv).toNat)
    case atStart => exact ⟨0, ⟨#[]⟩, Nat.zero_le _, rfl, rfl, Nat.le_refl _, HC3.out, hb3⟩
    case round =>
      obtain ⟨k, s, hk, rfl, rfl, hsz, hck, hbk⟩ := hrel
      have HCK := Lib.hid hck; clear hck
      by_cases hlt : k < m
      · by_cases hk0 : 0 < k
        · skip
          go_wp2_with fail
          refine (below_any wr _ _ 2 (by omega) (by omega) HCK.out).mono ?_
          rintro e w4 ⟨x4, x4a, x4b, rfl, hC4, ho4⟩
          have HC4 := Lib.hid hC4; clear hC4
          have hb4 := hbk.trans (only_below ho4 HCK.out.lt.1 (Nat.le_refl _))
          clear ho4
          go_wp2_with fail
          refine (below_any w4 _ _ 3 (by omega) (by omega) HC4.out).mono ?_
          rintro e w5 ⟨x5, x5a, x5b, rfl, hC5, ho5⟩
          have HC5 := Lib.hid hC5; clear hC5
          have hb5 := hb4.trans (only_below ho5 HC4.out.lt.1 (Nat.le_refl _))
          clear ho5
          have hp6 : 0 ≤ x4 * x5 ∧ x4 * x5 ≤ 2 := by
            obtain hx | hx : x4 = 0 ∨ x4 = 1 := by omega
            · rw [hx]; omega
            · rw [hx]; omega
          obtain ⟨p, hp⟩ := Int.eq_ofNat_of_zero_le hp6.1
          have hp2 : p ≤ 2 := by omega
          have hv := wrap_two hp hp2
          have HV := Lib.hid hv; clear hv hp hp6
          have hl7 := long_any w5 (1 + p) 32 (by omega)
          rw [show (((1 + p : Nat)) : Int) = 1 + (p : Int) by omega] at hl7
          have HL7 := Lib.hid hl7; clear hl7
          go_wp2_with fail
          rw [HV.out]
          refine HL7.out.mono ?_
          clear HL7
          rintro e w7 ⟨t7, ht7, rfl, hq7⟩
          have HC7 := Lib.hid (cur_belowT HC5.out hq7)
          have hb7 := hb5.trans (hq7.mono hb5.size)
          have hz7 : (s ++ t7).size = s.size + t7.size := ByteArray.size_append
          clear hq7
          go_wp2
          go_loopw [5, 7] (fun sv kv wr => ∃ (q : Nat) (s : ByteArray), q ≤ 5 ∧ kv = .int .i64 (q : Int) ∧ sv = .string s ∧ s.size ≤ 8 * k + 3 + q ∧ Cur wr w.heap.size w.heap.size ∧ Below w.heap.size w wr) (fun _ kv _ => 5 - (intOf kv).toNat)
          case atStart => exact ⟨0, (s ++ t7), Nat.zero_le _, rfl, rfl, by omega, HC7.out, hb7⟩
          case round =>
            obtain ⟨q, s8, hq, rfl, rfl, hsz8, hcq, hbq⟩ := hrel
            have HCQ := Lib.hid hcq; clear hcq
            go_wp2_with fail
            refine (below_any wr _ _ 5 (by omega) (by omega) HCQ.out).mono ?_
            rintro e w9 ⟨x9, x9a, x9b, rfl, hC9, ho9⟩
            have HC9 := Lib.hid hC9; clear hC9
            have hb9 := hbq.trans (only_below ho9 HCQ.out.lt.1 (Nat.le_refl _))
            clear ho9
            by_cases hle : (q : Int) ≤ x9
            · have hq4 : q < 5 := by omega
              go_wp2_with fail
              refine (below_any w9 _ _ 94 (by omega) (by omega) HC9.out).mono ?_
              rintro e w10 ⟨x10, x10a, x10b, rfl, hC10, ho10⟩
              have HC10 := Lib.hid hC10; clear hC10
              have hb10 := hb9.trans (only_below ho10 HC9.out.lt.1 (Nat.le_refl _))
              clear ho10
              obtain ⟨t11, ht11, hconv⟩ := conv_txt1 (w10.alloc (.cells #[.int .u8 (33 + x10)] 5)) w10.heap.size (33 + x10) (has_new _ _ _)
              have hz11 : (s8 ++ t11).size = s8.size + t11.size := ByteArray.size_append
              have HCA := Lib.hid (HC10.out.alloc HC10.out.lt.1 (.cells #[.int .u8 (33 + x10)] 5))
              have hba := hb10.alloc hb10.size (.cells #[.int .u8 (33 + x10)] 5)
              go_wp2
              go_roundw
              case rel => exact ⟨q + 1, s8 ++ t11, by omega, by go_num, rfl, by omega, HCA.out, hba⟩
              case measure => simp [intOf]; omega
            · go_wp2
              go_roundw
              case rel => exact ⟨k + 1, s8, by omega, by go_num, rfl, by omega, HC9.out, hb9⟩
              case measure => simp [intOf]; omega
        · skip
          go_wp2_with fail
          refine (once_any wr _ _ 5 (by omega) (by omega) HCK.out).mono ?_
          rintro e w12 ⟨x12, rfl, hC12, ho12⟩
          have HC12 := Lib.hid hC12; clear hC12
          have hb12 := hbk.trans (only_below ho12 HCK.out.lt.1 (Nat.le_refl _))
          clear ho12
          cases x12
          · skip
            go_wp2
            go_loopw [5, 7] (fun sv kv wr => ∃ (q : Nat) (s : ByteArray), q ≤ 5 ∧ kv = .int .i64 (q : Int) ∧ sv = .string s ∧ s.size ≤ 8 * k + 3 + q ∧ Cur wr w.heap.size w.heap.size ∧ Below w.heap.size w wr) (fun _ kv _ => 5 - (intOf kv).toNat)
            case atStart => exact ⟨0, s, Nat.zero_le _, rfl, rfl, by omega, HC12.out, hb12⟩
            case round =>
              obtain ⟨q, s13, hq, rfl, rfl, hsz13, hcq, hbq⟩ := hrel
              have HCQ := Lib.hid hcq; clear hcq
              go_wp2_with fail
              refine (below_any wr _ _ 5 (by omega) (by omega) HCQ.out).mono ?_
              rintro e w14 ⟨x14, x14a, x14b, rfl, hC14, ho14⟩
              have HC14 := Lib.hid hC14; clear hC14
              have hb14 := hbq.trans (only_below ho14 HCQ.out.lt.1 (Nat.le_refl _))
              clear ho14
              by_cases hle : (q : Int) ≤ x14
              · have hq4 : q < 5 := by omega
                go_wp2_with fail
                refine (below_any w14 _ _ 94 (by omega) (by omega) HC14.out).mono ?_
                rintro e w15 ⟨x15, x15a, x15b, rfl, hC15, ho15⟩
                have HC15 := Lib.hid hC15; clear hC15
                have hb15 := hb14.trans (only_below ho15 HC14.out.lt.1 (Nat.le_refl _))
                clear ho15
                obtain ⟨t16, ht16, hconv⟩ := conv_txt1 (w15.alloc (.cells #[.int .u8 (33 + x15)] 5)) w15.heap.size (33 + x15) (has_new _ _ _)
                have hz16 : (s13 ++ t16).size = s13.size + t16.size := ByteArray.size_append
                have HCA := Lib.hid (HC15.out.alloc HC15.out.lt.1 (.cells #[.int .u8 (33 + x15)] 5))
                have hba := hb15.alloc hb15.size (.cells #[.int .u8 (33 + x15)] 5)
                go_wp2
                go_roundw
                case rel => exact ⟨q + 1, s13 ++ t16, by omega, by go_num, rfl, by omega, HCA.out, hba⟩
                case measure => simp [intOf]; omega
              · go_wp2
                go_roundw
                case rel => exact ⟨k + 1, s13, by omega, by go_num, rfl, by omega, HC14.out, hb14⟩
                case measure => simp [intOf]; omega
          · skip
            go_wp2_with fail
            refine (below_any w12 _ _ 2 (by omega) (by omega) HC12.out).mono ?_
            rintro e w17 ⟨x17, x17a, x17b, rfl, hC17, ho17⟩
            have HC17 := Lib.hid hC17; clear hC17
            have hb17 := hb12.trans (only_below ho17 HC12.out.lt.1 (Nat.le_refl _))
            clear ho17
            go_wp2_with fail
            refine (below_any w17 _ _ 3 (by omega) (by omega) HC17.out).mono ?_
            rintro e w18 ⟨x18, x18a, x18b, rfl, hC18, ho18⟩
            have HC18 := Lib.hid hC18; clear hC18
            have hb18 := hb17.trans (only_below ho18 HC17.out.lt.1 (Nat.le_refl _))
            clear ho18
            have hp19 : 0 ≤ x17 * x18 ∧ x17 * x18 ≤ 2 := by
              obtain hx | hx : x17 = 0 ∨ x17 = 1 := by omega
              · rw [hx]; omega
              · rw [hx]; omega
            obtain ⟨p, hp⟩ := Int.eq_ofNat_of_zero_le hp19.1
            have hp2 : p ≤ 2 := by omega
            have hv := wrap_two hp hp2
            have HV := Lib.hid hv; clear hv hp hp19
            have hl20 := long_any w18 (1 + p) 32 (by omega)
            rw [show (((1 + p : Nat)) : Int) = 1 + (p : Int) by omega] at hl20
            have HL20 := Lib.hid hl20; clear hl20
            go_wp2_with fail
            rw [HV.out]
            refine HL20.out.mono ?_
            clear HL20
            rintro e w20 ⟨t20, ht20, rfl, hq20⟩
            have HC20 := Lib.hid (cur_belowT HC18.out hq20)
            have hb20 := hb18.trans (hq20.mono hb18.size)
            have hz20 : (s ++ t20).size = s.size + t20.size := ByteArray.size_append
            clear hq20
            go_wp2
            go_loopw [5, 7] (fun sv kv wr => ∃ (q : Nat) (s : ByteArray), q ≤ 5 ∧ kv = .int .i64 (q : Int) ∧ sv = .string s ∧ s.size ≤ 8 * k + 3 + q ∧ Cur wr w.heap.size w.heap.size ∧ Below w.heap.size w wr) (fun _ kv _ => 5 - (intOf kv).toNat)
            case atStart => exact ⟨0, (s ++ t20), Nat.zero_le _, rfl, rfl, by omega, HC20.out, hb20⟩
            case round =>
              obtain ⟨q, s21, hq, rfl, rfl, hsz21, hcq, hbq⟩ := hrel
              have HCQ := Lib.hid hcq; clear hcq
              go_wp2_with fail
              refine (below_any wr _ _ 5 (by omega) (by omega) HCQ.out).mono ?_
              rintro e w22 ⟨x22, x22a, x22b, rfl, hC22, ho22⟩
              have HC22 := Lib.hid hC22; clear hC22
              have hb22 := hbq.trans (only_below ho22 HCQ.out.lt.1 (Nat.le_refl _))
              clear ho22
              by_cases hle : (q : Int) ≤ x22
              · have hq4 : q < 5 := by omega
                go_wp2_with fail
                refine (below_any w22 _ _ 94 (by omega) (by omega) HC22.out).mono ?_
                rintro e w23 ⟨x23, x23a, x23b, rfl, hC23, ho23⟩
                have HC23 := Lib.hid hC23; clear hC23
                have hb23 := hb22.trans (only_below ho23 HC22.out.lt.1 (Nat.le_refl _))
                clear ho23
                obtain ⟨t24, ht24, hconv⟩ := conv_txt1 (w23.alloc (.cells #[.int .u8 (33 + x23)] 5)) w23.heap.size (33 + x23) (has_new _ _ _)
                have hz24 : (s21 ++ t24).size = s21.size + t24.size := ByteArray.size_append
                have HCA := Lib.hid (HC23.out.alloc HC23.out.lt.1 (.cells #[.int .u8 (33 + x23)] 5))
                have hba := hb23.alloc hb23.size (.cells #[.int .u8 (33 + x23)] 5)
                go_wp2
                go_roundw
                case rel => exact ⟨q + 1, s21 ++ t24, by omega, by go_num, rfl, by omega, HCA.out, hba⟩
                case measure => simp [intOf]; omega
              · go_wp2
                go_roundw
                case rel => exact ⟨k + 1, s21, by omega, by go_num, rfl, by omega, HC22.out, hb22⟩
                case measure => simp [intOf]; omega
      · skip
        go_wp2_with fail
        refine (below_any wr _ _ 12 (by omega) (by omega) HCK.out).mono ?_
        rintro e w25 ⟨x25, x25a, x25b, rfl, hC25, ho25⟩
        have HC25 := Lib.hid hC25; clear hC25
        have hb25 := hbk.trans (only_below ho25 HCK.out.lt.1 (Nat.le_refl _))
        clear ho25
        by_cases h0 : x25 = 0
        · subst h0
          have hH : Has (w25.alloc (.cells #[.string ⟨#[32]⟩, .string ⟨#[32, 32]⟩, .string ⟨#[9]⟩, .string ⟨#[10]⟩, .string ⟨#[127]⟩, .string ⟨#[233]⟩] 9)) w25.heap.size 9 #[.string ⟨#[32]⟩, .string ⟨#[32, 32]⟩, .string ⟨#[9]⟩, .string ⟨#[10]⟩, .string ⟨#[127]⟩, .string ⟨#[233]⟩] := has_new _ _ _
          have HCA := Lib.hid (HC25.out.alloc HC25.out.lt.1 (.cells #[.string ⟨#[32]⟩, .string ⟨#[32, 32]⟩, .string ⟨#[9]⟩, .string ⟨#[10]⟩, .string ⟨#[127]⟩, .string ⟨#[233]⟩] 9))
          have hba := hb25.alloc hb25.size (.cells #[.string ⟨#[32]⟩, .string ⟨#[32, 32]⟩, .string ⟨#[9]⟩, .string ⟨#[10]⟩, .string ⟨#[127]⟩, .string ⟨#[233]⟩] 9)
          have hlt2 := HC25.out.lt.2
          have HH := Lib.hid hH; clear hH
          go_wp2_with fail
          refine (pickStr_any _ _ _ _ 6 2 _ HCA.out HH.out rfl (by omega) (by omega) (by omega) (fun k hk => by rcases k with _ | _ | _ | _ | _ | _ | k; exact ⟨_, by decide, rfl⟩; exact ⟨_, by decide, rfl⟩; exact ⟨_, by decide, rfl⟩; exact ⟨_, by decide, rfl⟩; exact ⟨_, by decide, rfl⟩; exact ⟨_, by decide, rfl⟩; omega)).mono ?_
          rintro e w26 ⟨t26, ht26, rfl, hC26, ho26⟩
          have hz26 : (s ++ t26).size = s.size + t26.size := ByteArray.size_append
          have hb26 := hba.trans (only_below ho26 HCA.out.lt.1 (Nat.le_refl _))
          go_wp2_with fail
          go_ret
          exact ⟨s ++ t26, by omega, rfl, hb26⟩
        by_cases h1 : x25 = 1
        · subst h1
          by_cases hs6 : s.size < 600
          · skip
            go_wp2_with fail
            refine (below_any w25 _ _ 2 (by omega) (by omega) HC25.out).mono ?_
            rintro e w27 ⟨x27, x27a, x27b, rfl, hC27, ho27⟩
            have HC27 := Lib.hid hC27; clear hC27
            have hb27 := hb25.trans (only_below ho27 HC25.out.lt.1 (Nat.le_refl _))
            clear ho27
            obtain ⟨p, hp⟩ := Int.eq_ofNat_of_zero_le x27a
            subst hp
            have hl28 := long_any w27 (600 - s.size + p) 32 (by omega)
            rw [show (((600 - s.size + p : Nat)) : Int) = 600 - (s.size : Int) + (p : Int) by omega] at hl28
            have HL28 := Lib.hid hl28; clear hl28
            go_wp2_with fail
            refine HL28.out.mono ?_
            clear HL28
            rintro e w28 ⟨t28, ht28, rfl, hq28⟩
            have HC28 := Lib.hid (cur_belowT HC27.out hq28)
            have hb28 := hb27.trans (hq28.mono hb27.size)
            have hz28 : (s ++ t28).size = s.size + t28.size := ByteArray.size_append
            clear hq28
            go_wp2_with fail
            go_ret
            exact ⟨(s ++ t28), by omega, rfl, hb28⟩
          · exfalso; omega
        have h0b : (x25 == 0) = false := by simpa using h0
        have h1b : (x25 == 1) = false := by simpa using h1
        go_wp2_with fail
        go_ret
        exact ⟨s, by omega, rfl, hb25⟩
  · skip
    go_wp2_with fail
    refine (below_any w3 _ _ 2 (by omega) (by omega) HC3.out).mono ?_
    rintro e w29 ⟨x29, x29a, x29b, rfl, hC29, ho29⟩
    have HC29 := Lib.hid hC29; clear hC29
    have hb29 := hb3.trans (only_below ho29 HC3.out.lt.1 (Nat.le_refl _))
    clear ho29
    obtain ⟨m2, hm2⟩ := Int.eq_ofNat_of_zero_le x29a
    subst hm2
    have hm25 : m2 ≤ 1 := by omega
    go_wp2
    go_loopw [5, 6] (fun sv iv wr => ∃ (k : Nat) (s : ByteArray), k ≤ (24 + m2) ∧ iv = .int .i64 (k : Int) ∧ sv = .string s ∧ s.size ≤ 8 * k ∧ Cur wr w.heap.size w.heap.size ∧ Below w.heap.size w wr) (fun _ iv _ => (24 + m2) - (intOf iv).toNat)
    case atStart => exact ⟨0, ⟨#[]⟩, Nat.zero_le _, rfl, rfl, Nat.le_refl _, HC29.out, hb29⟩
    case round =>
      obtain ⟨k, s, hk, rfl, rfl, hsz, hck, hbk⟩ := hrel
      have HCK := Lib.hid hck; clear hck
      by_cases hlt : k < (24 + m2)
      · by_cases hk0 : 0 < k
        · skip
          go_wp2_with fail
          refine (below_any wr _ _ 2 (by omega) (by omega) HCK.out).mono ?_
          rintro e w30 ⟨x30, x30a, x30b, rfl, hC30, ho30⟩
          have HC30 := Lib.hid hC30; clear hC30
          have hb30 := hbk.trans (only_below ho30 HCK.out.lt.1 (Nat.le_refl _))
          clear ho30
          go_wp2_with fail
          refine (below_any w30 _ _ 3 (by omega) (by omega) HC30.out).mono ?_
          rintro e w31 ⟨x31, x31a, x31b, rfl, hC31, ho31⟩
          have HC31 := Lib.hid hC31; clear hC31
          have hb31 := hb30.trans (only_below ho31 HC30.out.lt.1 (Nat.le_refl _))
          clear ho31
          have hp32 : 0 ≤ x30 * x31 ∧ x30 * x31 ≤ 2 := by
            obtain hx | hx : x30 = 0 ∨ x30 = 1 := by omega
            · rw [hx]; omega
            · rw [hx]; omega
          obtain ⟨p, hp⟩ := Int.eq_ofNat_of_zero_le hp32.1
          have hp2 : p ≤ 2 := by omega
          have hv := wrap_two hp hp2
          have HV := Lib.hid hv; clear hv hp hp32
          have hl33 := long_any w31 (1 + p) 32 (by omega)
          rw [show (((1 + p : Nat)) : Int) = 1 + (p : Int) by omega] at hl33
          have HL33 := Lib.hid hl33; clear hl33
          go_wp2_with fail
          rw [HV.out]
          refine HL33.out.mono ?_
          clear HL33
          rintro e w33 ⟨t33, ht33, rfl, hq33⟩
          have HC33 := Lib.hid (cur_belowT HC31.out hq33)
          have hb33 := hb31.trans (hq33.mono hb31.size)
          have hz33 : (s ++ t33).size = s.size + t33.size := ByteArray.size_append
          clear hq33
          go_wp2
          go_loopw [5, 7] (fun sv kv wr => ∃ (q : Nat) (s : ByteArray), q ≤ 5 ∧ kv = .int .i64 (q : Int) ∧ sv = .string s ∧ s.size ≤ 8 * k + 3 + q ∧ Cur wr w.heap.size w.heap.size ∧ Below w.heap.size w wr) (fun _ kv _ => 5 - (intOf kv).toNat)
          case atStart => exact ⟨0, (s ++ t33), Nat.zero_le _, rfl, rfl, by omega, HC33.out, hb33⟩
          case round =>
            obtain ⟨q, s34, hq, rfl, rfl, hsz34, hcq, hbq⟩ := hrel
            have HCQ := Lib.hid hcq; clear hcq
            go_wp2_with fail
            refine (below_any wr _ _ 5 (by omega) (by omega) HCQ.out).mono ?_
            rintro e w35 ⟨x35, x35a, x35b, rfl, hC35, ho35⟩
            have HC35 := Lib.hid hC35; clear hC35
            have hb35 := hbq.trans (only_below ho35 HCQ.out.lt.1 (Nat.le_refl _))
            clear ho35
            by_cases hle : (q : Int) ≤ x35
            · have hq4 : q < 5 := by omega
              go_wp2_with fail
              refine (below_any w35 _ _ 94 (by omega) (by omega) HC35.out).mono ?_
              rintro e w36 ⟨x36, x36a, x36b, rfl, hC36, ho36⟩
              have HC36 := Lib.hid hC36; clear hC36
              have hb36 := hb35.trans (only_below ho36 HC35.out.lt.1 (Nat.le_refl _))
              clear ho36
              obtain ⟨t37, ht37, hconv⟩ := conv_txt1 (w36.alloc (.cells #[.int .u8 (33 + x36)] 5)) w36.heap.size (33 + x36) (has_new _ _ _)
              have hz37 : (s34 ++ t37).size = s34.size + t37.size := ByteArray.size_append
              have HCA := Lib.hid (HC36.out.alloc HC36.out.lt.1 (.cells #[.int .u8 (33 + x36)] 5))
              have hba := hb36.alloc hb36.size (.cells #[.int .u8 (33 + x36)] 5)
              go_wp2
              go_roundw
              case rel => exact ⟨q + 1, s34 ++ t37, by omega, by go_num, rfl, by omega, HCA.out, hba⟩
              case measure => simp [intOf]; omega
            · go_wp2
              go_roundw
              case rel => exact ⟨k + 1, s34, by omega, by go_num, rfl, by omega, HC35.out, hb35⟩
              case measure => simp [intOf]; omega
        · skip
          go_wp2_with fail
          refine (once_any wr _ _ 5 (by omega) (by omega) HCK.out).mono ?_
          rintro e w38 ⟨x38, rfl, hC38, ho38⟩
          have HC38 := Lib.hid hC38; clear hC38
          have hb38 := hbk.trans (only_below ho38 HCK.out.lt.1 (Nat.le_refl _))
          clear ho38
          cases x38
          · skip
            go_wp2
            go_loopw [5, 7] (fun sv kv wr => ∃ (q : Nat) (s : ByteArray), q ≤ 5 ∧ kv = .int .i64 (q : Int) ∧ sv = .string s ∧ s.size ≤ 8 * k + 3 + q ∧ Cur wr w.heap.size w.heap.size ∧ Below w.heap.size w wr) (fun _ kv _ => 5 - (intOf kv).toNat)
            case atStart => exact ⟨0, s, Nat.zero_le _, rfl, rfl, by omega, HC38.out, hb38⟩
            case round =>
              obtain ⟨q, s39, hq, rfl, rfl, hsz39, hcq, hbq⟩ := hrel
              have HCQ := Lib.hid hcq; clear hcq
              go_wp2_with fail
              refine (below_any wr _ _ 5 (by omega) (by omega) HCQ.out).mono ?_
              rintro e w40 ⟨x40, x40a, x40b, rfl, hC40, ho40⟩
              have HC40 := Lib.hid hC40; clear hC40
              have hb40 := hbq.trans (only_below ho40 HCQ.out.lt.1 (Nat.le_refl _))
              clear ho40
              by_cases hle : (q : Int) ≤ x40
              · have hq4 : q < 5 := by omega
                go_wp2_with fail
                refine (below_any w40 _ _ 94 (by omega) (by omega) HC40.out).mono ?_
                rintro e w41 ⟨x41, x41a, x41b, rfl, hC41, ho41⟩
                have HC41 := Lib.hid hC41; clear hC41
                have hb41 := hb40.trans (only_below ho41 HC40.out.lt.1 (Nat.le_refl _))
                clear ho41
                obtain ⟨t42, ht42, hconv⟩ := conv_txt1 (w41.alloc (.cells #[.int .u8 (33 + x41)] 5)) w41.heap.size (33 + x41) (has_new _ _ _)
                have hz42 : (s39 ++ t42).size = s39.size + t42.size := ByteArray.size_append
                have HCA := Lib.hid (HC41.out.alloc HC41.out.lt.1 (.cells #[.int .u8 (33 + x41)] 5))
                have hba := hb41.alloc hb41.size (.cells #[.int .u8 (33 + x41)] 5)
                go_wp2
                go_roundw
                case rel => exact ⟨q + 1, s39 ++ t42, by omega, by go_num, rfl, by omega, HCA.out, hba⟩
                case measure => simp [intOf]; omega
              · go_wp2
                go_roundw
                case rel => exact ⟨k + 1, s39, by omega, by go_num, rfl, by omega, HC40.out, hb40⟩
                case measure => simp [intOf]; omega
          · skip
            go_wp2_with fail
            refine (below_any w38 _ _ 2 (by omega) (by omega) HC38.out).mono ?_
            rintro e w43 ⟨x43, x43a, x43b, rfl, hC43, ho43⟩
            have HC43 := Lib.hid hC43; clear hC43
            have hb43 := hb38.trans (only_below ho43 HC38.out.lt.1 (Nat.le_refl _))
            clear ho43
            go_wp2_with fail
            refine (below_any w43 _ _ 3 (by omega) (by omega) HC43.out).mono ?_
            rintro e w44 ⟨x44, x44a, x44b, rfl, hC44, ho44⟩
            have HC44 := Lib.hid hC44; clear hC44
            have hb44 := hb43.trans (only_below ho44 HC43.out.lt.1 (Nat.le_refl _))
            clear ho44
            have hp45 : 0 ≤ x43 * x44 ∧ x43 * x44 ≤ 2 := by
              obtain hx | hx : x43 = 0 ∨ x43 = 1 := by omega
              · rw [hx]; omega
              · rw [hx]; omega
            obtain ⟨p, hp⟩ := Int.eq_ofNat_of_zero_le hp45.1
            have hp2 : p ≤ 2 := by omega
            have hv := wrap_two hp hp2
            have HV := Lib.hid hv; clear hv hp hp45
            have hl46 := long_any w44 (1 + p) 32 (by omega)
            rw [show (((1 + p : Nat)) : Int) = 1 + (p : Int) by omega] at hl46
            have HL46 := Lib.hid hl46; clear hl46
            go_wp2_with fail
            rw [HV.out]
            refine HL46.out.mono ?_
            clear HL46
            rintro e w46 ⟨t46, ht46, rfl, hq46⟩
            have HC46 := Lib.hid (cur_belowT HC44.out hq46)
            have hb46 := hb44.trans (hq46.mono hb44.size)
            have hz46 : (s ++ t46).size = s.size + t46.size := ByteArray.size_append
            clear hq46
            go_wp2
            go_loopw [5, 7] (fun sv kv wr => ∃ (q : Nat) (s : ByteArray), q ≤ 5 ∧ kv = .int .i64 (q : Int) ∧ sv = .string s ∧ s.size ≤ 8 * k + 3 + q ∧ Cur wr w.heap.size w.heap.size ∧ Below w.heap.size w wr) (fun _ kv _ => 5 - (intOf kv).toNat)
            case atStart => exact ⟨0, (s ++ t46), Nat.zero_le _, rfl, rfl, by omega, HC46.out, hb46⟩
            case round =>
              obtain ⟨q, s47, hq, rfl, rfl, hsz47, hcq, hbq⟩ := hrel
              have HCQ := Lib.hid hcq; clear hcq
              go_wp2_with fail
              refine (below_any wr _ _ 5 (by omega) (by omega) HCQ.out).mono ?_
              rintro e w48 ⟨x48, x48a, x48b, rfl, hC48, ho48⟩
              have HC48 := Lib.hid hC48; clear hC48
              have hb48 := hbq.trans (only_below ho48 HCQ.out.lt.1 (Nat.le_refl _))
              clear ho48
              by_cases hle : (q : Int) ≤ x48
              · have hq4 : q < 5 := by omega
                go_wp2_with fail
                refine (below_any w48 _ _ 94 (by omega) (by omega) HC48.out).mono ?_
                rintro e w49 ⟨x49, x49a, x49b, rfl, hC49, ho49⟩
                have HC49 := Lib.hid hC49; clear hC49
                have hb49 := hb48.trans (only_below ho49 HC48.out.lt.1 (Nat.le_refl _))
                clear ho49
                obtain ⟨t50, ht50, hconv⟩ := conv_txt1 (w49.alloc (.cells #[.int .u8 (33 + x49)] 5)) w49.heap.size (33 + x49) (has_new _ _ _)
                have hz50 : (s47 ++ t50).size = s47.size + t50.size := ByteArray.size_append
                have HCA := Lib.hid (HC49.out.alloc HC49.out.lt.1 (.cells #[.int .u8 (33 + x49)] 5))
                have hba := hb49.alloc hb49.size (.cells #[.int .u8 (33 + x49)] 5)
                go_wp2
                go_roundw
                case rel => exact ⟨q + 1, s47 ++ t50, by omega, by go_num, rfl, by omega, HCA.out, hba⟩
                case measure => simp [intOf]; omega
              · go_wp2
                go_roundw
                case rel => exact ⟨k + 1, s47, by omega, by go_num, rfl, by omega, HC48.out, hb48⟩
                case measure => simp [intOf]; omega
      · skip
        go_wp2_with fail
        refine (below_any wr _ _ 12 (by omega) (by omega) HCK.out).mono ?_
        rintro e w51 ⟨x51, x51a, x51b, rfl, hC51, ho51⟩
        have HC51 := Lib.hid hC51; clear hC51
        have hb51 := hbk.trans (only_below ho51 HCK.out.lt.1 (Nat.le_refl _))
        clear ho51
        by_cases h0 : x51 = 0
        · subst h0
          have hH : Has (w51.alloc (.cells #[.string ⟨#[32]⟩, .string ⟨#[32, 32]⟩, .string ⟨#[9]⟩, .string ⟨#[10]⟩, .string ⟨#[127]⟩, .string ⟨#[233]⟩] 9)) w51.heap.size 9 #[.string ⟨#[32]⟩, .string ⟨#[32, 32]⟩, .string ⟨#[9]⟩, .string ⟨#[10]⟩, .string ⟨#[127]⟩, .string ⟨#[233]⟩] := has_new _ _ _
          have HCA := Lib.hid (HC51.out.alloc HC51.out.lt.1 (.cells #[.string ⟨#[32]⟩, .string ⟨#[32, 32]⟩, .string ⟨#[9]⟩, .string ⟨#[10]⟩, .string ⟨#[127]⟩, .string ⟨#[233]⟩] 9))
          have hba := hb51.alloc hb51.size (.cells #[.string ⟨#[32]⟩, .string ⟨#[32, 32]⟩, .string ⟨#[9]⟩, .string ⟨#[10]⟩, .string ⟨#[127]⟩, .string ⟨#[233]⟩] 9)
          have hlt2 := HC51.out.lt.2
          have HH := Lib.hid hH; clear hH
          go_wp2_with fail
          refine (pickStr_any _ _ _ _ 6 2 _ HCA.out HH.out rfl (by omega) (by omega) (by omega) (fun k hk => by rcases k with _ | _ | _ | _ | _ | _ | k; exact ⟨_, by decide, rfl⟩; exact ⟨_, by decide, rfl⟩; exact ⟨_, by decide, rfl⟩; exact ⟨_, by decide, rfl⟩; exact ⟨_, by decide, rfl⟩; exact ⟨_, by decide, rfl⟩; omega)).mono ?_
          rintro e w52 ⟨t52, ht52, rfl, hC52, ho52⟩
          have hz52 : (s ++ t52).size = s.size + t52.size := ByteArray.size_append
          have hb52 := hba.trans (only_below ho52 HCA.out.lt.1 (Nat.le_refl _))
          go_wp2_with fail
          go_ret
          exact ⟨s ++ t52, by omega, rfl, hb52⟩
        by_cases h1 : x51 = 1
        · subst h1
          by_cases hs6 : s.size < 600
          · skip
            go_wp2_with fail
            refine (below_any w51 _ _ 2 (by omega) (by omega) HC51.out).mono ?_
            rintro e w53 ⟨x53, x53a, x53b, rfl, hC53, ho53⟩
            have HC53 := Lib.hid hC53; clear hC53
            have hb53 := hb51.trans (only_below ho53 HC51.out.lt.1 (Nat.le_refl _))
            clear ho53
            obtain ⟨p, hp⟩ := Int.eq_ofNat_of_zero_le x53a
            subst hp
            have hl54 := long_any w53 (600 - s.size + p) 32 (by omega)
            rw [show (((600 - s.size + p : Nat)) : Int) = 600 - (s.size : Int) + (p : Int) by omega] at hl54
            have HL54 := Lib.hid hl54; clear hl54
            go_wp2_with fail
            refine HL54.out.mono ?_
            clear HL54
            rintro e w54 ⟨t54, ht54, rfl, hq54⟩
            have HC54 := Lib.hid (cur_belowT HC53.out hq54)
            have hb54 := hb53.trans (hq54.mono hb53.size)
            have hz54 : (s ++ t54).size = s.size + t54.size := ByteArray.size_append
            clear hq54
            go_wp2_with fail
            go_ret
            exact ⟨(s ++ t54), by omega, rfl, hb54⟩
          · exfalso; omega
        have h0b : (x51 == 0) = false := by simpa using h0
        have h1b : (x51 == 1) = false := by simpa using h1
        go_wp2_with fail
        go_ret
        exact ⟨s, by omega, rfl, hb51⟩
end Go.Proofs.YtlajniepjnhfcaaDoor
