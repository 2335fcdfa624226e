/- Chapter 5: the walk of the law's own leads (gen_lead.py). -/
import Derived.Test.YtdaeljjjcgpcoaaGraB
import Derived.Deep.DeepMust
namespace Go.Proofs.Ytdaeljjjcgpcoaa
open Go.RowKit
set_option linter.unusedVariables false
/-- a grant that leads on -/
def ldB (l : List Gr) (p t who : Int) (k : Nat) (x : Int) (g : Gr) : Bool := appB p t g && decide ((k : Int) + 0 ≤ g.dep) && (g.frm == x) && rhB l p t 0 who k g.to
theorem rh_ld (l : List Gr) (p t who : Int) (k : Nat) (x : Int) : rhB l p t 0 who (k + 1) x = l.any (ldB l p t who k x) := rfl
theorem ld_yes {l : List Gr} {p t who x : Int} {k j : Nat} {g : Gr} (hg : l[j]? = some g) (h : ldB l p t who k x g = true) : rhB l p t 0 who (k + 1) x = true := by
  rw [rh_ld]; exact List.any_eq_true.2 ⟨g, List.mem_of_getElem? hg, h⟩
theorem ld_no {l : List Gr} {p t who x : Int} {k : Nat} (h : ∀ (q : Nat) (g : Gr), q < l.length → l[q]? = some g → ldB l p t who k x g = false) : rhB l p t 0 who (k + 1) x = false := by
  rw [rh_ld]
  refine List.any_eq_false.2 fun g hg => ?_
  obtain ⟨q, hq, rfl⟩ := List.mem_iff_getElem.1 hg
  rw [h q _ hq (List.getElem?_eq_getElem hq)]; exact Bool.false_ne_true
theorem ld_step {l : List Gr} {p t who x : Int} {k j : Nat} {g : Gr} (hg : l[j]? = some g) (h : ∀ (q : Nat) (g : Gr), q < j → l[q]? = some g → ldB l p t who k x g = false) (hj : ldB l p t who k x g = false) : ∀ (q : Nat) (g : Gr), q < j + 1 → l[q]? = some g → ldB l p t who k x g = false := by
  intro q g' hq hg'
  by_cases e : q = j
  · subst e; rw [hg] at hg'; injection hg' with hg'; subst hg'; exact hj
  · exact h q g' (by omega) hg'

set_option maxRecDepth 100000 in
set_option maxHeartbeats 8000000 in
theorem leads_any (l : List Gr) (p t who : Int) (hl : l.length ≤ 1048576) : ∀ (k : Nat) (w : World) (B : Nat) (A : Option Addr) (c : Nat) (x h : Int), h = (k : Int) → h ≤ 100 → B ≤ w.heap.size → grL w B A l →
    Calls Try.prog 11 #[.slice A l.length c, .int .i64 x, .int .i64 who, .int .i64 p, .int .i64 t, .int .i64 h] w fun e w' => e = .returned (.bool (rhB l p t 0 who k x)) ∧ Below w.heap.size w w'
  | 0, w, B, A, c, x, h, hh, hk, hB, hS => by
    obtain rfl : h = 0 := by omega
    clear hh hk hB
    have hv : rhB l p t 0 who 0 x = (x == who) := rfl
    rw [hv]; clear hv hS
    go_enter Try.func11, Try.ntmps11
    go_wp2_with fail
    go_ret
    exact ⟨rfl, Below.refl _ _⟩
  | k + 1, w, B, A, c, x, h, hh, hk, hB, hS => by
    have HIH := Lib.hid (leads_any l p t who hl k)
    have hz : (h == 0) = false := by simp; omega
    have h1 : 1 ≤ h := by omega
    have HH := Lib.hid hh; clear hh
    have HS := Lib.hid hS; clear hS
    go_enter Try.func11, Try.ntmps11
    go_wp2_with fail
    clear hz
    go_loopw [13] (fun i wr => ∃ j : Nat, j ≤ l.length ∧ i = .int .i64 j ∧ (∀ (q : Nat) (g : Gr), q < j → l[q]? = some g → ldB l p t who k x g = false) ∧ Below w.heap.size w wr) (fun i _ => l.length - (intOf i).toNat)
    case atStart => exact ⟨0, Nat.zero_le _, rfl, fun q g hq => absurd hq (by omega), Below.refl _ _⟩
    case round =>
      obtain ⟨j, hj, rfl, hno, hb⟩ := hrel
      have HNO := Lib.hid hno; clear hno
      by_cases hlt : j < l.length
      · obtain ⟨b, off, ⟨x0, x1, x2, x3, x4, x5, x6⟩, rfl, hbB, hx, hc0, hc1, hc2, hc3, hc4, hc5, hc6⟩ := (HS.out.later hB hb).at_ hlt
        dsimp only at hc0 hc1 hc2 hc3 hc4 hc5 hc6
        have HX := Lib.hid hx; clear hx
        have hsz := hb.size
        have hb2 : Below w.heap.size w (wr.alloc (.cells #[.int .i64 x0, .int .i64 x1, .int .i64 x2, .int .i64 x3, .int .i64 x4, .int .i64 x5, .bool x6] 35)) := bthen hb (balloc _ _)
        have HB2 := Lib.hid hb2; clear hb2
        have hnx : ∀ W, Below w.heap.size w W → ldB l p t who k x ⟨x0, x1, x2, x3, x4, x5, x6⟩ = false → ∃ j' : Nat, j' ≤ l.length ∧ Value.int .i64 ((j : Int) + 1) = .int .i64 j' ∧ (∀ (q : Nat) (g : Gr), q < j' → l[q]? = some g → ldB l p t who k x g = false) ∧ Below w.heap.size w W := fun W hW hf => ⟨j + 1, by omega, by go_num, ld_step HX.out HNO.out hf, hW⟩
        have HNX := Lib.hid hnx; clear hnx
        cases hf : (x0 == x)
        · skip
          go_wp2_with fail
          go_roundw
          case rel => exact HNX.out _ HB2.out (by simp [ldB, hf])
          case measure => simp [intOf]; omega
        by_cases hd : h - 1 ≤ x3
        rotate_left
        · skip
          go_wp2_with fail
          go_roundw
          case rel => exact HNX.out _ HB2.out (show ldB l p t who k x ⟨x0, x1, x2, x3, x4, x5, x6⟩ = false by unfold ldB; rw [decide_eq_false (show ¬ ((k : Int) + 0 ≤ x3) by have := HH.out; omega)]; simp)
          case measure => simp [intOf]; omega
        cases ha : appB p t ⟨x0, x1, x2, x3, x4, x5, x6⟩
        · have HA := Lib.hid ha; clear ha
          go_wp2_with fail
          refine (appS_any _ x0 x1 x2 x3 x4 x5 x6 p t).mono ?_
          rintro e w1 ⟨rfl, hb1⟩
          rw [HA.out]
          have kG := has_call (has_new wr 35 #[.int .i64 x0, .int .i64 x1, .int .i64 x2, .int .i64 x3, .int .i64 x4, .int .i64 x5, .bool x6]) hb1; have ge1 := has_cell kG 1 rfl; clear kG
          have HB3 := Lib.hid (bthen HB2.out hb1); clear hb1
          go_wp2_with fail
          go_roundw
          case rel => exact HNX.out _ HB3.out (by simp [ldB, HA.out])
          case measure => simp [intOf]; omega
        have HA := Lib.hid ha; clear ha
        cases hr : rhB l p t 0 who k x1
        · have HR := Lib.hid hr; clear hr
          go_wp2_with fail
          refine (appS_any _ x0 x1 x2 x3 x4 x5 x6 p t).mono ?_
          rintro e w1 ⟨rfl, hb1⟩
          rw [HA.out]
          have kG := has_call (has_new wr 35 #[.int .i64 x0, .int .i64 x1, .int .i64 x2, .int .i64 x3, .int .i64 x4, .int .i64 x5, .bool x6]) hb1; have ge1 := has_cell kG 1 rfl; clear kG
          have HB3 := Lib.hid (bthen HB2.out hb1); clear hb1
          have hs3 := HB3.out.size
          go_wp2_with fail
          refine (HIH.out _ B (some ⟨b, off, none⟩) c x1 (h - 1) (by have := HH.out; omega) (by omega) (by omega) (HS.out.later hB HB3.out)).mono ?_
          rintro e w2 ⟨rfl, hb4⟩
          rw [HR.out]
          have HB5 := Lib.hid (bthen HB3.out hb4); clear hb4
          go_wp2_with fail
          go_roundw
          case rel => exact HNX.out _ HB5.out (by simp [ldB, HR.out])
          case measure => simp [intOf]; omega
        · have HR := Lib.hid hr; clear hr
          go_wp2_with fail
          refine (appS_any _ x0 x1 x2 x3 x4 x5 x6 p t).mono ?_
          rintro e w1 ⟨rfl, hb1⟩
          rw [HA.out]
          have kG := has_call (has_new wr 35 #[.int .i64 x0, .int .i64 x1, .int .i64 x2, .int .i64 x3, .int .i64 x4, .int .i64 x5, .bool x6]) hb1; have ge1 := has_cell kG 1 rfl; clear kG
          have HB3 := Lib.hid (bthen HB2.out hb1); clear hb1
          have hs3 := HB3.out.size
          go_wp2_with fail
          refine (HIH.out _ B (some ⟨b, off, none⟩) c x1 (h - 1) (by have := HH.out; omega) (by omega) (by omega) (HS.out.later hB HB3.out)).mono ?_
          rintro e w2 ⟨rfl, hb4⟩
          rw [HR.out]
          have HB5 := Lib.hid (bthen HB3.out hb4); clear hb4
          go_wp2_with fail
          go_ret
          exact ⟨rbool (ld_yes HX.out (show ldB l p t who k x ⟨x0, x1, x2, x3, x4, x5, x6⟩ = true by unfold ldB; rw [HA.out, hf, HR.out, decide_eq_true (show (k : Int) + 0 ≤ x3 by have := HH.out; omega)]; rfl)).symm, HB5.out⟩
      · have hjl : j = l.length := by omega
        subst hjl
        have Hv := Lib.hid (ld_no HNO.out)
        go_wp2_with fail
        go_ret
        exact ⟨rbool Hv.out.symm, hb⟩
end Go.Proofs.Ytdaeljjjcgpcoaa
