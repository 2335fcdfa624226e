/- Chapter 3: contracts of MatchOf, both sides. -/
import Derived.Test.YtjpafmkmpnibgabDoorCodI
import Derived.Test.YtjpafmkmpnibgabDoorLckB
import Derived.WideShapes
namespace Go.Proofs.YtjpafmkmpnibgabDoor
open Go.RowKit
set_option linter.unusedVariables false

theorem str_ne {a b : ByteArray} (h : a ≠ b) : (a.toList == b.toList) = false := by
  rw [beq_eq_false_iff_ne, ByteArray.toList_eq, ByteArray.toList_eq]
  exact fun e => h (WideShapes.bytes_inj e)
/-- these codes are shown from a count on -/
def shownL (s : Int) : Int → List ByteArray → Bool
  | _, [] => true
  | f, a :: r => if codeT s f = a then shownL s (f + 1) r else false
theorem shownL_yes {s f : Int} {a : ByteArray} {r : List ByteArray} (h : codeT s f = a) : shownL s f (a :: r) = shownL s (f + 1) r := if_pos h
theorem shownL_no {s f : Int} {a : ByteArray} {r : List ByteArray} (h : ¬ codeT s f = a) : shownL s f (a :: r) = false := if_neg h
theorem shown_drop {s f : Int} {l : List ByteArray} {k : Nat} {a : ByteArray} (h : l[k]? = some a) : l.drop k = a :: l.drop (k + 1) := by
  have hlt := (List.getElem?_eq_some_iff.1 h).1
  rw [List.drop_eq_getElem_cons hlt]
  congr 1
  rw [List.getElem?_eq_getElem hlt] at h
  injection h

set_option maxRecDepth 100000 in
set_option maxHeartbeats 2000000 in
theorem shown_any (w : World) (g gl : Nat) (s f : Int) (l : List ByteArray) (hR : Rounds w) (hs : w.cell? ⟨g, 0, none⟩ = some (.int .i64 s)) (hgl : gl < w.heap.size) (hl : ∀ i a, l[i]? = some a → w.cell? ⟨gl, i, none⟩ = some (.string a))
    (hf0 : 0 ≤ f) (hf1 : f ≤ 2000000) (hn : l.length ≤ 100) :
    Calls Tryd.prog 43 #[.pointer (some ⟨g, 0, none⟩), .int .i64 f, .slice (some ⟨gl, 0, none⟩) l.length l.length] w fun e w' => e = .returned (.bool (shownL s f l)) ∧ Below w.heap.size w w' := by
  have HR := Lib.hid hR; have HS := Lib.hid hs; have HL := Lib.hid hl; clear hR hs hl
  go_enter Tryd.func43, Tryd.ntmps43
  go_wp2
  go_loopw [11] (fun iv wr => ∃ k : Nat, k ≤ l.length ∧ iv = .int .i64 k ∧ shownL s f l = shownL s (f + k) (l.drop k) ∧ Below w.heap.size w wr) (fun iv _ => l.length - (intOf iv).toNat)
  case atStart => exact ⟨0, Nat.zero_le _, rfl, by simp, Below.refl _ _⟩
  case round =>
    obtain ⟨k, hk, rfl, hsh, hb⟩ := hrel
    have HSH := Lib.hid hsh; clear hsh
    have hsz := hb.size
    by_cases hlt : k < l.length
    · obtain ⟨a, ha⟩ : ∃ a, l[k]? = some a := ⟨_, List.getElem?_eq_getElem hlt⟩
      have hc := (hb.cell (p := ⟨gl, k, none⟩) hgl).trans (HL.out k a ha)
      have hs0 := (hb.cell (p := ⟨g, 0, none⟩) (World.block_lt_of_cell? _ _ HS.out)).trans HS.out
      have hdr := shown_drop (s := s) (f := f) ha
      have HDR := Lib.hid hdr; clear hdr ha
      have hrw := HR.out.below hb
      by_cases heq : codeT s (f + (k : Int)) = a
      · have hy := shownL_yes (r := l.drop (k + 1)) heq
        have HY := Lib.hid hy; clear hy
        have HE := Lib.hid heq; clear heq
        have HRW := Lib.hid hrw; clear hrw
        go_wp2_with fail
        refine (codeI_any _ s (f + (k : Int)) HRW.out).mono ?_
        rintro e w1 ⟨rfl, hb1⟩
        rw [HE.out]
        have HB1 := Lib.hid (bthen hb hb1); clear hb1
        go_wp2_with fail
        go_roundw
        case rel => exact ⟨k + 1, by omega, by go_num, by rw [HSH.out, HDR.out, HY.out]; congr 1; omega, HB1.out⟩
        case measure => simp [intOf]; omega
      · have hy := shownL_no (r := l.drop (k + 1)) heq
        have HY := Lib.hid hy; clear hy
        have hne := str_ne heq
        have HRW := Lib.hid hrw; clear hrw heq
        obtain ⟨q, hq⟩ : ∃ q, codeT s (f + (k : Int)) = q := ⟨_, rfl⟩
        rw [hq] at hne
        have HQ := Lib.hid hq; clear hq
        go_wp2_with fail
        refine (codeI_any _ s (f + (k : Int)) HRW.out).mono ?_
        rintro e w1 ⟨rfl, hb1⟩
        rw [HQ.out]
        have HB1 := Lib.hid (bthen hb hb1); clear hb1
        go_wp2_with fail
        go_ret
        exact ⟨rbool (by rw [HSH.out, HDR.out, HY.out]), HB1.out⟩
    · have hkl : k = l.length := by omega
      go_wp2
      go_ret
      refine ⟨rbool ?_, hb⟩
      rw [HSH.out, hkl, List.drop_length]; rfl

def fcnt (n reach len : Int) : Nat := (min (n + reach) 1000001 - len - n + 1).toNat
set_option maxRecDepth 100000 in
set_option maxHeartbeats 2000000 in
theorem find_any (w : World) (g gl : Nat) (s n reach : Int) (l : List ByteArray) (hR : Rounds w) (hs : w.cell? ⟨g, 0, none⟩ = some (.int .i64 s)) (hn : w.cell? ⟨g, 1, none⟩ = some (.int .i64 n)) (hgl : gl < w.heap.size) (hl : ∀ i a, l[i]? = some a → w.cell? ⟨gl, i, none⟩ = some (.string a))
    (hn0 : 0 ≤ n) (hn1 : n ≤ 1000001) (hr0 : 0 ≤ reach) (hr1 : reach ≤ 100) (hll : l.length ≤ 100) :
    Calls Tryd.prog 27 #[.pointer (some ⟨g, 0, none⟩), .int .i64 reach, .slice (some ⟨gl, 0, none⟩) l.length l.length] w fun e w' => e = .returned (.int .i64 (findN (fun m => shownL s m l) n (fcnt n reach l.length))) ∧ Below w.heap.size w w' := by
  have hg := World.block_lt_of_cell? _ _ hs
  have HR := Lib.hid hR; have HS := Lib.hid hs; have HL := Lib.hid hl; have HN := Lib.hid hn; clear hR hs hl
  generalize hP : (fun m => shownL s m l) = P
  have HP := Lib.hid hP; clear hP
  unfold fcnt
  obtain ⟨E, hE⟩ : ∃ E, min (n + reach) 1000001 = E := ⟨_, rfl⟩
  rw [hE]
  have hm1 : E ≤ 1000001 := by omega
  by_cases hmin : 1000001 < n + reach
  · have hE1 : E = 1000001 := by omega
    clear hE hm1
    subst hE1
    go_enter Tryd.func27, Tryd.ntmps27
    go_wp2
    clear hn
    go_loopw [8] (fun iv wr => ∃ f : Int, iv = .int .i64 f ∧ n ≤ f ∧ f ≤ 1000002 ∧ findN P n (1000001 - l.length - n + 1).toNat = findN P f (1000001 - l.length - f + 1).toNat ∧ Below w.heap.size w wr) (fun iv _ => (1000003 - intOf iv).toNat)
    case atStart => exact ⟨n, rfl, Int.le_refl _, by omega, rfl, Below.refl _ _⟩
    case round =>
      obtain ⟨f, rfl, hf0, hf1, hfd, hb⟩ := hrel
      have HF := Lib.hid hfd; clear hfd
      by_cases hlt : f + l.length ≤ (1000001 : Int)
      · have hstep : (1000001 - l.length - f + 1).toNat = (1000001 - l.length - (f + 1) + 1).toNat + 1 := by omega
        have hcell := fun (i : Nat) (a : ByteArray) (ha : l[i]? = some a) => (hb.cell (p := ⟨gl, i, none⟩) hgl).trans (HL.out i a ha)
        have hs0 := (hb.cell (p := ⟨g, 0, none⟩) hg).trans HS.out
        have hsz := hb.size
        have hcall := shown_any wr g gl s f l (HR.out.below hb) hs0 (by omega) hcell (by omega) (by omega) hll
        have hPf : shownL s f l = P f := by rw [← HP.out]
        rw [hPf] at hcall
        have HC := Lib.hid hcall; have HST := Lib.hid hstep; clear hcall hstep hcell hs0 hPf
        cases hp : P f
        · have hno := findN_no P f (1000001 - l.length - (f + 1) + 1).toNat hp
          have HNO := Lib.hid hno; have HPF := Lib.hid hp; clear hno hp
          go_wp2_with fail
          refine HC.out.mono ?_
          rintro e w1 ⟨rfl, hb1⟩
          rw [HPF.out]
          have HB1 := Lib.hid (bthen hb hb1); clear hb1
          go_wp2_with fail
          go_roundw
          case rel => exact ⟨f + 1, rfl, by omega, by omega, by rw [HF.out, HST.out, HNO.out], HB1.out⟩
          case measure => simp [intOf]; omega
        · have hno := findN_yes P f (1000001 - l.length - (f + 1) + 1).toNat hp
          have HNO := Lib.hid hno; have HPF := Lib.hid hp; clear hno hp
          go_wp2_with fail
          refine HC.out.mono ?_
          rintro e w1 ⟨rfl, hb1⟩
          rw [HPF.out]
          have HB1 := Lib.hid (bthen hb hb1); clear hb1
          go_wp2_with fail
          go_ret
          exact ⟨rint (by rw [HF.out, HST.out, HNO.out]), HB1.out⟩
      · have hz : (1000001 - l.length - f + 1).toNat = 0 := by omega
        have HZ := Lib.hid hz; clear hz
        go_wp2
        go_ret
        exact ⟨rint (by rw [HF.out, HZ.out]; rfl), hb⟩
  · have hE1 : E = n + reach := by omega
    clear hE
    go_enter Tryd.func27, Tryd.ntmps27
    go_wp2
    rw [← hE1]
    have HE1 := Lib.hid hE1; clear hE1
    clear hn
    go_loopw [8] (fun iv wr => ∃ f : Int, iv = .int .i64 f ∧ n ≤ f ∧ f ≤ 1000002 ∧ findN P n (E - l.length - n + 1).toNat = findN P f (E - l.length - f + 1).toNat ∧ Below w.heap.size w wr) (fun iv _ => (1000003 - intOf iv).toNat)
    case atStart => exact ⟨n, rfl, Int.le_refl _, by omega, rfl, Below.refl _ _⟩
    case round =>
      obtain ⟨f, rfl, hf0, hf1, hfd, hb⟩ := hrel
      have HF := Lib.hid hfd; clear hfd
      by_cases hlt : f + l.length ≤ E
      · have hstep : (E - l.length - f + 1).toNat = (E - l.length - (f + 1) + 1).toNat + 1 := by omega
        have hcell := fun (i : Nat) (a : ByteArray) (ha : l[i]? = some a) => (hb.cell (p := ⟨gl, i, none⟩) hgl).trans (HL.out i a ha)
        have hs0 := (hb.cell (p := ⟨g, 0, none⟩) hg).trans HS.out
        have hsz := hb.size
        have hcall := shown_any wr g gl s f l (HR.out.below hb) hs0 (by omega) hcell (by omega) (by omega) hll
        have hPf : shownL s f l = P f := by rw [← HP.out]
        rw [hPf] at hcall
        have HC := Lib.hid hcall; have HST := Lib.hid hstep; clear hcall hstep hcell hs0 hPf
        cases hp : P f
        · have hno := findN_no P f (E - l.length - (f + 1) + 1).toNat hp
          have HNO := Lib.hid hno; have HPF := Lib.hid hp; clear hno hp
          go_wp2_with fail
          refine HC.out.mono ?_
          rintro e w1 ⟨rfl, hb1⟩
          rw [HPF.out]
          have HB1 := Lib.hid (bthen hb hb1); clear hb1
          go_wp2_with fail
          go_roundw
          case rel => exact ⟨f + 1, rfl, by omega, by omega, by rw [HF.out, HST.out, HNO.out], HB1.out⟩
          case measure => simp [intOf]; omega
        · have hno := findN_yes P f (E - l.length - (f + 1) + 1).toNat hp
          have HNO := Lib.hid hno; have HPF := Lib.hid hp; clear hno hp
          go_wp2_with fail
          refine HC.out.mono ?_
          rintro e w1 ⟨rfl, hb1⟩
          rw [HPF.out]
          have HB1 := Lib.hid (bthen hb hb1); clear hb1
          go_wp2_with fail
          go_ret
          exact ⟨rint (by rw [HF.out, HST.out, HNO.out]), HB1.out⟩
      · have hz : (E - l.length - f + 1).toNat = 0 := by omega
        have HZ := Lib.hid hz; clear hz
        go_wp2
        go_ret
        exact ⟨rint (by rw [HF.out, HZ.out]; rfl), hb⟩
/-- what MatchOf answers -/
def matV (s n t p u : Int) (c : ByteArray) : Int := if lockB s n t p u = true then findN (fun m => shownL s m [c]) n (fcnt n 5 1) else -1
theorem matV_yes {s n t p u : Int} {c : ByteArray} (h : lockB s n t p u = true) : matV s n t p u c = findN (fun m => shownL s m [c]) n (fcnt n 5 1) := if_pos h
theorem matV_no {s n t p u : Int} {c : ByteArray} (h : lockB s n t p u = false) : matV s n t p u c = -1 := if_neg (by rw [h]; simp)

set_option maxRecDepth 100000 in
set_option maxHeartbeats 2000000 in
theorem matI_any (w : World) (s n t p u : Int) (c : ByteArray) (hR : Rounds w) : Calls Tryd.prog 10 #[.agg #[.int .i64 s, .int .i64 n, .int .i64 t, .int .i64 p, .int .i64 u], .string c] w fun e w' => e = .returned (.int .i64 (matV s n t p u c)) ∧ Below w.heap.size w w' := by
  have HR := Lib.hid hR; clear hR
  cases hok : lockB s n t p u
  · have HV := Lib.hid (matV_no (c := c) hok)
    go_enter Tryd.func10, Tryd.ntmps10
    go_wp2_with fail
    refine (lockI_any _ s n t p u).mono ?_
    rintro e w1 ⟨rfl, hb1⟩
    rw [hok]
    have C1 := Lib.hid (bthen (balloc _ _) hb1); clear hb1
    go_wp2_with fail
    go_ret
    exact ⟨rint HV.out.symm, C1.out⟩
  · have HV := Lib.hid (matV_yes (c := c) hok)
    have hbd := (lockB_iff.1 hok).2.1
    obtain ⟨hn0, hn1⟩ := hbd
    go_enter Tryd.func10, Tryd.ntmps10
    go_wp2_with fail
    generalize hW0 : (w.alloc _) = w0
    have b0 : Below w.heap.size w w0 := by rw [← hW0]; exact balloc _ _
    have k0 : Has w0 w.heap.size 25 #[.int .i64 s, .int .i64 n, .int .i64 t, .int .i64 p, .int .i64 u] := by rw [← hW0]; exact has_new _ _ _
    clear hW0
    refine (lockI_any _ s n t p u).mono ?_
    rintro e w1 ⟨rfl, hb1⟩
    rw [hok]
    have c1 := bthen b0 hb1
    have k1 := has_call k0 hb1
    have e0 := has_cell k1 0 rfl; have e1 := has_cell k1 1 rfl; have e2 := has_cell k1 2 rfl; have e3 := has_cell k1 3 rfl; have e4 := has_cell k1 4 rfl
    have lt := has_lt k1
    have C1 := Lib.hid c1; clear c1 k0 k1 b0 hb1
    go_wp2_with fail
    clear e0 e1 e2 e3 e4
    generalize hX : (w1.alloc (.cells #[.int .i64 s, .int .i64 n, .int .i64 t, .int .i64 p, .int .i64 u] 47)) = w2
    have b2 : Below w1.heap.size w1 w2 := by rw [← hX]; exact balloc _ _
    have k2 : Has w2 w1.heap.size 47 #[.int .i64 s, .int .i64 n, .int .i64 t, .int .i64 p, .int .i64 u] := by rw [← hX]; exact has_new _ _ _
    have z2 : w2.heap.size = w1.heap.size + 1 := by rw [← hX]; simp
    clear hX
    generalize hY : (w2.alloc _) = w3
    have b3 : Below w2.heap.size w2 w3 := by rw [← hY]; exact balloc _ _
    have k3 : Has w3 w2.heap.size 9 #[.string c] := by rw [← hY]; exact has_new _ _ _
    clear hY
    have k4 := has_call k2 b3
    have c3 := bthen (bthen C1.out b2) b3
    rw [z2] at k3
    refine (find_any w3 w1.heap.size (w1.heap.size + 1) s n 5 [c] (HR.out.below c3) (has_cell k4 0 rfl) (has_cell k4 1 rfl) (has_lt k3) (fun i a h => by
      rcases i with _ | i
      · simp at h; subst h; exact has_cell k3 0 rfl
      · simp at h) hn0 hn1 (by omega) (by omega) (by simp)).mono ?_
    rintro e w4 ⟨rfl, hb4⟩
    have C4 := Lib.hid (bthen c3 hb4); clear hb4
    go_wp2_with fail
    go_ret
    exact ⟨rint HV.out.symm, C4.out⟩
end Go.Proofs.YtjpafmkmpnibgabDoor
