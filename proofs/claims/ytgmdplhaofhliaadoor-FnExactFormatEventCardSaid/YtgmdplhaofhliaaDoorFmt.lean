/- Chapter 1: contract of the model's FormatInt, for numbers that are not negative. -/
import Derived.Test.YtgmdplhaofhliaaDoorHexA
namespace Go.Proofs.YtgmdplhaofhliaaDoor
open Go.RowKit
set_option linter.unusedVariables false

/-- the decimal digits of n, the first one in front; none for 0 -/
def decR : Nat → Nat → List Int
  | 0, _ => []
  | f + 1, n => if n = 0 then [] else decR f (n / 10) ++ [48 + ((n % 10 : Nat) : Int)]
theorem decR_zero (f : Nat) : decR f 0 = [] := by cases f <;> rfl
theorem decR_step (f n : Nat) (h : n ≠ 0) : decR (f + 1) n = decR f (n / 10) ++ [48 + ((n % 10 : Nat) : Int)] := by rw [decR, if_neg h]
def decN (n : Nat) : List Int := if n = 0 then [48] else decR 20 n
theorem conv_one {w : World} {g c : Nat} {x : Int} (h : Has w g 5 #[.int .u8 x]) :
    (convert 63 9 (.slice (some ⟨g, 0, none⟩) 1 c)).run Tryd.prog w = .ok (.string (strOfNums [x])) w :=
  run_convert_bytes_arg w _ _ Tryd.underlying63 Tryd.underlying5 g 0 1 c [x] rfl (fun i hi => by
    have : i = 0 := by omega
    subst this
    exact has_cell h 0 rfl) _ Tryd.underlying9

theorem str_append (a b : List Int) : strOfNums a ++ strOfNums b = strOfNums (a ++ b) := by
  apply ByteArray.ext
  rw [ByteArray.data_append]
  simp [strOfNums]
theorem fig_small (x : Int) (h : x < 10) : fig x = 48 + x := by unfold fig; rw [if_pos h]

set_option maxRecDepth 100000 in
set_option maxHeartbeats 1000000 in
theorem fmt_any (w : World) (n0 : Nat) (hn : n0 ≤ 10000000000) :
    Calls Tryd.prog 22 #[.int .i64 (n0 : Int)] w fun e w' => e = .returned (.string (strOfNums (decN n0))) ∧ Below w.heap.size w w' := by
  by_cases hz : n0 = 0
  · subst hz
    have hz' : ((((0 : Nat) : Int)) == 0) = true := by simp
    go_enter Tryd.func22, Tryd.ntmps22
    go_wp2
    go_ret
    exact ⟨ret_eq rfl, Below.refl _ _⟩
  have hz' : ((n0 : Int) == 0) = false := by simp; omega
  have hne : decide ((n0 : Int) < 0) = false := by simp
  go_enter Tryd.func22, Tryd.ntmps22
  go_wp2
  clear hz' hne
  go_loopw [0, 4] (fun nv sv wr => ∃ (f m : Nat) (tail : List Int), nv = .int .i64 (m : Int) ∧ sv = .string (strOfNums tail) ∧ m ≤ n0 ∧ decR 20 n0 = decR f m ++ tail ∧ m < 10 ^ f ∧ tail.length + f ≤ 20 ∧ Below w.heap.size w wr) (fun nv _ _ => (intOf nv).toNat)
  case atStart => exact ⟨20, n0, [], rfl, rfl, Nat.le_refl _, by simp, by omega, by simp, Below.refl _ _⟩
  case round =>
    obtain ⟨f, m, tail, rfl, rfl, hm, hd, hf, htl, hb⟩ := hrel
    have HD := Lib.hid hd; clear hd
    have hsz := hb.size
    by_cases h0 : m = 0
    · have hz' : ((m : Int) != 0) = false := by simp; omega
      have h00 := Lib.hid h0; clear h0
      go_wp2
      go_ret
      have := HD.out
      rw [h00.out, decR_zero, List.nil_append] at this
      have e : decN n0 = tail := by rw [decN, if_neg hz, this]
      have hfin : Value.string (strOfNums (decN n0)) = .string (strOfNums tail) := by rw [e]
      exact ⟨ret_eq hfin.symm, hb⟩
    · have hz' : ((m : Int) != 0) = true := by simp; omega
      rcases f with _ | f
      · simp at hf; omega
      have hstep := decR_step f m h0
      have hf' : m / 10 < 10 ^ f := by rw [Nat.pow_succ] at hf; omega
      have HS := Lib.hid hstep; clear hstep
      have HF := Lib.hid hf'; clear hf' hf
      have hmod : (m : Int) % 10 = ((m % 10 : Nat) : Int) := by omega
      have hmb : m % 10 < 10 := by omega
      have hfig : fig ((m % 10 : Nat) : Int) = 48 + ((m % 10 : Nat) : Int) := fig_small _ (by omega)
      generalize hr : m % 10 = r at *
      have HR := Lib.hid hr; clear hr
      have hnn : ¬ ((r : Int) < 0) := by omega
      have HFIG := Lib.hid hfig; clear hfig
      go_wp2_with fail
      refine (figure_any wr _ (by omega) (by omega)).mono ?_
      rintro e w1 ⟨rfl, rfl⟩
      rw [HFIG.out]
      have hcv := conv_one (c := 1) (has_new w1 5 #[.int .u8 (48 + (r : Int))])
      have hlen : (strOfNums [48 + (r : Int)]).size + (strOfNums tail).size ≤ 9223372036854775807 := by rw [strOfNums_size, strOfNums_size]; simp; omega
      have hap := str_append [48 + (r : Int)] tail
      go_wp2
      go_roundw
      case rel => exact ⟨f, m / 10, [48 + (r : Int)] ++ tail, by go_num, rfl, by omega, by rw [HD.out, HS.out, List.append_assoc], HF.out, by simp; omega, hb.alloc hsz _⟩
      case measure => simp [intOf]; omega
end Go.Proofs.YtgmdplhaofhliaaDoor
