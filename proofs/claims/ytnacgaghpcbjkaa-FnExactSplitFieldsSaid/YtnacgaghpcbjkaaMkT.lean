/- Chapter 1: laws.markText, exactly. -/
import Derived.Test.YtnacgaghpcbjkaaBoxH
import Derived.ChangeMaps
namespace Go.Proofs.Ytnacgaghpcbjkaa
open Go.RowKit
set_option linter.unusedVariables false

def decM : Nat → Nat → List Int
  | 0, _ => []
  | f + 1, n => if n = 0 then [] else decM f (n / 10) ++ [48 + ((n % 10 : Nat) : Int)]
theorem decM_zero (f : Nat) : decM f 0 = [] := by cases f <;> rfl
theorem decM_step (f n : Nat) (h : n ≠ 0) : decM (f + 1) n = decM f (n / 10) ++ [48 + ((n % 10 : Nat) : Int)] := by rw [decM, if_neg h]
theorem conv_oneM {w : World} {g c : Nat} {x : Int} (h : Has w g 5 #[.int .u8 x]) :
    (convert 30 9 (.slice (some ⟨g, 0, none⟩) 1 c)).run Try.prog w = .ok (.string (strOfNums [x])) w :=
  run_convert_bytes_arg w _ _ Try.underlying30 Try.underlying5 g 0 1 c [x] rfl (fun i hi => by
    have : i = 0 := by omega
    subst this
    exact has_cell h 0 rfl) _ Try.underlying9
theorem str_appM (a b : List Int) : strOfNums a ++ strOfNums b = strOfNums (a ++ b) := by
  apply ByteArray.ext
  rw [ByteArray.data_append]
  simp [strOfNums]
def mkT (k : Nat) : ByteArray := strOfNums (109 :: decM 20 k)
set_option maxRecDepth 100000 in
set_option maxHeartbeats 2000000 in
theorem markText_any (w : World) (n0 : Nat) (h0 : 1 ≤ n0) (h1 : n0 ≤ 10000000000) :
    Calls Try.prog 10 #[.int .i64 (n0 : Int)] w fun e w' => e = .returned (.string (mkT n0)) ∧ Below w.heap.size w w' := by
  have t0 : decide ((n0 : Int) ≤ 0) = false := by simpa using (show ¬ (n0 : Int) ≤ 0 by omega)
  go_enter Try.func10, Try.ntmps10
  go_wp2
  clear t0
  go_loopw [0, 3] (fun nv sv wr => ∃ (f m : Nat) (tail : List Int), nv = .int .i64 (m : Int) ∧ sv = .string (strOfNums tail) ∧ m ≤ n0 ∧ decM 20 n0 = decM f m ++ tail ∧ m < 10 ^ f ∧ tail.length + f ≤ 20 ∧ Below w.heap.size w wr) (fun nv _ _ => (intOf nv).toNat)
  case atStart => exact ⟨20, n0, [], rfl, rfl, Nat.le_refl _, by simp, by omega, by simp, Below.refl _ _⟩
  case round =>
    obtain ⟨f, m, tail, rfl, rfl, hm, hd, hf, htl, hb⟩ := hrel
    have HD := Lib.hid hd; clear hd
    have hsz := hb.size
    by_cases h0 : m = 0
    · have h00 := Lib.hid h0
      have hz' : ¬ (0 < m) := by omega
      clear h0
      have hlen : ByteArray.size ⟨#[109]⟩ + (strOfNums tail).size ≤ 9223372036854775807 := by rw [strOfNums_size]; show 1 + tail.length ≤ _; omega
      have e : mkT n0 = ⟨#[109]⟩ ++ strOfNums tail := by
        have := HD.out
        rw [h00.out, decM_zero, List.nil_append] at this
        unfold mkT; rw [this]; exact (str_appM [109] tail).symm
      have HE := Lib.hid e; clear e
      go_wp2
      go_ret
      exact ⟨ret_eq (show Value.string (⟨#[109]⟩ ++ strOfNums tail) = .string (mkT n0) by rw [HE.out]), hb⟩
    · have hz' : 0 < m := by omega
      rcases f with _ | f
      · simp at hf; omega
      have hstep := decM_step f m h0
      have hf' : m / 10 < 10 ^ f := by rw [Nat.pow_succ] at hf; omega
      have HS := Lib.hid hstep; clear hstep
      have HF := Lib.hid hf'; clear hf' hf
      have hmod : (m : Int) % 10 = ((m % 10 : Nat) : Int) := by omega
      have hmb : m % 10 < 10 := by omega
      generalize hr : m % 10 = r at *
      have HR := Lib.hid hr; clear hr
      have hcv := conv_oneM (c := 1) (has_new wr 5 #[.int .u8 (48 + (r : Int))])
      have hlen : (strOfNums [48 + (r : Int)]).size + (strOfNums tail).size ≤ 9223372036854775807 := by rw [strOfNums_size, strOfNums_size]; simp; omega
      have hap := str_appM [48 + (r : Int)] tail
      go_wp2
      go_roundw
      case rel => exact ⟨f, m / 10, [48 + (r : Int)] ++ tail, by go_num, rfl, by omega, by rw [HD.out, HS.out, List.append_assoc], HF.out, by simp; omega, hb.alloc hsz _⟩
      case measure => simp [intOf]; omega
end Go.Proofs.Ytnacgaghpcbjkaa
