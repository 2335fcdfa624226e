/- Chapter 1: weeks: contracts of OpenHours, AfterOpen and BeforeOpen, by the program and by the model. -/
import Derived.Test.YtfkhhefphbhppaaWeekC
namespace Go.Proofs.Ytfkhhefphbhppaa
open Go.RowKit
set_option linter.unusedVariables false

def cntB (o c : List (Int × Int)) (a : Int) : Nat → Int
  | 0 => 0
  | k + 1 => cntB o c a k + (if openB o c (a + k) = true then 1 else 0)
theorem cnt_bd (o c : List (Int × Int)) (a : Int) : ∀ k : Nat, 0 ≤ cntB o c a k ∧ cntB o c a k ≤ k
  | 0 => ⟨Int.le_refl _, Int.le_refl _⟩
  | k + 1 => by
    have := cnt_bd o c a k
    unfold cntB
    split <;> omega
theorem cnt_yes (o c : List (Int × Int)) (a : Int) (k : Nat) (h : openB o c (a + k) = true) : cntB o c a (k + 1) = cntB o c a k + 1 := by rw [cntB, if_pos h]
theorem cnt_no (o c : List (Int × Int)) (a : Int) (k : Nat) (h : openB o c (a + k) = false) : cntB o c a (k + 1) = cntB o c a k := by rw [cntB, if_neg (by rw [h]; exact Bool.false_ne_true)]; omega
def hoursB (o c : List (Int × Int)) (a b : Int) : Int := if weekB o c = true ∧ timeB a = true ∧ timeB b = true ∧ a ≤ b then cntB o c a (b - a).toNat else 0
theorem time_iff (h : Int) : timeB h = true ↔ 0 ≤ h ∧ h ≤ 20000 := by simp [timeB]

def aftB (o c : List (Int × Int)) : Nat → Int → Int → Option Int
  | 0, t, left => if left = 0 then some t else none
  | f + 1, t, left => if left = 0 then some t else aftB o c f (t + 1) (if openB o c t = true then left - 1 else left)
theorem aft_zero (o c : List (Int × Int)) (f : Nat) (t left : Int) (h : left = 0) : aftB o c f t left = some t := by
  cases f <;> simp [aftB, h]
theorem aft_end (o c : List (Int × Int)) (t left : Int) (h : left ≠ 0) : aftB o c 0 t left = none := by simp [aftB, h]
theorem aft_yes (o c : List (Int × Int)) (f : Nat) (t left : Int) (h : left ≠ 0) (hop : openB o c t = true) : aftB o c (f + 1) t left = aftB o c f (t + 1) (left - 1) := by rw [aftB, if_neg h, if_pos hop]
theorem aft_no (o c : List (Int × Int)) (f : Nat) (t left : Int) (h : left ≠ 0) (hop : openB o c t = false) : aftB o c (f + 1) t left = aftB o c f (t + 1) left := by rw [aftB, if_neg h, if_neg (by rw [hop]; exact Bool.false_ne_true)]
def afterB (o c : List (Int × Int)) (a m : Int) : Option Int := if weekB o c = true ∧ timeB a = true ∧ 0 ≤ m then aftB o c (20000 - a).toNat a m else none

def befB (o c : List (Int × Int)) : Nat → Int → Int → Int
  | 0, t, _ => t
  | f + 1, t, left => if openB o c t = true then (if left = 0 then t else befB o c f (t + 1) (left - 1)) else befB o c f (t + 1) left
theorem bef_hit (o c : List (Int × Int)) (f : Nat) (t left : Int) (h : left = 0) (hop : openB o c t = true) : befB o c (f + 1) t left = t := by rw [befB, if_pos hop, if_pos h]
theorem bef_yes (o c : List (Int × Int)) (f : Nat) (t left : Int) (h : left ≠ 0) (hop : openB o c t = true) : befB o c (f + 1) t left = befB o c f (t + 1) (left - 1) := by rw [befB, if_pos hop, if_neg h]
theorem bef_no (o c : List (Int × Int)) (f : Nat) (t left : Int) (hop : openB o c t = false) : befB o c (f + 1) t left = befB o c f (t + 1) left := by rw [befB, if_neg (by rw [hop]; exact Bool.false_ne_true)]
def beforeB (o c : List (Int × Int)) (a m : Int) : Option Int := if weekB o c = true ∧ timeB a = true ∧ 0 ≤ m then some (befB o c (20000 - a).toNat a m) else none
def pairV : Option Int → Value
  | some t => .tuple #[.int .i64 t, .bool true]
  | none => .tuple #[.int .i64 0, .bool false]
theorem ret_some {x : Option Int} {t : Int} (h : x = some t) : Ending.returned (.tuple #[.int .i64 t, .bool true]) = .returned (pairV x) := by rw [h]; rfl
theorem ret_none {x : Option Int} (h : x = none) : Ending.returned (.tuple #[.int .i64 0, .bool false]) = .returned (pairV x) := by rw [h]; rfl


set_option maxHeartbeats 1000000 in
theorem hoursI_any (w : World) (B : Nat) (A A' : Option Addr) (n n' : Nat) (o c : List (Int × Int)) (a b : Int) (ho : o.length ≤ maxLen) (hc : c.length ≤ maxLen) (hB : B ≤ w.heap.size) (hS : SL w B A o) (hS' : SL w B A' c) :
    Calls Try.prog 25 #[.agg #[.slice A o.length n, .slice A' c.length n'], .int .i64 a, .int .i64 b] w fun e w' => e = .returned (.int .i64 (hoursB o c a b)) ∧ Below w.heap.size w w' := by
  have HS := Lib.hid hS; clear hS
  have HS' := Lib.hid hS'; clear hS'
  cases hx : weekB o c
  · have Hx := Lib.hid hx; clear hx
    go_enter Try.func25, Try.ntmps25
    go_wp2_with fail
    generalize hW0 : (w.alloc (.cells #[.slice A o.length n, .slice A' c.length n'] 26)) = w0
    have b0 : Below w.heap.size w w0 := by rw [← hW0]; exact balloc _ _
    have k0 : Has w0 w.heap.size 26 #[.slice A o.length n, .slice A' c.length n'] := by rw [← hW0]; exact has_new _ _ _
    clear hW0
    have e0 := has_cell k0 0 rfl
    have e1 := has_cell k0 1 rfl
    have K0 := Lib.hid k0; clear k0
    have hz0 := has_lt K0.out
    refine (weekI_any w0 B A A' n n' o c ho hc (by omega) (HS.out.later hB b0) (HS'.out.later hB b0)).mono ?_
    rintro e w1 ⟨rfl, hb1⟩
    rw [Hx.out]
    clear e0 e1
    have hbx := bthen b0 hb1
    have k1 := has_call K0.out hb1
    have e0 := has_cell k1 0 rfl
    have e1 := has_cell k1 1 rfl
    have hz1 := hb1.size
    have K1 := Lib.hid k1; clear k1
    go_wp2_with fail
    go_ret
    exact ⟨ret_int (by simp [hoursB, Hx.out]), hbx⟩
  have Hx := Lib.hid hx; clear hx
  cases hta : timeB a
  · have Ha := Lib.hid (show timeB a = false from hta)
    have Hta := Lib.hid hta; clear hta
    go_enter Try.func25, Try.ntmps25
    go_wp2_with fail
    generalize hW0 : (w.alloc (.cells #[.slice A o.length n, .slice A' c.length n'] 26)) = w0
    have b0 : Below w.heap.size w w0 := by rw [← hW0]; exact balloc _ _
    have k0 : Has w0 w.heap.size 26 #[.slice A o.length n, .slice A' c.length n'] := by rw [← hW0]; exact has_new _ _ _
    clear hW0
    have e0 := has_cell k0 0 rfl
    have e1 := has_cell k0 1 rfl
    have K0 := Lib.hid k0; clear k0
    have hz0 := has_lt K0.out
    refine (weekI_any w0 B A A' n n' o c ho hc (by omega) (HS.out.later hB b0) (HS'.out.later hB b0)).mono ?_
    rintro e w1 ⟨rfl, hb1⟩
    rw [Hx.out]
    clear e0 e1
    have hbx := bthen b0 hb1
    have k1 := has_call K0.out hb1
    have e0 := has_cell k1 0 rfl
    have e1 := has_cell k1 1 rfl
    have hz1 := hb1.size
    have K1 := Lib.hid k1; clear k1
    go_wp2_with fail
    refine (isTime_any _ a).mono ?_
    rintro e w2 ⟨rfl, rfl⟩
    rw [Ha.out]
    go_wp2_with fail
    go_ret
    exact ⟨ret_int (by simp [hoursB, Hta.out]), hbx⟩
  have ba := (time_iff a).1 hta
  have Ha := Lib.hid (show timeB a = true from hta)
  have Hta := Lib.hid hta; clear hta
  obtain ⟨ba0, ba1⟩ := ba
  cases htb : timeB b
  · have Hb := Lib.hid (show timeB b = false from htb)
    have Htb := Lib.hid htb; clear htb
    go_enter Try.func25, Try.ntmps25
    go_wp2_with fail
    generalize hW0 : (w.alloc (.cells #[.slice A o.length n, .slice A' c.length n'] 26)) = w0
    have b0 : Below w.heap.size w w0 := by rw [← hW0]; exact balloc _ _
    have k0 : Has w0 w.heap.size 26 #[.slice A o.length n, .slice A' c.length n'] := by rw [← hW0]; exact has_new _ _ _
    clear hW0
    have e0 := has_cell k0 0 rfl
    have e1 := has_cell k0 1 rfl
    have K0 := Lib.hid k0; clear k0
    have hz0 := has_lt K0.out
    refine (weekI_any w0 B A A' n n' o c ho hc (by omega) (HS.out.later hB b0) (HS'.out.later hB b0)).mono ?_
    rintro e w1 ⟨rfl, hb1⟩
    rw [Hx.out]
    clear e0 e1
    have hbx := bthen b0 hb1
    have k1 := has_call K0.out hb1
    have e0 := has_cell k1 0 rfl
    have e1 := has_cell k1 1 rfl
    have hz1 := hb1.size
    have K1 := Lib.hid k1; clear k1
    go_wp2_with fail
    refine (isTime_any _ a).mono ?_
    rintro e w2 ⟨rfl, rfl⟩
    rw [Ha.out]
    go_wp2_with fail
    refine (isTime_any _ b).mono ?_
    rintro e w3 ⟨rfl, rfl⟩
    rw [Hb.out]
    go_wp2_with fail
    go_ret
    exact ⟨ret_int (by simp [hoursB, Htb.out]), hbx⟩
  have bb := (time_iff b).1 htb
  have Hb := Lib.hid (show timeB b = true from htb)
  have Htb := Lib.hid htb; clear htb
  obtain ⟨bb0, bb1⟩ := bb
  by_cases hab : b < a
  · go_enter Try.func25, Try.ntmps25
    go_wp2_with fail
    generalize hW0 : (w.alloc (.cells #[.slice A o.length n, .slice A' c.length n'] 26)) = w0
    have b0 : Below w.heap.size w w0 := by rw [← hW0]; exact balloc _ _
    have k0 : Has w0 w.heap.size 26 #[.slice A o.length n, .slice A' c.length n'] := by rw [← hW0]; exact has_new _ _ _
    clear hW0
    have e0 := has_cell k0 0 rfl
    have e1 := has_cell k0 1 rfl
    have K0 := Lib.hid k0; clear k0
    have hz0 := has_lt K0.out
    refine (weekI_any w0 B A A' n n' o c ho hc (by omega) (HS.out.later hB b0) (HS'.out.later hB b0)).mono ?_
    rintro e w1 ⟨rfl, hb1⟩
    rw [Hx.out]
    clear e0 e1
    have hbx := bthen b0 hb1
    have k1 := has_call K0.out hb1
    have e0 := has_cell k1 0 rfl
    have e1 := has_cell k1 1 rfl
    have hz1 := hb1.size
    have K1 := Lib.hid k1; clear k1
    go_wp2_with fail
    refine (isTime_any _ a).mono ?_
    rintro e w2 ⟨rfl, rfl⟩
    rw [Ha.out]
    go_wp2_with fail
    refine (isTime_any _ b).mono ?_
    rintro e w3 ⟨rfl, rfl⟩
    rw [Hb.out]
    go_wp2_with fail
    go_ret
    exact ⟨ret_int (by rw [hoursB, if_neg (by omega)]), hbx⟩
  go_enter Try.func25, Try.ntmps25
  go_wp2_with fail
  generalize hW0 : (w.alloc (.cells #[.slice A o.length n, .slice A' c.length n'] 26)) = w0
  have b0 : Below w.heap.size w w0 := by rw [← hW0]; exact balloc _ _
  have k0 : Has w0 w.heap.size 26 #[.slice A o.length n, .slice A' c.length n'] := by rw [← hW0]; exact has_new _ _ _
  clear hW0
  have e0 := has_cell k0 0 rfl
  have e1 := has_cell k0 1 rfl
  have K0 := Lib.hid k0; clear k0
  have hz0 := has_lt K0.out
  refine (weekI_any w0 B A A' n n' o c ho hc (by omega) (HS.out.later hB b0) (HS'.out.later hB b0)).mono ?_
  rintro e w1 ⟨rfl, hb1⟩
  rw [Hx.out]
  clear e0 e1
  have hbx := bthen b0 hb1
  have k1 := has_call K0.out hb1
  have e0 := has_cell k1 0 rfl
  have e1 := has_cell k1 1 rfl
  have hz1 := hb1.size
  have K1 := Lib.hid k1; clear k1
  go_wp2_with fail
  refine (isTime_any _ a).mono ?_
  rintro e w2 ⟨rfl, rfl⟩
  rw [Ha.out]
  go_wp2_with fail
  refine (isTime_any _ b).mono ?_
  rintro e w3 ⟨rfl, rfl⟩
  rw [Hb.out]
  go_wp2_with fail
  clear e0 e1
  go_loopw [7, 30] (fun u i wr => ∃ k : Nat, (k : Int) ≤ b - a ∧ i = .int .i64 k ∧ u = .int .i64 (cntB o c a k) ∧ Below w0.heap.size w0 wr) (fun _ i _ => (b - a - intOf i).toNat)
  case atStart => exact ⟨0, by omega, rfl, rfl, hb1⟩
  case round =>
    obtain ⟨k, hk, rfl, rfl, hb⟩ := hrel
    have hcb := cnt_bd o c a k
    obtain ⟨hc0, hc1⟩ := hcb
    have hzb := hb.size
    by_cases hlt : (k : Int) < b - a
    · have k2 := has_call K0.out hb
      have e0 := has_cell k2 0 rfl
      have e1 := has_cell k2 1 rfl
      have K2 := Lib.hid k2; clear k2
      cases hop : openB o c (a + k)
      all_goals
        have Hop := Lib.hid hop; clear hop
        go_wp2_with fail
        refine (openI_any _ B A A' n n' o c (a + k) (by omega) ho hc (by omega) (HS.out.later hB (bthen b0 hb)) (HS'.out.later hB (bthen b0 hb)) Hx.out).mono ?_
        rintro e w2 ⟨rfl, hb2⟩
        rw [Hop.out]
        go_wp2_with fail
        go_roundw
        case rel => first | exact ⟨k + 1, by omega, by go_num, by rw [cnt_no o c a k Hop.out], bthen hb hb2⟩ | exact ⟨k + 1, by omega, by go_num, by rw [cnt_yes o c a k Hop.out], bthen hb hb2⟩
        case measure => simp [intOf]; omega
    · go_wp2_with fail
      go_ret
      exact ⟨ret_int (by rw [hoursB, if_pos ⟨Hx.out, Hta.out, Htb.out, by omega⟩, show (b - a).toNat = k by omega]), bthen b0 hb⟩


set_option maxHeartbeats 1000000 in
theorem hoursS_any (w : World) (B : Nat) (A A' : Option Addr) (n n' : Nat) (o c : List (Int × Int)) (a b : Int) (ho : o.length ≤ maxLen) (hc : c.length ≤ maxLen) (hB : B ≤ w.heap.size) (hS : SL w B A o) (hS' : SL w B A' c) :
    Calls Try.prog 36 #[.agg #[.slice A o.length n, .slice A' c.length n'], .int .i64 a, .int .i64 b] w fun e w' => e = .returned (.int .i64 (hoursB o c a b)) ∧ Below w.heap.size w w' := by
  have HS := Lib.hid hS; clear hS
  have HS' := Lib.hid hS'; clear hS'
  cases hx : weekB o c
  · have Hx := Lib.hid hx; clear hx
    go_enter Try.func36, Try.ntmps36
    go_wp2_with fail
    generalize hW0 : (w.alloc (.cells #[.slice A o.length n, .slice A' c.length n'] 26)) = w0
    have b0 : Below w.heap.size w w0 := by rw [← hW0]; exact balloc _ _
    have k0 : Has w0 w.heap.size 26 #[.slice A o.length n, .slice A' c.length n'] := by rw [← hW0]; exact has_new _ _ _
    clear hW0
    have e0 := has_cell k0 0 rfl
    have e1 := has_cell k0 1 rfl
    have K0 := Lib.hid k0; clear k0
    have hz0 := has_lt K0.out
    refine (weekS_any w0 B A A' n n' o c ho hc (by omega) (HS.out.later hB b0) (HS'.out.later hB b0)).mono ?_
    rintro e w1 ⟨rfl, hb1⟩
    rw [Hx.out]
    clear e0 e1
    have hbx := bthen b0 hb1
    have k1 := has_call K0.out hb1
    have e0 := has_cell k1 0 rfl
    have e1 := has_cell k1 1 rfl
    have hz1 := hb1.size
    have K1 := Lib.hid k1; clear k1
    go_wp2_with fail
    go_ret
    exact ⟨ret_int (by simp [hoursB, Hx.out]), hbx⟩
  have Hx := Lib.hid hx; clear hx
  cases hta : timeB a
  · have Ha := Lib.hid (show inB a 0 20000 = false from hta)
    have Hta := Lib.hid hta; clear hta
    go_enter Try.func36, Try.ntmps36
    go_wp2_with fail
    generalize hW0 : (w.alloc (.cells #[.slice A o.length n, .slice A' c.length n'] 26)) = w0
    have b0 : Below w.heap.size w w0 := by rw [← hW0]; exact balloc _ _
    have k0 : Has w0 w.heap.size 26 #[.slice A o.length n, .slice A' c.length n'] := by rw [← hW0]; exact has_new _ _ _
    clear hW0
    have e0 := has_cell k0 0 rfl
    have e1 := has_cell k0 1 rfl
    have K0 := Lib.hid k0; clear k0
    have hz0 := has_lt K0.out
    refine (weekS_any w0 B A A' n n' o c ho hc (by omega) (HS.out.later hB b0) (HS'.out.later hB b0)).mono ?_
    rintro e w1 ⟨rfl, hb1⟩
    rw [Hx.out]
    clear e0 e1
    have hbx := bthen b0 hb1
    have k1 := has_call K0.out hb1
    have e0 := has_cell k1 0 rfl
    have e1 := has_cell k1 1 rfl
    have hz1 := hb1.size
    have K1 := Lib.hid k1; clear k1
    go_wp2_with fail
    refine (in_any _ a 0 20000).mono ?_
    rintro e w2 ⟨rfl, rfl⟩
    rw [Ha.out]
    go_wp2_with fail
    go_ret
    exact ⟨ret_int (by simp [hoursB, Hta.out]), hbx⟩
  have ba := (time_iff a).1 hta
  have Ha := Lib.hid (show inB a 0 20000 = true from hta)
  have Hta := Lib.hid hta; clear hta
  obtain ⟨ba0, ba1⟩ := ba
  cases htb : timeB b
  · have Hb := Lib.hid (show inB b 0 20000 = false from htb)
    have Htb := Lib.hid htb; clear htb
    go_enter Try.func36, Try.ntmps36
    go_wp2_with fail
    generalize hW0 : (w.alloc (.cells #[.slice A o.length n, .slice A' c.length n'] 26)) = w0
    have b0 : Below w.heap.size w w0 := by rw [← hW0]; exact balloc _ _
    have k0 : Has w0 w.heap.size 26 #[.slice A o.length n, .slice A' c.length n'] := by rw [← hW0]; exact has_new _ _ _
    clear hW0
    have e0 := has_cell k0 0 rfl
    have e1 := has_cell k0 1 rfl
    have K0 := Lib.hid k0; clear k0
    have hz0 := has_lt K0.out
    refine (weekS_any w0 B A A' n n' o c ho hc (by omega) (HS.out.later hB b0) (HS'.out.later hB b0)).mono ?_
    rintro e w1 ⟨rfl, hb1⟩
    rw [Hx.out]
    clear e0 e1
    have hbx := bthen b0 hb1
    have k1 := has_call K0.out hb1
    have e0 := has_cell k1 0 rfl
    have e1 := has_cell k1 1 rfl
    have hz1 := hb1.size
    have K1 := Lib.hid k1; clear k1
    go_wp2_with fail
    refine (in_any _ a 0 20000).mono ?_
    rintro e w2 ⟨rfl, rfl⟩
    rw [Ha.out]
    go_wp2_with fail
    refine (in_any _ b 0 20000).mono ?_
    rintro e w3 ⟨rfl, rfl⟩
    rw [Hb.out]
    go_wp2_with fail
    go_ret
    exact ⟨ret_int (by simp [hoursB, Htb.out]), hbx⟩
  have bb := (time_iff b).1 htb
  have Hb := Lib.hid (show inB b 0 20000 = true from htb)
  have Htb := Lib.hid htb; clear htb
  obtain ⟨bb0, bb1⟩ := bb
  go_enter Try.func36, Try.ntmps36
  go_wp2_with fail
  generalize hW0 : (w.alloc (.cells #[.slice A o.length n, .slice A' c.length n'] 26)) = w0
  have b0 : Below w.heap.size w w0 := by rw [← hW0]; exact balloc _ _
  have k0 : Has w0 w.heap.size 26 #[.slice A o.length n, .slice A' c.length n'] := by rw [← hW0]; exact has_new _ _ _
  clear hW0
  have e0 := has_cell k0 0 rfl
  have e1 := has_cell k0 1 rfl
  have K0 := Lib.hid k0; clear k0
  have hz0 := has_lt K0.out
  refine (weekS_any w0 B A A' n n' o c ho hc (by omega) (HS.out.later hB b0) (HS'.out.later hB b0)).mono ?_
  rintro e w1 ⟨rfl, hb1⟩
  rw [Hx.out]
  clear e0 e1
  have hbx := bthen b0 hb1
  have k1 := has_call K0.out hb1
  have e0 := has_cell k1 0 rfl
  have e1 := has_cell k1 1 rfl
  have hz1 := hb1.size
  have K1 := Lib.hid k1; clear k1
  go_wp2_with fail
  refine (in_any _ a 0 20000).mono ?_
  rintro e w2 ⟨rfl, rfl⟩
  rw [Ha.out]
  go_wp2_with fail
  refine (in_any _ b 0 20000).mono ?_
  rintro e w3 ⟨rfl, rfl⟩
  rw [Hb.out]
  go_wp2_with fail
  clear e0 e1
  go_loopw [7, 8] (fun u i wr => ∃ k : Nat, (k = 0 ∨ (k : Int) ≤ b - a) ∧ i = .int .i64 (a + k) ∧ u = .int .i64 (cntB o c a k) ∧ Below w0.heap.size w0 wr) (fun _ i _ => (b - intOf i).toNat)
  case atStart => exact ⟨0, .inl rfl, by simp, rfl, hb1⟩
  case round =>
    obtain ⟨k, hk, rfl, rfl, hb⟩ := hrel
    have hcb := cnt_bd o c a k
    obtain ⟨hc0, hc1⟩ := hcb
    have hzb := hb.size
    by_cases hlt : a + (k : Int) < b
    · have k2 := has_call K0.out hb
      have e0 := has_cell k2 0 rfl
      have e1 := has_cell k2 1 rfl
      have K2 := Lib.hid k2; clear k2
      cases hop : openB o c (a + k)
      all_goals
        have Hop := Lib.hid hop; clear hop
        go_wp2_with fail
        refine (openS_any _ B A A' n n' o c (a + k) (by omega) ho hc (by omega) (HS.out.later hB (bthen b0 hb)) (HS'.out.later hB (bthen b0 hb))).mono ?_
        rintro e w2 ⟨rfl, hb2⟩
        rw [Hop.out]
        go_wp2_with fail
        go_roundw
        case rel => first | exact ⟨k + 1, by omega, by rw [show a + ((k + 1 : Nat) : Int) = a + k + 1 by omega], by rw [cnt_no o c a k Hop.out], bthen hb hb2⟩ | exact ⟨k + 1, by omega, by rw [show a + ((k + 1 : Nat) : Int) = a + k + 1 by omega], by rw [cnt_yes o c a k Hop.out], bthen hb hb2⟩
        case measure => simp [intOf]; omega
    · go_wp2_with fail
      go_ret
      refine ⟨ret_int ?_, bthen b0 hb⟩
      by_cases hab : a ≤ b
      · rw [hoursB, if_pos ⟨Hx.out, Hta.out, Htb.out, hab⟩, show (b - a).toNat = k by omega]
      · rw [hoursB, if_neg (fun h => hab h.2.2.2), show k = 0 by omega]; rfl


end Go.Proofs.Ytfkhhefphbhppaa
