/- Weeks that lie in a variable: the contracts of what is asked of them, in whatever world they lie. -/
import Derived.Test.YtfkhhefphbhppaaDrawX
import Derived.Test.YtfkhhefphbhppaaWeekD
namespace Go.Proofs.Ytfkhhefphbhppaa
open Go.RowKit
set_option linter.unusedVariables false

/-- a week that is drawn -/
def WeekGiven (w : World) (e : Ending) (w' : World) : Prop :=
  ∃ (A A' : Option Addr) (n n' : Nat) (o c : List (Int × Int)), e = .returned (.agg #[.slice A o.length n, .slice A' c.length n']) ∧ weekB o c = true ∧ o.length ≤ 20 ∧ c.length ≤ 20 ∧ SL w' w'.heap.size A o ∧ SL w' w'.heap.size A' c ∧ Below w.heap.size w w'
/-- a valid week lies in block gw; its spans are as they were; what was there ahead of block H is as it was -/
structure WS (w0 : World) (gw B : Nat) (A A' : Option Addr) (n n' : Nat) (o c : List (Int × Int)) (W : World) : Prop where
  has : Has W gw 26 #[.slice A o.length n, .slice A' c.length n']
  so : SL W B A o
  sc : SL W B A' c
  bz : B ≤ W.heap.size
  below : Below w0.heap.size w0 W
section
variable {w0 W : World} {gw B n n' : Nat} {A A' : Option Addr} {o c : List (Int × Int)}
theorem WS.call (h : WS w0 gw B A A' n n' o c W) {W' : World} (hb : Below W.heap.size W W') : WS w0 gw B A A' n n' o c W' :=
  ⟨has_call h.has hb, h.so.later h.bz hb, h.sc.later h.bz hb, Nat.le_trans h.bz hb.size, h.below.trans (hb.mono h.below.size)⟩
theorem WS.drew (h : WS w0 gw B A A' n n' o c W) : WS w0 gw B A A' n n' o c W.drew := ⟨h.has, h.so, h.sc, h.bz, h.below.drew⟩
theorem WS.cells (h : WS w0 gw B A A' n n' o c W) : W.cell? ⟨gw, 0, none⟩ = some (.slice A o.length n) ∧ W.cell? ⟨gw, 1, none⟩ = some (.slice A' c.length n') := ⟨has_cell h.has 0 rfl, has_cell h.has 1 rfl⟩
theorem hours_S (a b : Int) (ho : o.length ≤ maxLen) (hc : c.length ≤ maxLen) (h : WS w0 gw B A A' n n' o c W) :
    Calls Try.prog 25 #[.agg #[.slice A o.length n, .slice A' c.length n'], .int .i64 a, .int .i64 b] W fun e w' => e = .returned (.int .i64 (hoursB o c a b)) ∧ WS w0 gw B A A' n n' o c w' :=
  (hoursI_any W B A A' n n' o c a b ho hc h.bz h.so h.sc).mono fun _ _ ⟨he, hb⟩ => ⟨he, h.call hb⟩
theorem weekOk_S (ho : o.length ≤ maxLen) (hc : c.length ≤ maxLen) (h : WS w0 gw B A A' n n' o c W) :
    Calls Try.prog 16 #[.agg #[.slice A o.length n, .slice A' c.length n']] W fun e w' => e = .returned (.bool (weekB o c)) ∧ WS w0 gw B A A' n n' o c w' :=
  (weekI_any W B A A' n n' o c ho hc h.bz h.so h.sc).mono fun _ _ ⟨he, hb⟩ => ⟨he, h.call hb⟩
end

theorem isOpen_in (o c : List (Int × Int)) (x : Int) (hw : weekB o c = true) (h0 : 0 ≤ x) (h1 : x ≤ 19999) : isOpenB o c x = openB o c x := by simp [isOpenB, hw, inB, h0, h1]
theorem hours_eq (o c : List (Int × Int)) (a b : Int) (hw : weekB o c = true) (h0 : 0 ≤ a) (h1 : a ≤ b) (h2 : b ≤ 20000) : hoursB o c a b = cntB o c a (b - a).toNat := by
  rw [hoursB, if_pos ⟨hw, by simp [timeB]; omega, by simp [timeB]; omega, h1⟩]
theorem hours_back (o c : List (Int × Int)) (a b : Int) (h : b < a) : hoursB o c a b = 0 := by rw [hoursB, if_neg (by omega)]
theorem cnt_add (o c : List (Int × Int)) (a : Int) (k : Nat) : ∀ m : Nat, cntB o c a (k + m) = cntB o c a k + cntB o c (a + k) m
  | 0 => by simp [cntB]
  | m + 1 => by
    have ih := cnt_add o c a k m
    show cntB o c a (k + m) + (if openB o c (a + ((k + m : Nat) : Int)) = true then 1 else 0) = cntB o c a k + (cntB o c (a + k) m + (if openB o c (a + k + m) = true then 1 else 0))
    rw [ih, show a + ((k + m : Nat) : Int) = a + k + m by omega]
    omega
theorem hours_add (o c : List (Int × Int)) (a b d : Int) (hw : weekB o c = true) (h0 : 0 ≤ a) (h1 : a ≤ b) (h2 : b ≤ d) (h3 : d ≤ 20000) : hoursB o c a d = hoursB o c a b + hoursB o c b d := by
  rw [hours_eq o c a d hw h0 (by omega) h3, hours_eq o c a b hw h0 h1 (by omega), hours_eq o c b d hw (by omega) h2 h3, show (d - a).toNat = (b - a).toNat + (d - b).toNat by omega, cnt_add, show a + (((b - a).toNat : Nat) : Int) = b by omega]
end Go.Proofs.Ytfkhhefphbhppaa
