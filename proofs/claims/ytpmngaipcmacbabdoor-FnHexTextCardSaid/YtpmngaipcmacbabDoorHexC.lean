/- Chapter 1: contracts of the value of a hexadecimal digit. -/
import Derived.Test.YtpmngaipcmacbabDoorHexA
import Derived.Laws.RangeString
import Derived.Laws.RangeAny
namespace Go.Proofs.YtpmngaipcmacbabDoor
open Go.RowKit
set_option linter.unusedVariables false
theorem ret_i {a b : Int} (h : a = b) : Ending.returned (.int .i64 a) = .returned (.int .i64 b) := by rw [h]
def hv (x : Int) : Int := if x < 48 then -1 else if x ≤ 57 then x - 48 else if x < 97 then -1 else if x ≤ 102 then x - 87 else -1
theorem hv_bd (x : Int) : -1 ≤ hv x ∧ hv x ≤ 15 := by unfold hv; repeat (first | omega | split)

theorem digit_at (m : Nat) (hp : m < ({ data := #[48, 49, 50, 51, 52, 53, 54, 55, 56, 57, 97, 98, 99, 100, 101, 102] } : ByteArray).size) : (({ data := #[48, 49, 50, 51, 52, 53, 54, 55, 56, 57, 97, 98, 99, 100, 101, 102] } : ByteArray)[m]'hp).toNat < 128 ∧ hv ((({ data := #[48, 49, 50, 51, 52, 53, 54, 55, 56, 57, 97, 98, 99, 100, 101, 102] } : ByteArray)[m]'hp).toNat : Int) = m := by
  have hm : m < 16 := hp
  rcases m with _ | _ | _ | _ | _ | _ | _ | _ | _ | _ | _ | _ | _ | _ | _ | _ | m
  all_goals first | exact ⟨Nat.le_of_ble_eq_true rfl, rfl⟩ | omega
def NoneOf (x : Int) (pos : Nat) : Prop := ∀ m, m < pos → ∀ hp : m < ({ data := #[48, 49, 50, 51, 52, 53, 54, 55, 56, 57, 97, 98, 99, 100, 101, 102] } : ByteArray).size, ((({ data := #[48, 49, 50, 51, 52, 53, 54, 55, 56, 57, 97, 98, 99, 100, 101, 102] } : ByteArray)[m]'hp).toNat : Int) ≠ x
theorem none_end (x : Int) (h : NoneOf x 16) : hv x = -1 := by
  have g : ∀ m (hm : m < 16), ((({ data := #[48, 49, 50, 51, 52, 53, 54, 55, 56, 57, 97, 98, 99, 100, 101, 102] } : ByteArray)[m]'hm).toNat : Int) ≠ x := fun m hm => h m hm hm
  have e0 : ¬ (48 : Int) = x := g 0 (by decide)
  have e1 : ¬ (49 : Int) = x := g 1 (by decide)
  have e2 : ¬ (50 : Int) = x := g 2 (by decide)
  have e3 : ¬ (51 : Int) = x := g 3 (by decide)
  have e4 : ¬ (52 : Int) = x := g 4 (by decide)
  have e5 : ¬ (53 : Int) = x := g 5 (by decide)
  have e6 : ¬ (54 : Int) = x := g 6 (by decide)
  have e7 : ¬ (55 : Int) = x := g 7 (by decide)
  have e8 : ¬ (56 : Int) = x := g 8 (by decide)
  have e9 : ¬ (57 : Int) = x := g 9 (by decide)
  have f0 : ¬ (97 : Int) = x := g 10 (by decide)
  have f1 : ¬ (98 : Int) = x := g 11 (by decide)
  have f2 : ¬ (99 : Int) = x := g 12 (by decide)
  have f3 : ¬ (100 : Int) = x := g 13 (by decide)
  have f4 : ¬ (101 : Int) = x := g 14 (by decide)
  have f5 : ¬ (102 : Int) = x := g 15 (by decide)
  unfold hv
  repeat (first | omega | split)

set_option maxRecDepth 100000 in
set_option maxHeartbeats 1000000 in
theorem hexValue_any (w : World) (x : Int) (h0 : 0 ≤ x) (h1 : x < 256) :
    Calls Tryd.prog 23 #[.int .u8 x] w fun e w' => e = .returned (.int .i64 (hv x)) ∧ Below w.heap.size w w' := by
  go_enter Tryd.func23, Tryd.ntmps23
  go_wp2
  go_loopw [3] (fun _ wr => ∃ pos : Nat, pos ≤ 16 ∧ wr = w.iter ({ data := #[48, 49, 50, 51, 52, 53, 54, 55, 56, 57, 97, 98, 99, 100, 101, 102] } : ByteArray) pos ∧ NoneOf x pos) (fun _ wr => 16 - wr.iterPos w.heap.size)
  case atStart => exact ⟨0, by omega, rfl, fun m hm => absurd hm (by omega)⟩
  case round =>
    obtain ⟨pos, hpos, rfl, hno⟩ := hrel
    have Hno := Lib.hid hno; clear hno
    by_cases hp : pos < ({ data := #[48, 49, 50, 51, 52, 53, 54, 55, 56, 57, 97, 98, 99, 100, 101, 102] } : ByteArray).size
    · have hlt : pos < 16 := hp
      have hdig := digit_at pos hp
      obtain ⟨y, hy⟩ : ∃ y, (({ data := #[48, 49, 50, 51, 52, 53, 54, 55, 56, 57, 97, 98, 99, 100, 101, 102] } : ByteArray)[pos]'hp) = y := ⟨_, rfl⟩
      rw [hy] at hdig
      have hnx : ∀ ty, (Instr.next (.pointer (some ⟨w.heap.size, 0, none⟩)) true ty).run Tryd.prog (w.iter ({ data := #[48, 49, 50, 51, 52, 53, 54, 55, 56, 57, 97, 98, 99, 100, 101, 102] } : ByteArray) pos) = .ok (.tuple #[.bool true, .int .i64 pos, .int .i32 y.toNat]) (w.iter ({ data := #[48, 49, 50, 51, 52, 53, 54, 55, 56, 57, 97, 98, 99, 100, 101, 102] } : ByteArray) (pos + 1)) := fun ty => by
        have := run_next_ascii (P := Tryd.prog) w ({ data := #[48, 49, 50, 51, 52, 53, 54, 55, 56, 57, 97, 98, 99, 100, 101, 102] } : ByteArray) pos ty hp (by rw [hy]; exact hdig.1)
        rw [hy] at this
        exact this
      have Hy := Lib.hid hy; clear hy
      obtain ⟨hd1, hd2⟩ := hdig
      have Hd2 := Lib.hid hd2; clear hd2
      by_cases he : (y.toNat : Int) = x
      · have heb : ((y.toNat : Int) == x) = true := by simp [he]
        go_wp2
        go_ret
        exact ⟨ret_i (by rw [← he, Hd2.out]), balloc _ _⟩
      · have heb : ((y.toNat : Int) == x) = false := by simp [he]
        go_wp2
        go_roundw
        case rel => 
          refine ⟨pos + 1, by omega, rfl, fun m hm hp => ?_⟩
          rcases Nat.lt_or_ge m pos with hm' | hm'
          · exact Hno.out m hm' hp
          · have : m = pos := by omega
            subst this
            rw [Hy.out]
            exact he
        case measure => simp; omega
    · have h16 : ¬ pos < 16 := hp
      have hnx : ∀ ty, (Instr.next (.pointer (some ⟨w.heap.size, 0, none⟩)) true ty).run Tryd.prog (w.iter ({ data := #[48, 49, 50, 51, 52, 53, 54, 55, 56, 57, 97, 98, 99, 100, 101, 102] } : ByteArray) pos) = _ := fun ty => run_next_end w ({ data := #[48, 49, 50, 51, 52, 53, 54, 55, 56, 57, 97, 98, 99, 100, 101, 102] } : ByteArray) pos ty hp
      go_wp2
      go_ret
      have : pos = 16 := by omega
      subst this
      exact ⟨ret_i (none_end x Hno.out).symm, balloc _ _⟩
end Go.Proofs.YtpmngaipcmacbabDoor
