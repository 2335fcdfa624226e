/- Chapter 1: contracts of the two EncodeHex. -/
import Derived.Test.YtlajniepjnhfcaaDoorMem
import Derived.WalkSpells
import Derived.OwnWalk
import Derived.Laws.BytesArg
import Derived.Deep.RegionHeld3
import Derived.Deep.AppendLies
import Derived.Laws.BitsAllLaws
namespace Go.Proofs.YtlajniepjnhfcaaDoor
open Go.RowKit
set_option linter.unusedVariables false

theorem ret_u8 {a b : Int} (h : a = b) : Ending.returned (.int .u8 a) = .returned (.int .u8 b) := by rw [h]
def fig (x : Int) : Int := if x < 10 then 48 + x else 87 + x
theorem fig_bd (x : Int) (h0 : 0 ≤ x) (h1 : x < 16) : 0 ≤ fig x ∧ fig x ≤ 255 := by unfold fig; split <;> omega
def two (c : UInt8) : List Int := [fig ((c.toNat : Int) / 16), fig ((c.toNat : Int) % 16)]
def hexL (l : List UInt8) : List Int := l.flatMap two
theorem hexL_len (l : List UInt8) : (hexL l).length = 2 * l.length := by
  induction l with
  | nil => rfl
  | cons a r ih => simp [hexL, two] at ih ⊢; omega
def vals (l : List Int) : List Value := l.map (Value.int .u8)
theorem u8Info : (Tryd.prog.info? 5).map (fun i => (i.zero, i.size, i.bytes)) = some (some (.int .u8 0), 1, 1) := by kernel_rfl

/-- a row of the call's own, turned into a string -/
theorem conv_own {w : World} {base : Nat} {v : Value} {n : Nat} {l : List Int} (h : w.ownsRow base 5 1 v n (vals l)) :
    (convert 22 9 v).run Tryd.prog w = .ok (.string (strOfNums l)) w := by
  have hl : l.length = n := by have := h.1; simpa [vals] using this
  rcases Nat.eq_zero_or_pos n with h0 | h0
  · subst h0
    have hnil : l = [] := List.eq_nil_of_length_eq_zero hl
    subst hnil
    rcases h.2 with ⟨rfl, _⟩ | ⟨g, cap, cur, rfl, _⟩
    · exact run_convert_bytes_nil w _ _ Tryd.underlying22 Tryd.underlying5 0 0 _ Tryd.underlying9
    · exact run_convert_bytes_arg w _ _ Tryd.underlying22 Tryd.underlying5 g 0 0 cap [] rfl (fun i hi => absurd hi (by omega)) _ Tryd.underlying9
  · obtain ⟨g, cap, rfl, _, _⟩ := h.form h0
    refine run_convert_bytes_arg w _ _ Tryd.underlying22 Tryd.underlying5 g 0 n cap l hl (fun i hi => ?_) _ Tryd.underlying9
    rw [Nat.zero_add, h.cellAt i (by omega)]
    simp [vals, List.getElem?_eq_getElem (show i < l.length by omega)]
def encV (s : ByteArray) : Value := if s.size ≤ 20000 then .tuple #[.string (strOfNums (hexL s.data.toList)), .bool true] else .tuple #[.string ⟨#[]⟩, .bool false]
theorem enc_big (s : ByteArray) (h : 20000 < s.size) : encV s = .tuple #[.string ⟨#[]⟩, .bool false] := if_neg (by omega)
theorem enc_small (s : ByteArray) (h : ¬ 20000 < s.size) : encV s = .tuple #[.string (strOfNums (hexL s.data.toList)), .bool true] := if_pos (by omega)
theorem ret_eq {a b : Value} (h : a = b) : Ending.returned a = .returned b := by rw [h]
theorem byteAt_lt (u : UInt8) : 0 ≤ (u.toNat : Int) ∧ (u.toNat : Int) < 256 := ⟨by omega, by have := u.toNat_lt; omega⟩
theorem take_hex (l : List UInt8) (k : Nat) (h : k < l.length) : hexL (l.take (k + 1)) = hexL (l.take k) ++ two l[k] := by
  rw [List.take_add_one, List.getElem?_eq_getElem h]; unfold hexL; rw [List.flatMap_append]; simp

theorem hex_step {s : ByteArray} {k : Nat} {u : UInt8} (hk : k < s.size) (hu : s[k] = u) {w : World} {base : Nat} {v : Value}
    (h : w.ownsRow base 5 1 v (2 * k + 2) (vals (hexL (s.data.toList.take k)) ++ [.int .u8 (fig ((u.toNat : Int) / 16)), .int .u8 (fig ((u.toNat : Int) % 16))])) :
    w.ownsRow base 5 1 v (2 * (k + 1)) (vals (hexL (s.data.toList.take (k + 1)))) := by
  have hl : k < s.data.toList.length := by simpa using hk
  have hg : s.data.toList[k] = u := by rw [← hu]; simp; rfl
  rw [take_hex _ _ hl, hg, show 2 * (k + 1) = 2 * k + 2 by omega]
  simpa [vals, two] using h
theorem own_below {w wr w1 : World} {v : Value} {e : TypeId} {size n : Nat} {xs : List Value} {o : Obj} (hb : Below w.heap.size w wr) (hown : wr.ownsRow w.heap.size e size v n xs) (hg : (wr.alloc o).drew.grownBy w1 v.ownBlock) : Below w.heap.size w w1 :=
  (((hb.alloc hb.size o).drew).grown hg (Nat.le_trans hb.size (balloc wr o).size) (fun k hk => (hown.lt k hk).1))

end Go.Proofs.YtlajniepjnhfcaaDoor
