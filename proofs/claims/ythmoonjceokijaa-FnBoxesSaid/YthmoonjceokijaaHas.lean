/- Chapter 5: the laws' helpers: has, sameInts. -/
import Derived.Test.YthmoonjceokijaaBoxO
import Derived.Deep.RegionHeld3
import Derived.Deep.DeepMust
namespace Go.Proofs.Ythmoonjceokijaa
open Go.RowKit
set_option linter.unusedVariables false
def hasB (L : List Int) (k : Int) : Bool := L.any fun x => x == k
theorem hasL_miss {L : List Int} {k : Int} {i : Nat} {x : Int} (h : (L.take i).any (fun x => x == k) = false) (hx : L[i]? = some x) (hne : (x == k) = false) : (L.take (i + 1)).any (fun x => x == k) = false := by
  rw [List.take_add_one, hx]; simp only [List.any_append, h, Option.toList_some, List.any_cons, List.any_nil, hne]; rfl
theorem hasL_hit {L : List Int} {k : Int} {i : Nat} {x : Int} (hx : L[i]? = some x) (he : x = k) : hasB L k = true := by
  unfold hasB; rw [List.any_eq_true]; exact ⟨x, List.mem_of_getElem? hx, by simpa using he⟩
set_option maxRecDepth 100000 in
set_option maxHeartbeats 2000000 in
theorem sameL_any (w : World) (B : Nat) (A A' : Option Addr) (c c' : Nat) (L : List Int) (hl : L.length ≤ 1048576) (hB : B ≤ w.heap.size) (hS : IL w B A L) (hS' : IL w B A' L) :
    Calls Try.prog 34 #[.slice A L.length c, .slice A' L.length c'] w fun e w' => e = .returned (.bool true) ∧ Below w.heap.size w w' := by
  have HS := Lib.hid hS; have HS' := Lib.hid hS'; clear hS hS'
  go_enter Try.func34, Try.ntmps34
  go_wp2
  go_loopw [5] (fun i wr => ∃ (n : Nat), n ≤ L.length ∧ i = .int .i64 n ∧ Below w.heap.size w wr) (fun i _ => L.length - (intOf i).toNat)
  case atStart => exact ⟨0, Nat.zero_le _, rfl, Below.refl _ _⟩
  case round =>
    obtain ⟨n, hn, rfl, hb⟩ := hrel
    have hsz := hb.size
    by_cases hlt : n < L.length
    · obtain ⟨b, off, x, rfl, hbB, hx, hc⟩ := (HS.out.later hB hb).at_ hlt
      obtain ⟨b', off', x', rfl, hbB', hx', hc'⟩ := (HS'.out.later hB hb).at_ hlt
      rw [hx] at hx'; injection hx' with hx'; subst hx'; clear hx
      go_wp2_with go_region
      go_roundw
      case rel => exact ⟨n + 1, by omega, by go_num, hb.drew⟩
      case measure => simp [intOf]; omega
    · have hnl : n = L.length := by omega
      subst hnl
      go_wp2_with fail
      go_ret
      exact ⟨rfl, hb⟩
end Go.Proofs.Ythmoonjceokijaa
