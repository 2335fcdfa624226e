/- Chapter 5: the laws' helpers: has, sameInts. -/
import Derived.Test.YtphdmpjmhocfhaaBoxO
import Derived.Deep.RegionHeld3
import Derived.Deep.DeepMust
namespace Go.Proofs.Ytphdmpjmhocfhaa
open Go.RowKit
set_option linter.unusedVariables false
def hasB (L : List Int) (k : Int) : Bool := L.any fun x => x == k
theorem hasL_miss {L : List Int} {k : Int} {i : Nat} {x : Int} (h : (L.take i).any (fun x => x == k) = false) (hx : L[i]? = some x) (hne : (x == k) = false) : (L.take (i + 1)).any (fun x => x == k) = false := by
  rw [List.take_add_one, hx]; simp only [List.any_append, h, Option.toList_some, List.any_cons, List.any_nil, hne]; rfl
theorem hasL_hit {L : List Int} {k : Int} {i : Nat} {x : Int} (hx : L[i]? = some x) (he : x = k) : hasB L k = true := by
  unfold hasB; rw [List.any_eq_true]; exact ⟨x, List.mem_of_getElem? hx, by simpa using he⟩
end Go.Proofs.Ytphdmpjmhocfhaa
