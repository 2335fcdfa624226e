/- Chapter 4: the walk of the law FnExactDoActs. -/
import Derived.Test.YtaeonangkbhmgaaDoaI
import Derived.Test.YtaeonangkbhmgaaDoaS
import Derived.Test.YtaeonangkbhmgaaDorL
namespace Go.Proofs.Ytaeonangkbhmgaa
open Go.RowKit
set_option linter.unusedVariables false
theorem doaI_any (w : World) (B : Nat) (k s : Int) (l o f : Bool) (A : Option Addr) (c : Nat) (L : List Int) (hl : L.length ≤ maxLen) (hB : B ≤ w.heap.size) (hS : IL w B A L) : Calls Try.prog 15 #[.agg #[.int .i64 k, .int .i64 s, .bool l, .bool o, .bool f], .slice A L.length c] w (DoaAns (doActs ⟨k, s, l, o, f⟩ L) w) := by
  cases hok : doorB k s l o f
  · exact doaI_no1 w B k s l o f A c L hl hB hS hok
  · cases ha : actsB L
    · exact doaI_no2 w B k s l o f A c L hl hB hS hok ha
    · exact doaI_yes w B k s l o f A c L hl hB hS hok ha
theorem doaS_any (w : World) (B : Nat) (k s : Int) (l o f : Bool) (A : Option Addr) (c : Nat) (L : List Int) (hl : L.length ≤ maxLen) (hB : B ≤ w.heap.size) (hS : IL w B A L) : Calls Try.prog 16 #[.agg #[.int .i64 k, .int .i64 s, .bool l, .bool o, .bool f], .slice A L.length c] w (DoaAns (doActs ⟨k, s, l, o, f⟩ L) w) := by
  cases hok : doorB k s l o f
  · exact doaS_no1 w B k s l o f A c L hl hB hS hok
  · by_cases hbig : 200 < L.length
    · exact doaS_big w B k s l o f A c L hl hB hS hok hbig
    · exact doaS_yes w B k s l o f A c L hl hB hS hok (by omega)
theorem doActs_len (d : Dr) (l : List Int) : (doActs d l).2.length ≤ l.length := by
  unfold doActs; split
  · exact oAt_len d l l.length
  · exact Nat.zero_le _
theorem doa_open {k s : Int} {l o f : Bool} {R : List Int} {x : Dr × List Int} (hx : x = (⟨k, s, l, o, f⟩, R)) {w : World} {e : Ending} {w' : World} (h : DoaAns x w e w') :
    ∃ A' c', e = .returned (.tuple #[.agg #[.int .i64 k, .int .i64 s, .bool l, .bool o, .bool f], .slice A' R.length c']) ∧ OR w' w.heap.size 3 A' (intV R) ∧ Below w.heap.size w w' := by subst hx; exact h

end Go.Proofs.Ytaeonangkbhmgaa
