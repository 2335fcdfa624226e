/- Chapter 7: BestRide and MostRide of the model, exactly (gen_twx.py). -/
import Derived.Test.YtfimdhbcifjioaaTwV
import Derived.Deep.RegionHeld3
import Derived.Deep.DeepMust
import Derived.WalkLawsBesides
namespace Go.Proofs.Ytfimdhbcifjioaa
open Go.RowKit
set_option linter.unusedVariables false

theorem bestE_call {b r : Int} {G : List (List Int)} {S : List Sp} {least : Nat} {w w1 : World} {e : Ending} {w' : World} (h : BestE b r G S least w1 e w') (hb : Below w.heap.size w w1) : BestE b r G S least w e w' := by
  obtain ⟨A, c, f, l, g, h1, h2, h3, h4, h5, h6⟩ := h
  exact ⟨A, c, f, l, g, h1, h2, h3, or_lessV h4 hb.size, h5, bthen hb h6⟩
set_option maxRecDepth 100000 in
set_option maxHeartbeats 4000000 in
theorem mostS_any (w : World) (B : Nat) (b r : Int) (AL AS : Option Addr) (cL cS : Nat) (R : List Rw) (S : List Sp) (hB : B ≤ w.heap.size) (hR : RdIn w B AL R AS S) (hls : S.length ≤ 1048576) :
    Calls Try.prog 9 #[.agg #[.int .i64 b, .int .i64 r, .slice AL R.length cL, .slice AS S.length cS]] w (BestE b r (gOf R) S 0 w) := by
  have HB := Lib.hid (fun W (h : Below w.heap.size w W) => bestE_any w W b r AL AS cL cS R S 0 (rdIn_moreV hR hB) h (by omega))
  clear hR
  go_enter Try.func9, Try.ntmps9
  go_wp2_with fail
  generalize hX : (w.alloc (.cells #[.int .i64 b, .int .i64 r, .slice AL R.length cL, .slice AS S.length cS] 27)) = w2
  have hb : Below w.heap.size w w2 := by rw [← hX]; exact balloc _ _
  have hk : Has w2 w.heap.size 27 #[.int .i64 b, .int .i64 r, .slice AL R.length cL, .slice AS S.length cS] := by rw [← hX]; exact has_new _ _ _
  clear hX
  have hc0 := has_cell hk 0 rfl; have hc1 := has_cell hk 1 rfl; have hc2 := has_cell hk 2 rfl; have hc3 := has_cell hk 3 rfl
  skip
  refine (HB.out w2 hb).mono ?_
  rintro e w3 hans
  have hq := bestE_call hans hb
  obtain ⟨A, c, f, l, g, rfl, h2, h3, h4, h5, h6⟩ := hans
  have HQ := Lib.hid hq
  clear hq h2 h3 h4 h5 h6 hb hk hc0 hc1 hc2 hc3
  go_wp2_with fail
  go_ret3
  exact HQ.out
set_option maxRecDepth 100000 in
set_option maxHeartbeats 4000000 in
theorem bestS_any (w : World) (B : Nat) (b r : Int) (AL AS : Option Addr) (cL cS : Nat) (R : List Rw) (S : List Sp) (hB : B ≤ w.heap.size) (hR : RdIn w B AL R AS S) (hls : S.length ≤ 1048576) :
    Calls Try.prog 7 #[.agg #[.int .i64 b, .int .i64 r, .slice AL R.length cL, .slice AS S.length cS]] w (BestE b r (gOf R) S S.length w) := by
  have HB := Lib.hid (fun W (h : Below w.heap.size w W) => bestE_any w W b r AL AS cL cS R S S.length (rdIn_moreV hR hB) h (by omega))
  clear hR
  go_enter Try.func7, Try.ntmps7
  go_upto_region 1 with fail
  generalize hX : (w.alloc (.cells #[.int .i64 b, .int .i64 r, .slice AL R.length cL, .slice AS S.length cS] 27)) = w2
  have hb : Below w.heap.size w w2 := by rw [← hX]; exact balloc _ _
  have hk : Has w2 w.heap.size 27 #[.int .i64 b, .int .i64 r, .slice AL R.length cL, .slice AS S.length cS] := by rw [← hX]; exact has_new _ _ _
  clear hX
  have hc0 := has_cell hk 0 rfl; have hc1 := has_cell hk 1 rfl; have hc2 := has_cell hk 2 rfl; have hc3 := has_cell hk 3 rfl
  go_wp2_with fail
  refine (HB.out w2 hb).mono ?_
  rintro e w3 hans
  have hq := bestE_call hans hb
  obtain ⟨A, c, f, l, g, rfl, h2, h3, h4, h5, h6⟩ := hans
  have HQ := Lib.hid hq
  clear hq h2 h3 h4 h5 h6 hb hk hc0 hc1 hc2 hc3
  go_wp2_with fail
  go_ret3
  exact HQ.out
end Go.Proofs.Ytfimdhbcifjioaa
