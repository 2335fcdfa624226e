/- Chapter 3: contracts of Press, both sides, and the law's walk. -/
import Derived.Test.YtjpafmkmpnibgabDoorCodI
import Derived.Test.YtjpafmkmpnibgabDoorLckD
import Derived.Deep.RegionHeld3
namespace Go.Proofs.YtjpafmkmpnibgabDoor
open Go.RowKit
set_option linter.unusedVariables false

theorem ccallP {W W' : World} {q : Addr} {v : Value} (h : W.cell? q = some v) (hb : Below W.heap.size W W') : W'.cell? q = some v := by
  have hlt : q.block < W.heap.size := by
    rcases Nat.lt_or_ge q.block W.heap.size with hlt | hge
    · exact hlt
    · unfold World.cell? at h
      rw [Array.getElem?_eq_none hge] at h
      simp at h
  exact (hb.cell hlt).trans h
/-- what Press answers -/
def prsV (s c : Int) : Value := if padB s c = true ∧ c ≤ 1000000 then .tuple #[.agg #[.int .i64 s, .int .i64 (c + 1)], .string (codeT s c), .bool true] else .tuple #[.agg #[.int .i64 s, .int .i64 c], .string ⟨#[]⟩, .bool false]
theorem prsV_yes {s c : Int} (h : padB s c = true) (h' : c ≤ 1000000) : prsV s c = .tuple #[.agg #[.int .i64 s, .int .i64 (c + 1)], .string (codeT s c), .bool true] := if_pos ⟨h, h'⟩
theorem prsV_no {s c : Int} (h : ¬ (padB s c = true ∧ c ≤ 1000000)) : prsV s c = .tuple #[.agg #[.int .i64 s, .int .i64 c], .string ⟨#[]⟩, .bool false] := if_neg h
theorem keepP {W W' : World} {g : Nat} {a b : Value} (k : W.cell? ⟨g, 0, none⟩ = some a ∧ W.cell? ⟨g, 1, none⟩ = some b) (hb : Below W.heap.size W W') : W'.cell? ⟨g, 0, none⟩ = some a ∧ W'.cell? ⟨g, 1, none⟩ = some b :=
  ⟨ccallP k.1 hb, ccallP k.2 hb⟩
theorem keepQ {W : World} {g : Nat} {a b u v : Value} (k : W.cell? ⟨g, 0, none⟩ = some a ∧ W.cell? ⟨g, 1, none⟩ = some b) : ((W.setCell ⟨g + 1, 0, none⟩ u).setCell ⟨g + 1, 1, none⟩ v).cell? ⟨g, 0, none⟩ = some a ∧ ((W.setCell ⟨g + 1, 0, none⟩ u).setCell ⟨g + 1, 1, none⟩ v).cell? ⟨g, 1, none⟩ = some b := by
  have h : ∀ i, ((W.setCell ⟨g + 1, 0, none⟩ u).setCell ⟨g + 1, 1, none⟩ v).cell? ⟨g, i, none⟩ = W.cell? ⟨g, i, none⟩ := fun i =>
    World.cell?_of_block ((Below.heap_setCell _ _ _ g (by show g ≠ g + 1; omega)).trans (Below.heap_setCell _ _ _ g (by show g ≠ g + 1; omega)))
  exact ⟨(h 0).trans k.1, (h 1).trans k.2⟩
theorem pset {w W : World} (u v : Value) (hb : Below w.heap.size w W) : Below w.heap.size w ((W.setCell ⟨w.heap.size + 1, 0, none⟩ u).setCell ⟨w.heap.size + 1, 1, none⟩ v) := (hb.setCell (Nat.le_succ _) _).setCell (Nat.le_succ _) _

set_option maxRecDepth 100000 in
set_option maxHeartbeats 2000000 in
theorem prsI_any (w : World) (s c : Int) (hR : Rounds w) : Calls Tryd.prog 18 #[.agg #[.int .i64 s, .int .i64 c]] w fun e w' => e = .returned (prsV s c) ∧ Below w.heap.size w w' := by
  have HR := Lib.hid hR; clear hR
  cases hok : padB s c
  · have HV := Lib.hid (prsV_no (s := s) (c := c) fun h => by rw [hok] at h; cases h.1)
    go_enter Tryd.func18, Tryd.ntmps18
    go_wp2_with fail
    generalize hW0 : ((w.alloc _).alloc _) = w0
    have b0 : Below w.heap.size w w0 := by rw [← hW0]; exact bthen (balloc _ _) (balloc _ _)
    have k0 : Has w0 w.heap.size 36 #[.int .i64 s, .int .i64 c] := by rw [← hW0]; exact has_alloc (has_new _ _ _) _
    have k1 : Has w0 (w.heap.size + 1) 36 #[.int .i64 0, .int .i64 0] := by rw [← hW0]; have := has_new (w.alloc (.cells #[.int .i64 s, .int .i64 c] 36)) 36 #[.int .i64 0, .int .i64 0]; simpa using this
    clear hW0
    refine (padI_any _ s c).mono ?_
    rintro e w1 ⟨rfl, hb1⟩
    rw [hok]
    have m0 := has_call k0 hb1; have m1 := has_call k1 hb1
    have C1 := Lib.hid (bthen b0 hb1); clear hb1 b0 k0 k1
    have e0 := has_cell m0 0 rfl; have e1 := has_cell m0 1 rfl; have r0 := has_cell m1 0 rfl; have r1 := has_cell m1 1 rfl
    have f0 := has_free m1 0; have f1 := has_free m1 1
    have lt := has_lt m0; have lt1 := has_lt m1
    have X1 := Lib.hid (has_set (has_set m1 0 (.int .i64 s)) 1 (.int .i64 c)); have M1 := Lib.hid m1
    clear m0 m1
    go_wp2_with fail
    have g0 := has_cell X1.out 0 rfl; have g1 := has_cell X1.out 1 rfl
    refine bodyPost_ret (v := .tuple #[.agg #[.int .i64 s, .int .i64 c], .string ⟨#[]⟩, .bool false]) (by simp [results, Tryd.results18, go_sem, g0, g1]) rfl ⟨retv HV.out.symm, pset _ _ C1.out⟩
  have hb := (padB_iff.1 hok).2
  obtain ⟨hb0, hb1⟩ := hb
  by_cases hle : c ≤ 1000000
  · have HV := Lib.hid (prsV_yes hok hle)
    have hcn : cntB3 c = true := cntB3_iff.2 ⟨hb0, hle⟩
    go_enter Tryd.func18, Tryd.ntmps18
    go_wp2_with fail
    generalize hW0 : ((w.alloc _).alloc _) = w0
    have b0 : Below w.heap.size w w0 := by rw [← hW0]; exact bthen (balloc _ _) (balloc _ _)
    have k0 : Has w0 w.heap.size 36 #[.int .i64 s, .int .i64 c] := by rw [← hW0]; exact has_alloc (has_new _ _ _) _
    have k1 : Has w0 (w.heap.size + 1) 36 #[.int .i64 0, .int .i64 0] := by rw [← hW0]; have := has_new (w.alloc (.cells #[.int .i64 s, .int .i64 c] 36)) 36 #[.int .i64 0, .int .i64 0]; simpa using this
    clear hW0
    refine (padI_any _ s c).mono ?_
    rintro e w1 ⟨rfl, hb1⟩
    rw [hok]
    have m0 := has_call k0 hb1; have m1 := has_call k1 hb1
    have C1 := Lib.hid (bthen b0 hb1); clear hb1 b0 k0 k1
    have e0 := has_cell m0 0 rfl; have e1 := has_cell m0 1 rfl; have r0 := has_cell m1 0 rfl; have r1 := has_cell m1 1 rfl
    have f0 := has_free m1 0; have f1 := has_free m1 1
    have lt := has_lt m0; have lt1 := has_lt m1
    have X1 := Lib.hid (has_set (has_set m1 0 (.int .i64 s)) 1 (.int .i64 c)); have M1 := Lib.hid m1
    clear m0 m1
    go_wp2_with (first | (refine (countI_any _ _).mono ?_; rintro e w' ⟨rfl, hw⟩; rw [hw, hcn]; clear hw))
    have S0 : (fun W : World => W.cell? ⟨w.heap.size, 0, none⟩ = some (.int .i64 s) ∧ W.cell? ⟨w.heap.size, 1, none⟩ = some (.int .i64 c)) w1.drew := ⟨e0, e1⟩
    have hwrap : IntKind.i64.wrap (c + 1) = c + 1 := IntWalk.i64_in _ (by omega)
    clear e0 e1 r0 r1 f0 f1
    go_region_held3 (fun W : World => W.cell? ⟨w.heap.size, 0, none⟩ = some (.int .i64 s) ∧ W.cell? ⟨w.heap.size, 1, none⟩ = some (.int .i64 c)) (first | assumption | exact keepQ (by assumption)) (first
      | (go_at_call 15; refine (codeI_any _ s c ((HR.out.below C1.out).below (Below.refl _ _).drew)).mono ?_; rintro e w2 ⟨rfl, hb2⟩; have S2 := keepP S0 hb2; have d2 := bthen (Below.refl w1.heap.size w1).drew hb2; have m2 := has_call M1.out d2; have r0 := has_cell m2 0 rfl; have r1 := has_cell m2 1 rfl; have f0 := has_free m2 0; have f1 := has_free m2 1; have lt2 := has_lt m2))
    all_goals
      have X2 := has_set (has_set m2 0 (.int .i64 s)) 1 (.int .i64 (c + 1))
      go_wp2_with fail
      have g0 := has_cell X2 0 rfl; have g1 := has_cell X2 1 rfl
      refine bodyPost_ret (v := .tuple #[.agg #[.int .i64 s, .int .i64 (c + 1)], .string (codeT s c), .bool true]) (by simp [results, Tryd.results18, go_sem, g0, g1]) rfl ⟨retv HV.out.symm, pset _ _ (bthen C1.out d2)⟩
  · have HV := Lib.hid (prsV_no (s := s) (c := c) fun h => hle h.2)
    have hcn : cntB3 c = false := by rw [← Bool.not_eq_true, cntB3_iff]; omega
    go_enter Tryd.func18, Tryd.ntmps18
    go_wp2_with fail
    generalize hW0 : ((w.alloc _).alloc _) = w0
    have b0 : Below w.heap.size w w0 := by rw [← hW0]; exact bthen (balloc _ _) (balloc _ _)
    have k0 : Has w0 w.heap.size 36 #[.int .i64 s, .int .i64 c] := by rw [← hW0]; exact has_alloc (has_new _ _ _) _
    have k1 : Has w0 (w.heap.size + 1) 36 #[.int .i64 0, .int .i64 0] := by rw [← hW0]; have := has_new (w.alloc (.cells #[.int .i64 s, .int .i64 c] 36)) 36 #[.int .i64 0, .int .i64 0]; simpa using this
    clear hW0
    refine (padI_any _ s c).mono ?_
    rintro e w1 ⟨rfl, hb1⟩
    rw [hok]
    have m0 := has_call k0 hb1; have m1 := has_call k1 hb1
    have C1 := Lib.hid (bthen b0 hb1); clear hb1 b0 k0 k1
    have e0 := has_cell m0 0 rfl; have e1 := has_cell m0 1 rfl; have r0 := has_cell m1 0 rfl; have r1 := has_cell m1 1 rfl
    have f0 := has_free m1 0; have f1 := has_free m1 1
    have lt := has_lt m0; have lt1 := has_lt m1
    have X1 := Lib.hid (has_set (has_set m1 0 (.int .i64 s)) 1 (.int .i64 c)); have M1 := Lib.hid m1
    clear m0 m1
    go_wp2_with (first | (refine (countI_any _ _).mono ?_; rintro e w' ⟨rfl, hw⟩; rw [hw, hcn]; clear hw))
    have g0 := has_cell X1.out 0 rfl; have g1 := has_cell X1.out 1 rfl
    refine bodyPost_ret (v := .tuple #[.agg #[.int .i64 s, .int .i64 c], .string ⟨#[]⟩, .bool false]) (by simp [results, Tryd.results18, go_sem, g0, g1]) rfl ⟨retv HV.out.symm, pset _ _ C1.out⟩
end Go.Proofs.YtjpafmkmpnibgabDoor
