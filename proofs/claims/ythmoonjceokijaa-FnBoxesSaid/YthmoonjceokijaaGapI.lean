/- Chapter 2: the program fills a gap. -/
import Derived.Test.YthmoonjceokijaaGapG
namespace Go.Proofs.Ythmoonjceokijaa
open Go.RowKit
set_option linter.unusedVariables false

/-- the tiers from a gap on, behind the filling -/
def FillPost (w : World) (lo g : Nat) (gs : List Nat) (x : Bx) (fx : Bool) (p size : Int) (l : List Bx) (e : Ending) (w' : World) : Prop :=
  ∃ m gs' l', e = .returned (.tuple #[]) ∧ Has w' g 68 (tierC ⟨⟨x.low, size, p, x.jam⟩, fx⟩ m) ∧ TL w' lo m gs' l' ∧ l'.map Tr.x = l ∧ (∀ b ∈ gs', b ∈ gs ∨ w.heap.size ≤ b) ∧ Only w g w'
theorem tier_set3 {w : World} {g : Nat} {t : Tr} {m : Option Addr} (h : Has w g 68 (tierC t m)) (s p : Int) (m' : Option Addr) :
    Has (((w.setCell ⟨g, 1, none⟩ (.int .i64 s)).setCell ⟨g, 2, none⟩ (.int .i64 p)).setCell ⟨g, 5, none⟩ (.pointer m')) g 68 (tierC ⟨⟨t.x.low, s, p, t.x.jam⟩, t.fx⟩ m') := by
  have := has_set (has_set (has_set h 1 (.int .i64 s)) 2 (.int .i64 p)) 5 (.pointer m')
  simpa [tierC] using this

theorem sumZ_app (l r : List Bx) : sumZ (l ++ r) = sumZ l + sumZ r := by simp [sumZ]
/-- what is left of a gap -/
def restL (lo size all : Int) : List Bx := if size < all then [⟨lo + size, all - size, 0, false⟩] else []
theorem only_trans2 {a w w' : World} {g : Nat} (h : Only a g w) (hb : Below w.heap.size w w') : Only a g w' :=
  ⟨hb.os.trans h.os, hb.tape.trans h.tape, hb.output.trans h.output, Nat.le_trans h.size hb.size, fun k hk hne => (hb.block k (Nat.lt_of_lt_of_le hk h.size)).trans (h.block k hk hne)⟩
set_option maxRecDepth 100000 in
set_option maxHeartbeats 2000000 in
theorem fill_any (w : World) (lo g : Nat) (gs : List Nat) (x : Bx) (fx : Bool) (q : Option Addr) (F : List Int) (L : List Bx) (p size : Int)
    (hH : Has w g 68 (tierC ⟨x, fx⟩ q)) (hT : TL w lo q gs (L.map (trOf F))) (hlo : lo ≤ w.heap.size) (hni : g ∉ gs) (hs : ∀ y ∈ L, 1 ≤ y.size) (h0 : 1 ≤ x.size) (h24 : x.size + sumZ L ≤ 24) (hsz : 0 ≤ size) (hle : size ≤ x.size + runZ F L) (hl0 : 0 ≤ x.low) (hl1 : x.low ≤ 24) :
    Calls Try.prog 54 #[.pointer (some ⟨g, 0, none⟩), .int .i64 p, .int .i64 size] w (FillPost w lo g gs x fx p size (restL x.low size (x.size + runZ F L) ++ L.drop (runN F L))) := by
  obtain ⟨x0, x1, x2, x3⟩ := x
  dsimp only at h0 h24 hle hl0 hl1 ⊢
  have hz := runZ_take F L
  have hz2 : 0 ≤ sumZ (L.take (runN F L)) := sumZ_pos fun y hy => hs y (List.mem_of_mem_take hy)
  have hz3 : sumZ (L.take (runN F L)) ≤ sumZ L := by
    have h1 := sumZ_pos (L := L.drop (runN F L)) fun y hy => hs y (List.mem_of_mem_drop hy)
    have h2 := sumZ_app (L.take (runN F L)) (L.drop (runN F L))
    rw [List.take_append_drop] at h2
    omega
  have hr0 : 0 ≤ runZ F L ∧ runZ F L ≤ sumZ L := by omega
  have hmm : (L.drop (runN F L)).map (trOf F) = (L.drop (runN F L)).map (trOf F) := rfl
  have hmx : ((L.drop (runN F L)).map (trOf F)).map Tr.x = L.drop (runN F L) := by rw [List.map_map]; conv => rhs; rw [← List.map_id (L.drop (runN F L))]
                                                                                   rfl
  have hdm : ∀ b ∈ gs.drop (runN F L), b ∈ gs := fun b hb => List.mem_of_mem_drop hb
  have HH := Lib.hid hH; have HT := Lib.hid hT; have HS := Lib.hid hs; have HMX := Lib.hid hmx; have HDM := Lib.hid hdm; have HNI := Lib.hid hni
  clear hT hs hz hz2 hz3 hmm hmx hdm hni
  have hlg := has_lt hH
  clear hH
  go_enter Try.func54, Try.ntmps54
  go_wp2_with fail
  refine (tgap_any w lo g gs ⟨x0, x1, x2, x3⟩ fx q F L HH.out HT.out HS.out h0 h24).mono ?_
  rintro e w' ⟨p3, rfl, hT3, n3, rfl⟩
  dsimp only
  have hlt3 := hT3.lt
  generalize runZ F L = rz at *
  have hw3 : (w.drewN n3).heap.size = w.heap.size := rfl
  have HT3 := Lib.hid (hT3.kept (w' := w.drewN n3) fun g _ cs hh => has_drewN hh n3); have HH3 := Lib.hid (has_drewN HH.out n3); have HO := Lib.hid (only_drewN (only_refl w g) n3); clear hT3
  obtain ⟨w3, hx3⟩ : ∃ w3, w3 = w.drewN n3 := ⟨_, rfl⟩
  have hz3 : w3.heap.size ≤ w.heap.size ∧ w.heap.size ≤ w3.heap.size := by rw [hx3]; exact ⟨Nat.le_refl _, Nat.le_refl _⟩
  rw [← hx3] at HT3 HH3 HO ⊢
  clear hx3 hw3
  obtain ⟨hz3a, hz3b⟩ := hz3
  have c0 : w3.cell? ⟨g, 0, none⟩ = some (.int .i64 x0) := has_cell HH3.out 0 rfl
  have c1 : w3.cell? ⟨g, 1, none⟩ = some (.int .i64 x1) := has_cell HH3.out 1 rfl
  have c2 : w3.cell? ⟨g, 2, none⟩ = some (.int .i64 x2) := has_cell HH3.out 2 rfl
  have c5 : w3.cell? ⟨g, 5, none⟩ = some (.pointer q) := has_cell HH3.out 5 rfl
  have f1 := has_free HH3.out 1; have f2 := has_free HH3.out 2; have f5 := has_free HH3.out 5
  by_cases hlt : size < x1 + rz
  · have t1 : decide (size < x1 + rz) = true := by simpa using hlt
    have hrl : restL x0 size (x1 + rz) = [⟨x0 + size, x1 + rz - size, 0, false⟩] := if_pos hlt
    have HRL := Lib.hid hrl; clear hrl
    have HLT := Lib.hid hlt; clear hlt
    go_upto_region 3 with (fail)
    generalize hX : w3.alloc (.cells #[.int .i64 (x0 + size), .int .i64 (x1 + rz - size), .int .i64 0, .bool false, .bool false, .pointer p3] 68) = w4
    have b4 : Below w3.heap.size w3 w4 := by rw [← hX]; exact balloc _ _
    have kn : Has w4 w3.heap.size 68 (tierC ⟨⟨x0 + size, x1 + rz - size, 0, false⟩, false⟩ p3) := by rw [← hX]; exact has_new _ _ _
    clear hX c0 c1 c2 c5 f1 f2 f5
    have kg := has_call HH3.out b4
    have ht4 := HT3.out.call b4
    have ho4 := only_trans2 HO.out b4
    have hneq : g ≠ w3.heap.size := by omega
    have hnf : w3.heap.size ∉ gs.drop (runN F L) := fun hm => by have := (HT3.out.lt _ hm).2; omega
    have htn : TL w4 lo (some ⟨w3.heap.size, 0, none⟩) (w3.heap.size :: gs.drop (runN F L)) (⟨⟨x0 + size, x1 + rz - size, 0, false⟩, false⟩ :: (L.drop (runN F L)).map (trOf F)) := ⟨rfl, by omega, hnf, p3, kn, ht4⟩
    have hgn : g ∉ w3.heap.size :: gs.drop (runN F L) := fun hm => by
      rcases List.mem_cons.1 hm with e | e
      · exact hneq e
      · exact HNI.out (HDM.out _ e)
    have X1 := Lib.hid (tier_set3 kg size p (some ⟨w3.heap.size, 0, none⟩))
    have X2 := Lib.hid (((htn.set hgn 1 (.int .i64 size)).set hgn 2 (.int .i64 p)).set hgn 5 (.pointer (some ⟨w3.heap.size, 0, none⟩)))
    have X3 := Lib.hid (only_set (only_set (only_set ho4 1 (.int .i64 size)) 2 (.int .i64 p)) 5 (.pointer (some ⟨w3.heap.size, 0, none⟩)))
    have c1 : w4.cell? ⟨g, 1, none⟩ = some (.int .i64 x1) := has_cell kg 1 rfl
    have c2 : w4.cell? ⟨g, 2, none⟩ = some (.int .i64 x2) := has_cell kg 2 rfl
    have c5 : w4.cell? ⟨g, 5, none⟩ = some (.pointer q) := has_cell kg 5 rfl
    have f1 := has_free kg 1; have f2 := has_free kg 2; have f5 := has_free kg 5
    have hl4 := has_lt kg
    clear kn ht4 ho4 htn hgn hnf hlt3 b4 kg
    go_wp2
    go_end0
    refine ⟨some ⟨w3.heap.size, 0, none⟩, w3.heap.size :: gs.drop (runN F L), _, rfl, X1.out, X2.out, ?_, ?_, X3.out⟩
    · rw [List.map_cons, HMX.out, HRL.out]; rfl
    · intro b hb
      rcases List.mem_cons.1 hb with e | e
      · right; omega
      · left; exact HDM.out b e
  · have t1 : decide (size < x1 + rz) = false := by simpa using hlt
    have hrl : restL x0 size (x1 + rz) = [] := if_neg hlt
    have HRL := Lib.hid hrl; clear hrl
    have HLT := Lib.hid hlt; clear hlt
    have hgn : g ∉ gs.drop (runN F L) := fun hm => HNI.out (HDM.out _ hm)
    have X1 := Lib.hid (tier_set3 HH3.out size p p3)
    have X2 := Lib.hid (((HT3.out.set hgn 1 (.int .i64 size)).set hgn 2 (.int .i64 p)).set hgn 5 (.pointer p3))
    have X3 := Lib.hid (only_set (only_set (only_set HO.out 1 (.int .i64 size)) 2 (.int .i64 p)) 5 (.pointer p3))
    have hl4 := has_lt HH3.out
    clear hgn hlt3
    go_wp2
    go_end0
    exact ⟨p3, gs.drop (runN F L), _, rfl, X1.out, X2.out, by rw [HMX.out, HRL.out]; rfl, fun b hb => .inl (HDM.out b hb), X3.out⟩
end Go.Proofs.Ythmoonjceokijaa
