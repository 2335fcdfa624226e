/- Chapter 2: copies of banks: copyBank of the program, l02CopyBank of the model. -/
import Derived.Test.YtpoiebebnpelhaaBkU
import Derived.Test.YtpoiebebnpelhaaColK
import Derived.Test.YtpoiebebnpelhaaGapB
namespace Go.Proofs.Ytpoiebebnpelhaa
open Go.RowKit
set_option linter.unusedVariables false

theorem src_cl {w : World} {g : Nat} {x : Cl} {t : TypeId} (h : Has w g t #[.int .i64 x.z, .slice x.AF x.F.length x.cF, .slice x.AB x.L.length x.cB]) : Src w (some ⟨g, 0, none⟩) 1 3 (colC x) := by
  refine ⟨rfl, fun u hu => ?_, (fun e => by cases e), fun ad e j u hu => ?_⟩
  · simp [colC] at hu
    rcases hu with rfl | rfl | rfl <;> rfl
  · injection e with e; subst e
    rw [addrK, Nat.zero_add, cell_of_row w g j _ t (0, 0) h]
    simpa [colC] using hu
theorem colV_snoc (l : List Cl) (x : Cl) : colV (l ++ [x]) = colV l ++ colC x := by simp [colV]
theorem OI.grown {w w' : World} {lo hi base : Nat} {e e' : TypeId} {A : Option Addr} {xs : List Value} {row : Option Nat} (h : OI w lo hi e A xs) (hg : w.grownBy w' row) (hr : ∀ b, row = some b → base ≤ b ∧ ∃ cur, Has w b e' cur) (hne : e ≠ e') : OI w' lo hi e A xs := by
  rcases h with h | ⟨g, cur, rfl, h1, h2, hh, hc⟩
  · exact .inl h
  · refine .inr ⟨g, cur, rfl, h1, h2, has_grown hh hg (fun eq => ?_), hc⟩
    obtain ⟨_, cur', h'⟩ := hr g eq.symm
    have := hh.symm.trans h'
    injection this with this; injection this with _ this _
    exact hne this
theorem RowsSep.grown {w w' : World} {lo hi base : Nat} {l : List Cl} {f : Nat → Nat × Nat} {row : Option Nat} (h : RowsSep w lo hi l f) (hg : w.grownBy w' row) (hr : ∀ b, row = some b → base ≤ b ∧ ∃ cur, Has w b 53 cur) : RowsSep w' lo hi l f :=
  ⟨fun k x hx => by obtain ⟨h1, h2, h3, h4, h5⟩ := h.row k x hx; exact ⟨h1, h2, h3, h4.grown hg hr (by decide), h5.grown hg hr (by decide)⟩, h.dis⟩
/-- the answer is a bank of the call's own, with the same columns -/
def BankAns0 (l : List Cl) (w : World) (e : Ending) (w' : World) : Prop := ∃ A' c' l', e = .returned (.slice A' l'.length c') ∧ l'.map cont = l.map cont ∧ BankAt w' w.heap.size w'.heap.size A' l' ∧ Below w.heap.size w w'
theorem bank_of_own {w : World} {base : Nat} {A : Option Addr} {c : Nat} {l : List Cl} {f : Nat → Nat × Nat} (h : w.ownsRow base 53 3 (.slice A l.length c) l.length (colV l)) (hs : RowsSep w base w.heap.size l f) : BankAt w base w.heap.size A l := ⟨OI.of_or (or_of h), f, hs⟩

set_option maxRecDepth 100000 in
set_option maxHeartbeats 4000000 in
theorem cpyI_any (w : World) (B : Nat) (A : Option Addr) (n c : Nat) (l : List Cl) (hn : n = l.length) (hl : l.length ≤ 1048576) (hsm : SmallK l) (hB : B ≤ w.heap.size) (hS : KL w B A l) (hV : ∀ x ∈ l, CV w B x) :
    Calls Try.prog 42 #[.slice A n c] w (BankAns0 l w) := by
  subst hn
  obtain ⟨j0, hj0, hy0, hy1, hy2⟩ := info_parts colInfo
  have hmk : ∀ W : World, (Instr.makeSlice 26 (.int .i64 0) (.int .i64 (l.length : Int))).run Try.prog W = .ok (.slice (some ⟨W.heap.size, 0, none⟩) 0 l.length) (W.alloc (.cells (madeCells #[.int .i64 0, .slice none 0 0, .slice none 0 0] (l.length * 3)) 53)) := by
    intro W
    have := run_make (P := Try.prog) W 26 53 j0 _ Try.underlying26 hj0 hy0 .i64 .i64 0 (l.length : Int) (by omega) (by omega) (by rw [hy2]; omega) (by omega)
    simpa [hy1, Value.cells] using this
  have HS := Lib.hid hS; have HV := Lib.hid hV; have HSM := Lib.hid hsm; clear hS hV hsm
  go_enter Try.func42, Try.ntmps42
  go_wp2_with fail
  generalize hW1 : w.alloc (.cells (madeCells #[.int .i64 0, .slice none 0 0, .slice none 0 0] (l.length * 3)) 53) = w1
  have own1 : w1.ownsRow w.heap.size 53 3 (.slice (some ⟨w.heap.size, 0, none⟩) 0 l.length) 0 [] := by rw [← hW1]; exact World.ownsRow_made w _ _ (Nat.le_refl _) (by unfold maxLen; omega) (by simp [size_madeCells])
  have b1 : Below w.heap.size w w1 := by rw [← hW1]; exact balloc _ _
  clear hW1
  have OW1 := Lib.hid own1; clear own1
  have hz1 := b1.size
  clear hmk
  go_loopw [3, 11] (fun gv i wr => ∃ (k : Nat) (A' : Option Addr) (c' : Nat) (l' : List Cl), k ≤ l.length ∧ i = .int .i64 k ∧ l'.map cont = (l.take k).map cont ∧ gv = .slice A' l'.length c' ∧ wr.ownsRow w.heap.size 53 3 (.slice A' l'.length c') l'.length (colV l') ∧ (∃ f, RowsSep wr w.heap.size wr.heap.size l' f) ∧ Below w.heap.size w wr) (fun _ i _ => l.length - (intOf i).toNat)
  case atStart => exact ⟨0, _, l.length, [], Nat.zero_le _, rfl, rfl, rfl, OW1.out, ⟨fun _ => (0, 0), ⟨fun k x h => by simp at h, fun j k _ hk => by simp at hk⟩⟩, b1⟩
  case round =>
    obtain ⟨k, A', c', l', hk, rfl, hct, rfl, how, hro, hb⟩ := hrel
    have hll : l'.length ≤ 1048576 := by have := congrArg List.length hct; simp at this; omega
    have hsz := hb.size
    have HCT := Lib.hid hct; have HOW := Lib.hid how; have HRO := Lib.hid hro; have HBB := Lib.hid hb; clear hct how hro
    by_cases hlt : k < l.length
    · obtain ⟨b, off, x, rfl, hbB, hx, hc0, hc1, hc2⟩ := (HS.out.later hB hb).at_ hlt
      have hv := (HV.out x (List.mem_of_getElem? hx)).later hB hb
      have hs := HSM.out x (List.mem_of_getElem? hx)
      have HX := Lib.hid hx; have HVX := Lib.hid hv; have HSX := Lib.hid hs; clear hx hv hs hb
      have hbw : b < wr.heap.size := by omega
      have hll2 : l'.length + 1 ≤ 1048576 := by have := congrArg List.length HCT.out; simp at this; omega
      go_wp2_with fail
      generalize hX : wr.alloc (.cells #[.int .i64 x.z, .slice x.AF x.F.length x.cF, .slice x.AB x.L.length x.cB] 53) = w3
      have b3 : Below wr.heap.size wr w3 := by rw [← hX]; exact balloc _ _
      have k3 : Has w3 wr.heap.size 53 #[.int .i64 x.z, .slice x.AF x.F.length x.cF, .slice x.AB x.L.length x.cB] := by rw [← hX]; exact has_new _ _ _
      clear hX hc0 hc1 hc2
      have hz3 := b3.size
      refine (copyI_any w3 B x HSX.out.1 HSX.out.2 (by omega) (HVX.out.later (by omega) b3)).mono ?_
      rintro e w4 ⟨A2, A3, n2, n3, rfl, ho2, ho3, hb4⟩
      have c4 := bthen b3 hb4
      have hz4 := hb4.size
      have b5 : Below w4.heap.size w4 (w4.alloc (.cells #[.int .i64 x.z, .slice A2 x.F.length n2, .slice A3 x.L.length n3] 53)) := balloc _ _
      have HN5 := Lib.hid (show Has (w4.alloc (.cells #[.int .i64 x.z, .slice A2 x.F.length n2, .slice A3 x.L.length n3] 53)) (w4.heap.size) 53 #[.int .i64 x.z, .slice A2 x.F.length n2, .slice A3 x.L.length n3] by exact has_new _ _ _)
      have OW5 := Lib.hid (own_callG (own_callG HOW.out c4) b5)
      obtain ⟨f, hf⟩ := HRO.out
      have hsp := ((hf.call c4).wider (Nat.le_refl _) (show wr.heap.size ≤ w3.heap.size by omega)).snoc (x := ⟨x.z, A2, x.F, n2, A3, x.L, n3⟩) (a := w3.heap.size) (b := w4.heap.size) (Nat.le_refl _) hz4 (by omega) (OI.of_or ho2) (OI.of_or ho3)
      have HSP := Lib.hid (hsp.call b5); have HB5 := Lib.hid ((HBB.out.trans (c4.mono hsz)).trans (b5.mono (by omega)))
      clear ho2 ho3 hb4 hsp c4 b5 hf
      go_wp2_with (at_builtin; go_must (refine list_app rfl _ _ 26 rfl w.heap.size 53 j0 (.agg #[.int .i64 0, .slice none 0 0, .slice none 0 0]) 3 56 Try.underlying26 hj0 hy0 hy1 hy2 rfl (by decide) _ l'.length _ rfl OW5.out (some ⟨w4.heap.size, 0, none⟩) 1 1 (colC ⟨x.z, A2, x.F, n2, A3, x.L, n3⟩) rfl (src_cl (x := ⟨x.z, A2, x.F, n2, A3, x.L, n3⟩) HN5.out) (by unfold maxLen; omega) (by omega) (by simp; omega) ?_))
      intro A6 c6 w6 hown6 hgrow6 hrow6
      have hb6 : Below w.heap.size w w6 := HB5.out.grown hgrow6 (by simp; omega) (fun b hb => (hrow6 b hb).1)
      have hsp6 := HSP.out.grown hgrow6 hrow6
      have hz6 := hgrow6.size
      rw [← colV_snoc] at hown6
      obtain ⟨l6, hl6⟩ : ∃ l6, l' ++ [⟨x.z, A2, x.F, n2, A3, x.L, n3⟩] = l6 := ⟨_, rfl⟩
      have hll6 : l'.length + 1 = l6.length := by rw [← hl6]; simp
      have hct6 : l6.map cont = (l.take (k + 1)).map cont := by rw [← hl6]; exact cont_snoc HCT.out HX.out rfl
      rw [hl6] at hown6 hsp6
      rw [hll6] at hown6 ⊢
      have hsp7 := hsp6.wider (Nat.le_refl _) (show w4.heap.size ≤ w6.heap.size by simp at hz6; omega)
      have OW6 := Lib.hid hown6; have HB6 := Lib.hid hb6; have HSP6 := Lib.hid hsp7; have HCT6 := Lib.hid hct6
      clear hl6 hll6 hct6 hown6 hgrow6 hrow6 hb6 hsp6 hsp7 hz6
      go_wp2
      go_roundw
      case rel => exact ⟨k + 1, A6, c6, l6, by omega, by go_num, HCT6.out, rfl, OW6.out, ⟨_, HSP6.out⟩, HB6.out⟩
      case measure => simp [intOf]; omega
    · go_wp2
      go_ret
      have hkl : k = l.length := by omega
      have hct := HCT.out
      rw [hkl, List.take_length] at hct
      obtain ⟨f, hf⟩ := HRO.out
      exact ⟨A', c', l', rfl, hct, bank_of_own HOW.out hf, HBB.out⟩

set_option maxRecDepth 100000 in
set_option maxHeartbeats 4000000 in
theorem cpyS_any (w : World) (B : Nat) (A : Option Addr) (n c : Nat) (l : List Cl) (hn : n = l.length) (hl : l.length ≤ 1048576) (hsm : SmallK l) (hB : B ≤ w.heap.size) (hS : KL w B A l) (hV : ∀ x ∈ l, CV w B x) :
    Calls Try.prog 38 #[.slice A n c] w (BankAns0 l w) := by
  subst hn
  obtain ⟨j0, hj0, hy0, hy1, hy2⟩ := info_parts colInfo
  have HS := Lib.hid hS; have HV := Lib.hid hV; have HSM := Lib.hid hsm; clear hS hV hsm
  go_enter Try.func38, Try.ntmps38
  go_wp2_with fail
  generalize hW1 : w.alloc (.cells #[] 53) = w1
  have own1 : w1.ownsRow w.heap.size 53 3 (.slice (some ⟨w.heap.size, 0, none⟩) 0 0) 0 [] := by rw [← hW1]; exact owns_new _ _ _ _ (Nat.le_refl _)
  have b1 : Below w.heap.size w w1 := by rw [← hW1]; exact balloc _ _
  clear hW1
  have OW1 := Lib.hid own1; clear own1
  have hz1 := b1.size
  skip
  go_loopw [3, 4] (fun gv i wr => ∃ (k : Nat) (A' : Option Addr) (c' : Nat) (l' : List Cl), k ≤ l.length ∧ i = .int .i64 k ∧ l'.map cont = (l.take k).map cont ∧ gv = .slice A' l'.length c' ∧ wr.ownsRow w.heap.size 53 3 (.slice A' l'.length c') l'.length (colV l') ∧ (∃ f, RowsSep wr w.heap.size wr.heap.size l' f) ∧ Below w.heap.size w wr) (fun _ i _ => l.length - (intOf i).toNat)
  case atStart => exact ⟨0, _, 0, [], Nat.zero_le _, rfl, rfl, rfl, OW1.out, ⟨fun _ => (0, 0), ⟨fun k x h => by simp at h, fun j k _ hk => by simp at hk⟩⟩, b1⟩
  case round =>
    obtain ⟨k, A', c', l', hk, rfl, hct, rfl, how, hro, hb⟩ := hrel
    have hll : l'.length ≤ 1048576 := by have := congrArg List.length hct; simp at this; omega
    have hsz := hb.size
    have HCT := Lib.hid hct; have HOW := Lib.hid how; have HRO := Lib.hid hro; have HBB := Lib.hid hb; clear hct how hro
    by_cases hlt : k < l.length
    · obtain ⟨b, off, x, rfl, hbB, hx, hc0, hc1, hc2⟩ := (HS.out.later hB hb).at_ hlt
      have hv := (HV.out x (List.mem_of_getElem? hx)).later hB hb
      have hs := HSM.out x (List.mem_of_getElem? hx)
      have HX := Lib.hid hx; have HVX := Lib.hid hv; have HSX := Lib.hid hs; clear hx hv hs hb
      have hbw : b < wr.heap.size := by omega
      have hll2 : l'.length + 1 ≤ 1048576 := by have := congrArg List.length HCT.out; simp at this; omega
      go_wp2_with fail
      refine (copyS_any wr B x HSX.out.1 HSX.out.2 (by omega) HVX.out).mono ?_
      rintro e w4 ⟨A2, A3, n2, n3, rfl, ho2, ho3, hb4⟩
      clear hc0 hc1 hc2
      have hz3 : wr.heap.size ≤ wr.heap.size := Nat.le_refl _
      have c4 := hb4
      have hz4 := hb4.size
      have b5 : Below w4.heap.size w4 ((w4.alloc (.cells #[.int .i64 x.z, .slice A2 x.F.length n2, .slice A3 x.L.length n3] 53)).alloc (.cells #[.int .i64 x.z, .slice A2 x.F.length n2, .slice A3 x.L.length n3] 53)) := bthen (balloc _ _) (balloc _ _)
      have HN5 := Lib.hid (show Has ((w4.alloc (.cells #[.int .i64 x.z, .slice A2 x.F.length n2, .slice A3 x.L.length n3] 53)).alloc (.cells #[.int .i64 x.z, .slice A2 x.F.length n2, .slice A3 x.L.length n3] 53)) (w4.heap.size + 1) 53 #[.int .i64 x.z, .slice A2 x.F.length n2, .slice A3 x.L.length n3] by have := has_new (w4.alloc (.cells #[.int .i64 x.z, .slice A2 x.F.length n2, .slice A3 x.L.length n3] 53)) 53 #[.int .i64 x.z, .slice A2 x.F.length n2, .slice A3 x.L.length n3]; simpa using this)
      have OW5 := Lib.hid (own_callG (own_callG HOW.out c4) b5)
      obtain ⟨f, hf⟩ := HRO.out
      have hsp := ((hf.call c4).wider (Nat.le_refl _) (show wr.heap.size ≤ wr.heap.size by omega)).snoc (x := ⟨x.z, A2, x.F, n2, A3, x.L, n3⟩) (a := wr.heap.size) (b := w4.heap.size) (Nat.le_refl _) hz4 (by omega) (OI.of_or ho2) (OI.of_or ho3)
      have HSP := Lib.hid (hsp.call b5); have HB5 := Lib.hid ((HBB.out.trans (c4.mono hsz)).trans (b5.mono (by omega)))
      clear ho2 ho3 hb4 hsp c4 b5 hf
      go_wp2_with (at_builtin; go_must (refine list_app rfl _ _ 26 rfl w.heap.size 53 j0 (.agg #[.int .i64 0, .slice none 0 0, .slice none 0 0]) 3 56 Try.underlying26 hj0 hy0 hy1 hy2 rfl (by decide) _ l'.length _ rfl OW5.out (some ⟨w4.heap.size + 1, 0, none⟩) 1 1 (colC ⟨x.z, A2, x.F, n2, A3, x.L, n3⟩) rfl (src_cl (x := ⟨x.z, A2, x.F, n2, A3, x.L, n3⟩) HN5.out) (by unfold maxLen; omega) (by omega) (by simp; omega) ?_))
      intro A6 c6 w6 hown6 hgrow6 hrow6
      have hb6 : Below w.heap.size w w6 := HB5.out.grown hgrow6 (by simp; omega) (fun b hb => (hrow6 b hb).1)
      have hsp6 := HSP.out.grown hgrow6 hrow6
      have hz6 := hgrow6.size
      rw [← colV_snoc] at hown6
      obtain ⟨l6, hl6⟩ : ∃ l6, l' ++ [⟨x.z, A2, x.F, n2, A3, x.L, n3⟩] = l6 := ⟨_, rfl⟩
      have hll6 : l'.length + 1 = l6.length := by rw [← hl6]; simp
      have hct6 : l6.map cont = (l.take (k + 1)).map cont := by rw [← hl6]; exact cont_snoc HCT.out HX.out rfl
      rw [hl6] at hown6 hsp6
      rw [hll6] at hown6 ⊢
      have hsp7 := hsp6.wider (Nat.le_refl _) (show w4.heap.size ≤ w6.heap.size by simp at hz6; omega)
      have OW6 := Lib.hid hown6; have HB6 := Lib.hid hb6; have HSP6 := Lib.hid hsp7; have HCT6 := Lib.hid hct6
      clear hl6 hll6 hct6 hown6 hgrow6 hrow6 hb6 hsp6 hsp7 hz6
      go_wp2
      go_roundw
      case rel => exact ⟨k + 1, A6, c6, l6, by omega, by go_num, HCT6.out, rfl, OW6.out, ⟨_, HSP6.out⟩, HB6.out⟩
      case measure => simp [intOf]; omega
    · go_wp2
      go_ret
      have hkl : k = l.length := by omega
      have hct := HCT.out
      rw [hkl, List.take_length] at hct
      obtain ⟨f, hf⟩ := HRO.out
      exact ⟨A', c', l', rfl, hct, bank_of_own HOW.out hf, HBB.out⟩
end Go.Proofs.Ytpoiebebnpelhaa
