/- Chapter 2: the laws' helpers over banks: sizes, copies, marks. -/
import Derived.Test.YtpoiebebnpelhaaBkS
namespace Go.Proofs.Ytpoiebebnpelhaa
open Go.RowKit
set_option linter.unusedVariables false

def totK (l : List Cl) : Nat := (l.map fun x => x.F.length + x.L.length).sum
theorem totK_succ {l : List Cl} {k : Nat} {x : Cl} (h : l[k]? = some x) : totK (l.take (k + 1)) = totK (l.take k) + (x.F.length + x.L.length) := by
  unfold totK; rw [List.take_add_one, h]; simp
theorem totK_mem : ∀ {l : List Cl} {x : Cl}, x ∈ l → x.F.length + x.L.length ≤ totK l
  | y :: r, x, h => by
    unfold totK
    rw [List.map_cons, List.sum_cons]
    rcases List.mem_cons.1 h with e | e
    · subst e; omega
    · have := totK_mem e; unfold totK at this; omega
theorem totK_cont {l l' : List Cl} (h : l'.map cont = l.map cont) : totK l' = totK l := by
  have e : ∀ l : List Cl, totK l = ((l.map cont).map fun t => t.2.1.length + t.2.2.length).sum := fun l => by unfold totK; rw [List.map_map]; rfl
  rw [e, e, h]
theorem len_cont {l l' : List Cl} (h : l'.map cont = l.map cont) : l'.length = l.length := by have := congrArg List.length h; simpa using this
def BankSz (l : List Cl) (r : Int) : Prop := r = -1 ∨ (0 ≤ r ∧ l.length + totK l ≤ 1048576)
theorem small_tot {l : List Cl} (h : totK l ≤ 1048576) : SmallK l := fun x hx => by have := totK_mem hx; omega
theorem OI.setlow {w : World} {lo hi : Nat} {e : TypeId} {A : Option Addr} {xs : List Value} (h : OI w lo hi e A xs) {p : Addr} (hp : p.block < lo) (v : Value) : OI (w.setCell p v) lo hi e A xs := by
  rcases h with h | ⟨g, cur, rfl, q1, q2, hh, hc⟩
  · exact .inl h
  · exact .inr ⟨g, cur, rfl, q1, q2, has_far hh (by omega) v, hc⟩
theorem RowsSep.setlow {w : World} {lo hi : Nat} {l : List Cl} {f : Nat → Nat × Nat} (h : RowsSep w lo hi l f) {p : Addr} (hp : p.block < lo) (v : Value) : RowsSep (w.setCell p v) lo hi l f :=
  ⟨fun k x hx => by obtain ⟨h1, h2, h3, h4, h5⟩ := h.row k x hx; exact ⟨h1, h2, h3, h4.setlow (by omega) v, h5.setlow (by omega) v⟩, h.dis⟩

set_option maxRecDepth 100000 in
set_option maxHeartbeats 1000000 in
theorem szBank_any (w : World) (B : Nat) (A : Option Addr) (c : Nat) (l : List Cl) (hl : l.length ≤ maxLen) (hB : B ≤ w.heap.size) (hS : KL w B A l) (hV : ∀ x ∈ l, CV w B x) :
    Calls Try.prog 8 #[.slice A l.length c, .int .i64 1048576] w fun e w' => ∃ r, e = .returned (.int .i64 r) ∧ BankSz l r ∧ Below w.heap.size w w' := by
  unfold maxLen at hl
  have HS := Lib.hid hS; have HV := Lib.hid hV; clear hS hV
  by_cases hbig : (1048576 : Int) < l.length
  · go_enter Try.func8, Try.ntmps8
    go_wp2
    go_ret
    exact ⟨-1, rfl, .inl rfl, Below.refl _ _⟩
  · have hl2 : l.length ≤ 1048576 := by omega
    go_enter Try.func8, Try.ntmps8
    go_wp2
    go_loopw [1, 5] (fun lv i wr => ∃ (k : Nat) (r : Int), k ≤ l.length ∧ i = .int .i64 k ∧ lv = .int .i64 r ∧ 0 ≤ r ∧ r + l.length + totK (l.take k) = 1048576 ∧ Below w.heap.size w wr) (fun _ i _ => l.length - (intOf i).toNat)
    case atStart => exact ⟨0, _, Nat.zero_le _, rfl, rfl, by omega, by simp [totK], Below.refl _ _⟩
    case round =>
      obtain ⟨k, r, hk, rfl, rfl, hr0, hsm, hb⟩ := hrel
      have hr1 : r ≤ 1048576 := by omega
      have HSM := Lib.hid hsm; clear hsm
      have hsz := hb.size
      by_cases hlt : k < l.length
      · obtain ⟨b, off, x, rfl, hbB, hx, hc0, hc1, hc2⟩ := (HS.out.later hB hb).at_ hlt
        have hv := HV.out x (List.mem_of_getElem? hx)
        by_cases hbd : r < x.F.length + x.L.length
        · have hs : szC r x.F.length x.L.length = -1 := if_pos (by omega)
          have Hs := Lib.hid hs; clear hs hx
          go_wp2_with fail
          refine (szColumn_any wr x.AF x.AB x.F.length x.cF x.L.length x.cB x.z r hv.lf hv.lb hr0 hr1).mono ?_
          rintro e w1 ⟨rfl, hb1⟩
          rw [Hs.out]
          go_wp2
          go_ret
          exact ⟨-1, rfl, .inl rfl, bthen hb hb1⟩
        · have hs : szC r x.F.length x.L.length = r - x.F.length - x.L.length := if_neg (by omega)
          have Hs := Lib.hid hs; clear hs
          have hsx := totK_succ hx
          have HSX := Lib.hid hsx; clear hsx hx
          go_wp2_with fail
          refine (szColumn_any wr x.AF x.AB x.F.length x.cF x.L.length x.cB x.z r hv.lf hv.lb hr0 hr1).mono ?_
          rintro e w1 ⟨rfl, hb1⟩
          rw [Hs.out]
          go_wp2
          go_roundw
          case rel => exact ⟨k + 1, _, by omega, by go_num, rfl, by omega, by have h1 := HSX.out; have h2 := HSM.out; omega, bthen hb hb1⟩
          case measure => simp [intOf]; omega
      · go_wp2
        go_ret
        have hkl : k = l.length := by omega
        subst hkl
        have := HSM.out
        rw [List.take_length] at this
        exact ⟨r, rfl, .inr ⟨hr0, by omega⟩, hb⟩

set_option maxRecDepth 100000 in
set_option maxHeartbeats 2000000 in
theorem toBank_any (w : World) (B : Nat) (A : Option Addr) (c : Nat) (l : List Cl) (hl : l.length ≤ 1048576) (hsm : SmallK l) (hB : B ≤ w.heap.size) (hS : KL w B A l) (hV : ∀ x ∈ l, CV w B x) :
    Calls Try.prog 10 #[.slice A l.length c] w fun e w' => ∃ (A' : Option Addr) (l' : List Cl), e = .returned (.slice A' l'.length l.length) ∧ l'.map cont = l.map cont ∧ BankAt w' w.heap.size w'.heap.size A' l' ∧ Below w.heap.size w w' := by
  have hmk : ∀ W : World, (Instr.makeSlice 26 (.int .i64 (l.length : Int)) (.int .i64 (l.length : Int))).run Try.prog W = .ok (.slice (some ⟨W.heap.size, 0, none⟩) l.length l.length) (W.alloc (.cells (madeCells #[.int .i64 0, .slice none 0 0, .slice none 0 0] (l.length * 3)) 53)) := by
    intro W
    obtain ⟨i, hi, hz0, hz1, hz2⟩ := info_parts colInfo
    have := run_make (P := Try.prog) W 26 53 i _ Try.underlying26 hi hz0 .i64 .i64 (l.length : Int) (l.length : Int) (by omega) (by omega) (by rw [hz2]; omega) (by omega)
    simpa [hz1, Value.cells] using this
  have HS := Lib.hid hS; have HV := Lib.hid hV; have HSM := Lib.hid hsm; clear hS hV hsm
  go_enter Try.func10, Try.ntmps10
  go_wp2
  go_loopw [4] (fun i wr => ∃ (k : Nat) (cs : Array Value) (l' : List Cl), k ≤ l.length ∧ i = .int .i64 k ∧ l'.length = k ∧ l'.map cont = (l.take k).map cont ∧ CopiedK wr w.heap.size cs l' l.length ∧ (∃ f, RowsSep wr (w.heap.size + 1) wr.heap.size l' f) ∧ Below w.heap.size w wr) (fun i _ => l.length - (intOf i).toNat)
  case atStart => exact ⟨0, _, [], Nat.zero_le _, rfl, rfl, rfl, ⟨has_new _ _ _, by simp [size_madeCells], fun j x hj => by simp at hj⟩, ⟨fun _ => (0, 0), ⟨fun k x h => by simp at h, fun j k _ hk => by simp at hk⟩⟩, balloc _ _⟩
  case round =>
    obtain ⟨k, cs, l', hk, rfl, hlk, hct, hcp, hro, hb⟩ := hrel
    have HC := Lib.hid hcp; have HCT := Lib.hid hct; have HRO := Lib.hid hro; clear hcp hct hro
    clear hmk
    have hsz := hb.size
    by_cases hlt : k < l.length
    · obtain ⟨b, off, x, rfl, hbB, hx, hc0, hc1, hc2⟩ := (HS.out.later hB hb).at_ hlt
      have hv := (HV.out x (List.mem_of_getElem? hx)).later hB hb
      have hs := HSM.out x (List.mem_of_getElem? hx)
      obtain ⟨z, AF, F, cF, AB, L, cB⟩ := x
      dsimp only at hc0 hc1 hc2 hs
      have HX := Lib.hid hx; have HVX := Lib.hid hv; have HSX := Lib.hid hs; clear hx hv hs
      have HLK := Lib.hid hlk; clear hlk
      go_wp2_with fail
      refine (toColumn_any wr B AF AB cF cB z F L HSX.out.1 HSX.out.2 (by omega) HVX.out.f HVX.out.b).mono ?_
      rintro e w1 ⟨A2, A3, n2, n3, rfl, ho2, ho3, hb1⟩
      have hz1 := hb1.size
      have hC1 : CopiedK w1 w.heap.size cs l' l.length := ⟨has_call HC.out.heap hb1, HC.out.size, HC.out.got⟩
      have hgl : w.heap.size < wr.heap.size := has_lt HC.out.heap
      have hst := hC1.step (by rw [HLK.out]; exact hlt) ⟨z, A2, F, n2, A3, L, n3⟩
      rw [HLK.out] at hst
      dsimp only at hst
      obtain ⟨f, hf⟩ := HRO.out
      have hsep := ((hf.call hb1).wider (Nat.le_refl _) (Nat.le_refl _)).snoc (x := ⟨z, A2, F, n2, A3, L, n3⟩) (a := wr.heap.size) (b := w1.heap.size) (Nat.le_refl _) hz1 (by omega) (OI.of_or ho2) (OI.of_or ho3)
      have hsep2 := ((hsep.setlow (p := ⟨w.heap.size, k * 3, none⟩) (Nat.lt_succ_self _) (.int .i64 z)).setlow (p := ⟨w.heap.size, k * 3 + 1, none⟩) (Nat.lt_succ_self _) (.slice A2 F.length n2)).setlow (p := ⟨w.heap.size, k * 3 + 2, none⟩) (Nat.lt_succ_self _) (.slice A3 L.length n3)
      obtain ⟨u0, hu0⟩ := hC1.cellAt (j := k * 3) (by omega)
      obtain ⟨u1, hu1⟩ := hC1.cellAt (j := k * 3 + 1) (by omega)
      obtain ⟨u2, hu2⟩ := hC1.cellAt (j := k * 3 + 2) (by omega)
      have hf0 := has_free hC1.heap (k * 3)
      have hf1 := has_free hC1.heap (k * 3 + 1)
      have hf2 := has_free hC1.heap (k * 3 + 2)
      have HST := Lib.hid hst; have HR1 := Lib.hid hsep2; clear hst hsep hsep2 hC1 ho2 ho3 hf
      go_wp2
      go_roundw
      case rel => exact ⟨k + 1, _, l' ++ [⟨z, A2, F, n2, A3, L, n3⟩], by omega, by go_num, by simp [HLK.out], cont_snoc HCT.out HX.out rfl, HST.out, ⟨_, HR1.out.wider (Nat.le_refl _) (by simp)⟩, (((hb.trans (hb1.mono hsz)).setCell (Nat.le_refl _) _).setCell (Nat.le_refl _) _).setCell (Nat.le_refl _) _⟩
      case measure => simp [intOf]; omega
    · go_wp2
      go_ret
      have hkl : k = l.length := by omega
      subst hkl
      have hct := HCT.out
      rw [List.take_length] at hct
      obtain ⟨f, hf⟩ := HRO.out
      exact ⟨some ⟨w.heap.size, 0, none⟩, l', by simp [hlk], hct, ⟨copiedK_oi HC.out (Nat.le_refl _) (has_lt HC.out.heap), f, hf.wider (Nat.le_succ _) (Nat.le_refl _)⟩, hb⟩

end Go.Proofs.Ytpoiebebnpelhaa
