/- Chapter 8: events by their names: the program's map (gen_evy.py). -/
import Derived.Test.YtdcejkompdbliaaDoorEvX
import Derived.Test.YtdcejkompdbliaaDoorEvA
import Derived.Test.YtdcejkompdbliaaDoorAny
namespace Go.Proofs.YtdcejkompdbliaaDoor
open Go.RowKit
set_option linter.unusedVariables false
def mapE (l : List Ev) : PE := l.foldl eset (fun _ _ => none)
theorem mapE_snoc (l : List Ev) (x : Ev) : mapE (l ++ [x]) = eset (mapE l) x := by simp [mapE, List.foldl_append]
theorem mapE_take {l : List Ev} {k : Nat} {x : Ev} (h : l[k]? = some x) : mapE (l.take (k + 1)) = eset (mapE (l.take k)) x := by
  rw [List.take_add_one, h]; exact mapE_snoc _ _
theorem eset_some : ∀ {l : List Ev} {f : PE} {a b : Int} {x : Ev}, (l.foldl eset f) a b = some x → (x ∈ l ∧ x.nod = a ∧ x.seq = b) ∨ f a b = some x
  | [], f, a, b, x, h => .inr h
  | y :: l, f, a, b, x, h => by
    rcases eset_some (l := l) h with ⟨h1, h2⟩ | h1
    · exact .inl ⟨by simp [h1], h2⟩
    · unfold eset at h1
      split at h1
      · rename_i hc; injection h1 with h1; subst h1; exact .inl ⟨by simp, hc.1.symm, hc.2.symm⟩
      · exact .inr h1
theorem eset_isSome : ∀ {l : List Ev} {f : PE} {a b : Int}, ((l.foldl eset f) a b).isSome = true ↔ (∃ x ∈ l, x.nod = a ∧ x.seq = b) ∨ (f a b).isSome = true
  | [], f, a, b => by simp
  | y :: l, f, a, b => by
    rw [List.foldl_cons, eset_isSome (l := l)]
    unfold eset
    by_cases hc : a = y.nod ∧ b = y.seq
    · rw [if_pos hc]
      exact ⟨fun _ => .inl ⟨y, by simp, hc.1.symm, hc.2.symm⟩, fun _ => .inr rfl⟩
    · rw [if_neg hc]
      constructor
      · rintro (⟨x, hx, h⟩ | h)
        · exact .inl ⟨x, by simp [hx], h⟩
        · exact .inr h
      · rintro (⟨x, hx, h1, h2⟩ | h)
        · rcases List.mem_cons.1 hx with rfl | hx
          · exact absurd ⟨h1.symm, h2.symm⟩ hc
          · exact .inl ⟨x, hx, h1, h2⟩
        · exact .inr h
theorem mapE_some {l : List Ev} {a b : Int} {x : Ev} (h : mapE l a b = some x) : x ∈ l ∧ x.nod = a ∧ x.seq = b := by
  rcases eset_some h with h | h
  · exact h
  · cases h
theorem mapE_isSome {l : List Ev} {a b : Int} : (mapE l a b).isSome = true ↔ ∃ x ∈ l, x.nod = a ∧ x.seq = b := by
  unfold mapE; rw [eset_isSome]; simp
theorem inN_ev {e : Ev} (h : evB e = true) : InN e.nod e.seq := by
  have := evB_facts h; unfold InN; omega
section
variable {P : Program} {w : World}
theorem step_upd {ops : Array Oper} {o : Oper} {a : Act} {K : Act → World → Prop} {Q : Exit → Act → World → Prop} {E : Prop} (hgd : o.guard = none) (t : TypeId) (m x v : Operand) (ho : o.op = .mapUpdate t m x v)
    {mv xv vv : Value} (hm : a.eval m = mv) (hx : a.eval x = xv) (hv : a.eval v = vv) {w' : World} (hr : (Instr.mapUpdate t mv xv vv).run P w = .ok () w') (h : K (a.put o.dst undef) w') :
    if Region.wanted o (yielded ops a.tmps) = true then o.wp P a w K Q else E := by
  rw [if_pos (by simp [Region.wanted, hgd])]
  unfold Oper.wp
  simp [execOp, ho, hm, hx, hv, hr, Result.andThen]
  exact h
end
set_option maxRecDepth 100000 in
set_option maxHeartbeats 1000000 in
theorem nameOf_any (w : World) (x0 x1 x2 x3 x4 x5 x6 : Int) : Calls Tryd.prog 29 #[.agg #[.int .i64 x0, .int .i64 x1, .int .i64 x2, .int .i64 x3, .int .i64 x4, .int .i64 x5, .int .i64 x6]] w fun e w' => e = .returned (.agg #[.int .i64 x0, .int .i64 x1]) ∧ Below w.heap.size w w' := by
  go_enter Tryd.func29, Tryd.ntmps29
  go_wp2
  refine bodyPost_ret (v := .agg #[.int .i64 x0, .int .i64 x1]) (by simp [results, Tryd.results29, go_sem]) rfl ⟨rfl, bthen (balloc _ _) (balloc _ _)⟩
set_option maxRecDepth 100000 in
set_option maxHeartbeats 8000000 in
theorem byName_any (w : World) (B : Nat) (A : Option Addr) (c : Nat) (l : List Ev) (hl : l.length ≤ 1048576) (hB : B ≤ w.heap.size) (hS : evL w B A l) (hq : ∀ x ∈ l, evB x = true) : Calls Tryd.prog 19 #[.slice A l.length c] w fun e w' => e = .returned (.map (some w.heap.size)) ∧ ME w' w.heap.size l.length (mapE l) ∧ Below w.heap.size w w' := by
  have hlm : l.length ≤ maxLen := by unfold maxLen; omega
  have HLM := Lib.hid hlm; unfold maxLen at hlm
  have HS := Lib.hid hS; have HQ := Lib.hid hq; clear hS hq
  have hmm := @run_makeMap Tryd.prog
  go_enter Tryd.func19, Tryd.ntmps19
  go_wp2
  clear hmm
  go_loopw [9] (fun i wr => ∃ k : Nat, k ≤ l.length ∧ i = .int .i64 k ∧ ME wr w.heap.size k (mapE (l.take k)) ∧ Below w.heap.size w wr) (fun i _ => l.length - (intOf i).toNat)
  case atStart => exact ⟨0, Nat.zero_le _, rfl, ME_made w, balloc _ _⟩
  case round =>
    obtain ⟨k, hk, rfl, hme, hb⟩ := hrel
    have hsz := hb.size
    have HM := Lib.hid hme; have HB := Lib.hid hb; have hmlt := hme.lt; clear hme hb
    by_cases hlt : k < l.length
    · obtain ⟨b, off, ⟨x0, x1, x2, x3, x4, x5, x6⟩, rfl, hbB, hx, hc0, hc1, hc2, hc3, hc4, hc5, hc6⟩ := (HS.out.below (HB.out.mono hB)).at_ hlt
      dsimp only at hc0 hc1 hc2 hc3 hc4 hc5 hc6
      have HX := Lib.hid hx; clear hx
      go_wp2_with fail
      generalize hX : (wr.alloc (.cells #[.int .i64 x0, .int .i64 x1, .int .i64 x2, .int .i64 x3, .int .i64 x4, .int .i64 x5, .int .i64 x6] 40)) = w1
      have hb1 : Below wr.heap.size wr w1 := by rw [← hX]; exact balloc _ _
      have za : Has w1 wr.heap.size 40 #[.int .i64 x0, .int .i64 x1, .int .i64 x2, .int .i64 x3, .int .i64 x4, .int .i64 x5, .int .i64 x6] := by rw [← hX]; exact has_new _ _ _
      clear hX hc0 hc1 hc2 hc3 hc4 hc5 hc6
      have hzl := has_lt za
      have HM1 := Lib.hid (HM.out.call hb1); have HB1 := Lib.hid (HB.out.trans (hb1.mono hsz)); have hs1 := hb1.size; clear hb1 HM HB
      have t0 := has_cell za 0 rfl; have t1 := has_cell za 1 rfl; have t2 := has_cell za 2 rfl; have t3 := has_cell za 3 rfl; have t4 := has_cell za 4 rfl; have t5 := has_cell za 5 rfl; have t6 := has_cell za 6 rfl
      have S0 : (fun W : World => (W.cell? ⟨wr.heap.size, 0, none⟩ = some (.int .i64 x0) ∧ W.cell? ⟨wr.heap.size, 1, none⟩ = some (.int .i64 x1) ∧ W.cell? ⟨wr.heap.size, 2, none⟩ = some (.int .i64 x2) ∧ W.cell? ⟨wr.heap.size, 3, none⟩ = some (.int .i64 x3) ∧ W.cell? ⟨wr.heap.size, 4, none⟩ = some (.int .i64 x4) ∧ W.cell? ⟨wr.heap.size, 5, none⟩ = some (.int .i64 x5) ∧ W.cell? ⟨wr.heap.size, 6, none⟩ = some (.int .i64 x6))) w1.drew := ⟨t0, t1, t2, t3, t4, t5, t6⟩
      clear t0 t1 t2 t3 t4 t5 t6
      refine wp_region_held_drew (S := (fun W : World => (W.cell? ⟨wr.heap.size, 0, none⟩ = some (.int .i64 x0) ∧ W.cell? ⟨wr.heap.size, 1, none⟩ = some (.int .i64 x1) ∧ W.cell? ⟨wr.heap.size, 2, none⟩ = some (.int .i64 x2) ∧ W.cell? ⟨wr.heap.size, 3, none⟩ = some (.int .i64 x3) ∧ W.cell? ⟨wr.heap.size, 4, none⟩ = some (.int .i64 x4) ∧ W.cell? ⟨wr.heap.size, 5, none⟩ = some (.int .i64 x5) ∧ W.cell? ⟨wr.heap.size, 6, none⟩ = some (.int .i64 x6)))) (by kernel_rfl) S0 (fun _ => ?_)
      refine any_take (i := 0) (some 13) (.map (some w.heap.size)) rfl rfl (by kernel_rfl) (by kernel_rfl) (by kernel_rfl) (fun _ _ _ h => h) rfl (fun W hSw => ?_) (S0) ?_
      · (try dsimp only at hSw); go_simp <;> with_reducible rfl
      try simp only [Act.put, List.setIfInBounds_toArray, List.set_cons_zero, List.set_cons_succ]
      refine any_take (i := 1) (some 14) (.agg #[.int .i64 x0, .int .i64 x1, .int .i64 x2, .int .i64 x3, .int .i64 x4, .int .i64 x5, .int .i64 x6]) rfl rfl (by kernel_rfl) (by kernel_rfl) (by kernel_rfl) (fun _ _ _ h => h) rfl (fun W hSw => ?_) (S0) ?_
      · (try dsimp only at hSw); go_simp <;> with_reducible rfl
      try simp only [Act.put, List.setIfInBounds_toArray, List.set_cons_zero, List.set_cons_succ]
      refine any_take (i := 3) (some 16) (.agg #[.int .i64 x0, .int .i64 x1, .int .i64 x2, .int .i64 x3, .int .i64 x4, .int .i64 x5, .int .i64 x6]) rfl rfl (by kernel_rfl) (by kernel_rfl) (by kernel_rfl) (fun _ _ _ h => h) rfl (fun W hSw => ?_) (S0) ?_
      · (try dsimp only at hSw); go_simp <;> with_reducible rfl
      try simp only [Act.put, List.setIfInBounds_toArray, List.set_cons_zero, List.set_cons_succ]
      refine wpAnyH_ready (rs := [2]) (by kernel_rfl) (by simp) ?_
      refine AllReadyH.cons rfl (fun K hK => ?_) AllReadyH.nil
      go_simp
      go_at_call 29
      refine (nameOf_any w1.drew x0 x1 x2 x3 x4 x5 x6).mono ?_
      rintro e w2 ⟨rfl, hb2⟩
      have hb12 : Below w1.heap.size w1 w2 := ((Below.refl w1.heap.size w1).drew).trans hb2
      have S2 : (fun W : World => (W.cell? ⟨wr.heap.size, 0, none⟩ = some (.int .i64 x0) ∧ W.cell? ⟨wr.heap.size, 1, none⟩ = some (.int .i64 x1) ∧ W.cell? ⟨wr.heap.size, 2, none⟩ = some (.int .i64 x2) ∧ W.cell? ⟨wr.heap.size, 3, none⟩ = some (.int .i64 x3) ∧ W.cell? ⟨wr.heap.size, 4, none⟩ = some (.int .i64 x4) ∧ W.cell? ⟨wr.heap.size, 5, none⟩ = some (.int .i64 x5) ∧ W.cell? ⟨wr.heap.size, 6, none⟩ = some (.int .i64 x6))) w2 := ⟨(bold hb12 _ _ hzl).trans S0.1, (bold hb12 _ _ hzl).trans S0.2.1, (bold hb12 _ _ hzl).trans S0.2.2.1, (bold hb12 _ _ hzl).trans S0.2.2.2.1, (bold hb12 _ _ hzl).trans S0.2.2.2.2.1, (bold hb12 _ _ hzl).trans S0.2.2.2.2.2.1, (bold hb12 _ _ hzl).trans S0.2.2.2.2.2.2⟩
      go_wp2_with fail
      refine hK.out _ _ S2 (fun _ => ?_)
      clear hK K hb2
      try simp only [Act.put, List.setIfInBounds_toArray, List.set_cons_zero, List.set_cons_succ]
      have HM2 := Lib.hid (HM1.out.call hb12); have HB2 := Lib.hid (HB1.out.trans (hb12.mono (by omega))); have hs2 := hb12.size; clear HM1 HB1
      have hza2 := has_call za hb12
      refine wpAnyH_ready (rs := [4]) (by kernel_rfl) (by simp) ?_
      refine AllReadyH.cons rfl (fun K hK => ?_) AllReadyH.nil
      obtain ⟨w3, hr3, hm3, hg3⟩ := me_upd (x := ⟨x0, x1, x2, x3, x4, x5, x6⟩) HM2.out (by unfold maxLen; omega) (inN_ev (HQ.out _ (List.mem_of_getElem? HX.out)))
      refine step_upd rfl 41 _ _ _ rfl rfl rfl rfl hr3 ?_
      have S3 : (fun W : World => (W.cell? ⟨wr.heap.size, 0, none⟩ = some (.int .i64 x0) ∧ W.cell? ⟨wr.heap.size, 1, none⟩ = some (.int .i64 x1) ∧ W.cell? ⟨wr.heap.size, 2, none⟩ = some (.int .i64 x2) ∧ W.cell? ⟨wr.heap.size, 3, none⟩ = some (.int .i64 x3) ∧ W.cell? ⟨wr.heap.size, 4, none⟩ = some (.int .i64 x4) ∧ W.cell? ⟨wr.heap.size, 5, none⟩ = some (.int .i64 x5) ∧ W.cell? ⟨wr.heap.size, 6, none⟩ = some (.int .i64 x6))) w3 := ⟨has_cell (has_grown hza2 hg3 (by simp; omega)) 0 rfl, has_cell (has_grown hza2 hg3 (by simp; omega)) 1 rfl, has_cell (has_grown hza2 hg3 (by simp; omega)) 2 rfl, has_cell (has_grown hza2 hg3 (by simp; omega)) 3 rfl, has_cell (has_grown hza2 hg3 (by simp; omega)) 4 rfl, has_cell (has_grown hza2 hg3 (by simp; omega)) 5 rfl, has_cell (has_grown hza2 hg3 (by simp; omega)) 6 rfl⟩
      change K (Act.put _ none _) _
      refine hK.out _ _ S3 (fun _ => ?_)
      clear hK K
      try simp only [Act.put, List.setIfInBounds_toArray, List.set_cons_zero, List.set_cons_succ]
      have hb3 : Below w.heap.size w w3 := HB2.out.grown hg3 HB2.out.size (fun k hk => by injection hk with hk; omega)
      have HM3 := Lib.hid hm3; have HB3 := Lib.hid hb3; clear hm3 hg3 hr3 hb3 S0 S2 S3
      refine wpAnyH_done (by kernel_rfl) ?_ _
      go_wp2_with fail
      go_roundw
      case rel => exact ⟨k + 1, by omega, by go_num, by rw [mapE_take HX.out]; exact HM3.out, HB3.out⟩
      case measure => simp [intOf]; omega
    · have hkl : k = l.length := by omega
      subst hkl
      go_wp2
      go_ret
      exact ⟨rfl, by have h := HM.out; rw [List.take_length] at h; exact h, HB.out⟩
end Go.Proofs.YtdcejkompdbliaaDoor
