/- Chapter 5: the walk of l05Reach (gen_gru.py). -/
import Derived.Test.YtdaeljjjcgpcoaaGraT
import Derived.Deep.LoopGhost
import Derived.Deep.DeepMust
import Derived.Deep.RegionWith
import Derived.Outline
namespace Go.Proofs.Ytdaeljjjcgpcoaa
open Go.RowKit
set_option linter.unusedVariables false

/-- between two levels: h of them are there -/
def LvH (l : List Gr) (p t sp who : Int) (w : World) (h : Nat) (v : Value) (wr : World) : Prop := ∃ gs : List Nat, gs.length = h ∧ wr.ownsRow w.heap.size 46 1 v h (gs.map rowS) ∧ Levels wr w.heap.size gs l p t sp who ∧ Below w.heap.size w wr
/-- in a level: the row in block q has the first k grants -/
def LvK (l : List Gr) (p t sp who : Int) (w : World) (gs : List Nat) (h k q : Nat) (v : Value) (wr : World) : Prop := wr.ownsRow w.heap.size 46 1 v (h + 1) (gs.map rowS) ∧ Levels wr w.heap.size gs l p t sp who ∧ Has wr q 4 (rowV (rowF l p t sp who h k)) ∧ Below w.heap.size w wr
section
variable {l : List Gr} {p t sp who : Int} {w wr w' : World} {gs : List Nat} {h k q : Nat} {v : Value}
theorem own_kept2 {w w' : World} {base : Nat} {e : TypeId} {size n : Nat} {v : Value} {xs : List Value} (h : w.ownsRow base e size v n xs) (hb : Below w.heap.size w w') : w'.ownsRow base e size v n xs :=
  h.kept (row := none) ⟨hb.os, hb.tape, hb.output, hb.size, fun k hk _ => hb.block k hk⟩ (by cases v.ownBlock <;> simp)
theorem LvK.call (H : LvK l p t sp who w gs h k q v wr) (hb : Below wr.heap.size wr w') : LvK l p t sp who w gs h k q v w' :=
  ⟨own_kept2 H.1 hb, H.2.1.call hb, has_call H.2.2.1 hb, H.2.2.2.trans (hb.mono H.2.2.2.size)⟩
theorem LvK.same (H : LvK l p t sp who w gs h k q v wr) {m : Nat} (e : rowF l p t sp who h m = rowF l p t sp who h k) : LvK l p t sp who w gs h m q v wr := ⟨H.1, H.2.1, by rw [e]; exact H.2.2.1, H.2.2.2⟩
theorem LvK.put (H : LvK l p t sp who w gs h k q v wr) (hq : w.heap.size ≤ q) (hn : q ∉ gs) {m x : Nat} (e : (rowV (rowF l p t sp who h k)).setIfInBounds x (.bool true) = rowV (rowF l p t sp who h m)) : LvK l p t sp who w gs h m q v (wr.setCell ⟨q, x, none⟩ (.bool true)) := by
  have ho := only_set (only_refl wr q) x (.bool true)
  refine ⟨H.1.kept ho ?_, fun j g hj => ?_, by rw [← e]; exact has_set H.2.2.1 x _, H.2.2.2.setCell hq _⟩
  · right; intro e2
    obtain ⟨_, cur, hc⟩ : w.heap.size ≤ q ∧ ∃ cur, Has wr q 46 cur := by
      obtain ⟨_, ⟨rfl, _⟩ | ⟨g', cap, cur, rfl, h2, hh, _⟩⟩ := H.1
      · simp [Value.ownBlock] at e2
      · have : g' = q := by simpa [Value.ownBlock] using e2
        subst this; exact ⟨h2, cur, hh⟩
    have := hc.symm.trans H.2.2.1
    injection this with this; injection this with _ this _
    exact absurd this (by decide)
  · obtain ⟨h1, h2⟩ := H.2.1 j g hj
    exact ⟨h1, has_far h2 (fun e3 => hn (by rw [← show g = q from e3]; exact List.mem_of_getElem? hj)) _⟩
end
section
variable {P : Program} {ops : Array Oper} {Q : Exit → Act → World → Prop} {md : Region.Mode} {S : World → Prop}
theorem any_skip {i : Nat} {oi : Oper} (d : Option Tmp) {fuel : Nat} {listed : Array Bool} {a : Act} {w : World} (hi : ops[i]? = some oi) (hd : oi.dst = d)
    (hs : Region.noSelect ops = true) (hf : Region.free md ops listed i = true) (hr : (Region.ready md ops listed).contains i = true)
    (hQ : ∀ c a w, Q (.panic c) (a.put d undef) w → Q (.panic c) a w) (hy : Region.wanted oi (yielded ops a.tmps) = false) (hS : S w)
    (h : wpAnyH P md ops Q S fuel (listed.setIfInBounds i true) (a.put d undef) w) : wpAnyH P md ops Q S (fuel + 1) listed a w := by
  subst hd; exact wpAnyH_take hi hs hf hr hQ (Or.inr ⟨hy, rfl⟩) hS h
theorem any_take {i : Nat} {oi : Oper} (d : Option Tmp) (v : Value) {fuel : Nat} {listed : Array Bool} {a : Act} {w : World} (hi : ops[i]? = some oi) (hd : oi.dst = d)
    (hs : Region.noSelect ops = true) (hf : Region.free md ops listed i = true) (hr : (Region.ready md ops listed).contains i = true)
    (hQ : ∀ c a w, Q (.panic c) (a.put d v) w → Q (.panic c) a w) (hw : Region.wanted oi (yielded ops a.tmps) = true) (hy : ∀ w, S w → (execOp a.eval oi).run P w = .ok (.value v) w) (hS : S w)
    (h : wpAnyH P md ops Q S fuel (listed.setIfInBounds i true) (a.put d v) w) : wpAnyH P md ops Q S (fuel + 1) listed a w := by
  subst hd; exact wpAnyH_take hi hs hf hr hQ (Or.inl ⟨hw, hy⟩) hS h
end
theorem rh0_row (l : List Gr) (p t sp : Int) {kw : Nat} (hk : kw < 41) : (rowV fun _ => false).setIfInBounds kw (.bool true) = rowV (rhB l p t sp (kw : Int) 0) :=
  rowV_set _ _ hk (by simp [rhB]) (fun i hi hne => by simp [rhB]; omega)

set_option maxRecDepth 100000 in
set_option maxHeartbeats 16000000 in
theorem reach_any (w : World) (B : Nat) (A : Option Addr) (c : Nat) (l : List Gr) (p t sp who : Int) (hl : l.length ≤ 1048576) (hw : 1 ≤ who ∧ who ≤ 40) (hsp : 0 ≤ sp ∧ sp ≤ 5) (hB : B ≤ w.heap.size) (hS : grL w B A l) :
    Calls Try.prog 23 #[.slice A l.length c, .int .i64 who, .int .i64 p, .int .i64 t, .int .i64 sp] w (ReachAns l p t sp who w) := by
  have HS := Lib.hid hS; clear hS
  have hmk := make41
  obtain ⟨i0, hi0, hz0, hz1, hz2⟩ := info_parts rowInfo
  have I0 := Lib.hid hi0; have Z0 := Lib.hid hz0; have Z1 := Lib.hid hz1; have Z2 := Lib.hid hz2; clear hi0 hz0 hz1 hz2
  obtain ⟨kw, rfl⟩ := Int.eq_ofNat_of_zero_le (show 0 ≤ who by omega)
  have hrw := rowV_at (fun _ => false) (show kw < 41 by omega)
  have hlm : l.length ≤ maxLen := by unfold maxLen; omega
  unfold maxLen at hlm
  go_enter Try.func23, Try.ntmps23
  go_wp2_with fail
  clear hrw
  go_loopg [11, 12] 6 (fun g v i wr => ∃ h : Nat, h + 1 + g = 7 ∧ i = .int .i64 ((h : Int) + 1) ∧ LvH l p t sp kw w (h + 1) v wr)
  case atStart =>
    refine ⟨0, rfl, rfl, [w.heap.size], rfl, ?_, ?_, ?_⟩
    · have := World.ownsRow_lit (base := w.heap.size) (e := 46) (size := 1) (w.alloc (.cells ((rowV fun _ => false).setIfInBounds kw (.bool true)) 4)) #[rowS w.heap.size] 1 (by simp) (by decide) rfl
      simpa [rowS] using this
    · intro j g hj
      rcases j with _ | j
      · obtain rfl : w.heap.size = g := by simpa using hj
        exact ⟨Nat.le_refl _, by rw [← rh0_row l p t sp (by omega)]; exact has_alloc (has_new _ _ _) _⟩
      · simp at hj
    · exact (balloc w _).alloc (by simp) _
  case round =>
    obtain ⟨h, hhg, rfl, hlv⟩ := hrel
    obtain ⟨wo, rfl⟩ : ∃ wo : World, wo = wr := ⟨_, rfl⟩
    obtain ⟨gs, hgl, hown, hlev, hb⟩ := hlv
    obtain ⟨bv, cap, rfl, hbv1, hbv2⟩ := hown.form (by omega)
    have hsz := hb.size
    have HOWN := Lib.hid hown; have HLEV := Lib.hid hlev; have HB := Lib.hid hb; have HGL := Lib.hid hgl; clear hown hlev hb hgl
    by_cases h6 : h + 1 ≤ 6
    · have hi1 : (h : Int) + 1 ≤ 6 := by omega
      have D1 := Lib.hid (show decide ((h : Int) + 1 ≤ 6) = true from decide_eq_true hi1)
      have H6 := Lib.hid h6; clear h6
      go_wp2_with fail
      have H0 := Lib.hid (show LvK l p t sp kw w gs h 0 wo.heap.size (.slice (some ⟨bv, 0, none⟩) (h + 1) cap) (wo.alloc (.cells (rowV fun _ => false) 4)) from
        ⟨HOWN.out.alloc _, HLEV.out.call (balloc _ _), by rw [rowF_zero]; exact has_new _ _ _, HB.out.alloc hsz _⟩)
      have hq : wo.heap.size ∉ gs := fun hm => by
        obtain ⟨j, hj, e⟩ := List.getElem_of_mem hm
        have := has_lt (HLEV.out j wo.heap.size (by rw [List.getElem?_eq_getElem hj, e])).2
        omega
      have HQ := Lib.hid hq; clear hq
      generalize hqq : wo.heap.size = q at H0 HQ hsz hbv2 ⊢
      have HQQ := Lib.hid hqq; clear hqq; have hqw := hsz
      go_loopw [14] (fun i wr => ∃ k : Nat, k ≤ l.length ∧ i = .int .i64 k ∧ LvK l p t sp kw w gs h k q (.slice (some ⟨bv, 0, none⟩) (h + 1) cap) wr) (fun i _ => l.length - (intOf i).toNat)
      case atStart => exact ⟨0, Nat.zero_le _, rfl, H0.out⟩
      case round =>
        clear H0
        obtain ⟨k, hk, rfl, hlk⟩ := hrel
        have hbw := hlk.2.2.2
        have hsr := hbw.size
        have HLK := Lib.hid hlk; clear hlk
        by_cases hlt : k < l.length
        · obtain ⟨b, off, ⟨x0, x1, x2, x3, x4, x5, x6⟩, rfl, hbB, hx, hc0, hc1, hc2, hc3, hc4, hc5, hc6⟩ := (HS.out.later hB hbw).at_ hlt
          have HX := Lib.hid hx; clear hx
          have HBW := Lib.hid hbw; clear hbw
          dsimp only at hc0 hc1 hc2 hc3 hc4 hc5 hc6
          have hh1 : ((h + 1 : Nat) : Int) - 1 = (h : Int) := by omega
          cases ha : appB p t ⟨x0, x1, x2, x3, x4, x5, x6⟩
          · have HA := Lib.hid ha
            have HSK := Lib.hid (show (appB p t ⟨x0, x1, x2, x3, x4, x5, x6⟩ && decide ((h : Int) + sp ≤ x3) && rhB l p t sp kw h x1) = false by rw [ha]; rfl); clear ha
            go_wp2_with fail
            generalize hW : (wr.alloc (.cells #[.int .i64 x0, .int .i64 x1, .int .i64 x2, .int .i64 x3, .int .i64 x4, .int .i64 x5, .bool x6] 35)) = wq
            have hbq : Below wr.heap.size wr wq := by rw [← hW]; exact balloc _ _
            have kb : Has wq wr.heap.size 35 #[.int .i64 x0, .int .i64 x1, .int .i64 x2, .int .i64 x3, .int .i64 x4, .int .i64 x5, .bool x6] := by rw [← hW]; exact has_new _ _ _
            clear hW
            have hszq := hbq.size; have hltb := has_lt kb
            have HK2 := Lib.hid (HLK.out.call hbq); have HBQ := Lib.hid (HBW.out.trans (hbq.mono hsr)); have KB := Lib.hid kb
            have s0 := has_cell kb 0 rfl; have s1 := has_cell kb 1 rfl; have s2 := has_cell kb 2 rfl; have s3 := has_cell kb 3 rfl; have s4 := has_cell kb 4 rfl; have s5 := has_cell kb 5 rfl; have s6 := has_cell kb 6 rfl
            clear kb hbq
            have S0 : (fun W : World => (W.cell? ⟨wr.heap.size, 0, none⟩ = some (.int .i64 x0) ∧ W.cell? ⟨wr.heap.size, 1, none⟩ = some (.int .i64 x1) ∧ W.cell? ⟨wr.heap.size, 2, none⟩ = some (.int .i64 x2) ∧ W.cell? ⟨wr.heap.size, 3, none⟩ = some (.int .i64 x3) ∧ W.cell? ⟨wr.heap.size, 4, none⟩ = some (.int .i64 x4) ∧ W.cell? ⟨wr.heap.size, 5, none⟩ = some (.int .i64 x5) ∧ W.cell? ⟨wr.heap.size, 6, none⟩ = some (.bool x6)) ∧ Below wq.heap.size wq W) wq.drew := ⟨⟨s0, s1, s2, s3, s4, s5, s6⟩, (Below.refl _ _).drew⟩
            clear s0 s1 s2 s3 s4 s5 s6
            refine wp_region_held_drew (S := (fun W : World => (W.cell? ⟨wr.heap.size, 0, none⟩ = some (.int .i64 x0) ∧ W.cell? ⟨wr.heap.size, 1, none⟩ = some (.int .i64 x1) ∧ W.cell? ⟨wr.heap.size, 2, none⟩ = some (.int .i64 x2) ∧ W.cell? ⟨wr.heap.size, 3, none⟩ = some (.int .i64 x3) ∧ W.cell? ⟨wr.heap.size, 4, none⟩ = some (.int .i64 x4) ∧ W.cell? ⟨wr.heap.size, 5, none⟩ = some (.int .i64 x5) ∧ W.cell? ⟨wr.heap.size, 6, none⟩ = some (.bool x6)) ∧ Below wq.heap.size wq W)) (by kernel_rfl) S0 (fun _ => ?_)
            refine any_take (i := 0) (some 38) (.agg #[.int .i64 x0, .int .i64 x1, .int .i64 x2, .int .i64 x3, .int .i64 x4, .int .i64 x5, .bool x6]) rfl rfl (by kernel_rfl) (by kernel_rfl) (by kernel_rfl) (fun _ _ _ h => h) rfl (fun W hSw => ?_) (S0) ?_
            · (try dsimp only at hSw); go_simp <;> with_reducible rfl
            try simp only [Act.put, List.setIfInBounds_toArray, List.set_cons_zero, List.set_cons_succ]
            refine any_take (i := 1) (some 39) (.int .i64 p) rfl rfl (by kernel_rfl) (by kernel_rfl) (by kernel_rfl) (fun _ _ _ h => h) rfl (fun W hSw => ?_) (S0) ?_
            · (try dsimp only at hSw); go_simp <;> with_reducible rfl
            try simp only [Act.put, List.setIfInBounds_toArray, List.set_cons_zero, List.set_cons_succ]
            refine any_take (i := 2) (some 40) (.int .i64 t) rfl rfl (by kernel_rfl) (by kernel_rfl) (by kernel_rfl) (fun _ _ _ h => h) rfl (fun W hSw => ?_) (S0) ?_
            · (try dsimp only at hSw); go_simp <;> with_reducible rfl
            try simp only [Act.put, List.setIfInBounds_toArray, List.set_cons_zero, List.set_cons_succ]
            refine wpAnyH_ready (rs := [3]) (by kernel_rfl) (by simp) ?_
            refine AllReadyH.cons rfl (fun K hK => ?_) AllReadyH.nil
            go_simp
            go_at_call 25
            refine (appS_any _ x0 x1 x2 x3 x4 x5 x6 p t).mono ?_
            rintro e w9 ⟨rfl, hb8⟩
            rw [HA.out]
            have hb9 : Below wq.heap.size wq w9 := ((Below.refl wq.heap.size wq).drew).trans hb8
            clear hb8
            have S9 : (fun W : World => (W.cell? ⟨wr.heap.size, 0, none⟩ = some (.int .i64 x0) ∧ W.cell? ⟨wr.heap.size, 1, none⟩ = some (.int .i64 x1) ∧ W.cell? ⟨wr.heap.size, 2, none⟩ = some (.int .i64 x2) ∧ W.cell? ⟨wr.heap.size, 3, none⟩ = some (.int .i64 x3) ∧ W.cell? ⟨wr.heap.size, 4, none⟩ = some (.int .i64 x4) ∧ W.cell? ⟨wr.heap.size, 5, none⟩ = some (.int .i64 x5) ∧ W.cell? ⟨wr.heap.size, 6, none⟩ = some (.bool x6)) ∧ Below wq.heap.size wq W) w9 := ⟨⟨(bold hb9 _ _ hltb).trans S0.1.1, (bold hb9 _ _ hltb).trans S0.1.2.1, (bold hb9 _ _ hltb).trans S0.1.2.2.1, (bold hb9 _ _ hltb).trans S0.1.2.2.2.1, (bold hb9 _ _ hltb).trans S0.1.2.2.2.2.1, (bold hb9 _ _ hltb).trans S0.1.2.2.2.2.2.1, (bold hb9 _ _ hltb).trans S0.1.2.2.2.2.2.2⟩, hb9⟩
            go_wp2_with fail
            refine hK.out _ _ S9 (fun _ => ?_)
            clear hK K
            try simp only [Act.put, List.setIfInBounds_toArray, List.set_cons_zero, List.set_cons_succ]
            refine any_take (i := 4) (some 42) (.bool false) rfl rfl (by kernel_rfl) (by kernel_rfl) (by kernel_rfl) (fun _ _ _ h => h) rfl (fun W hSw => ?_) (S9) ?_
            · (try dsimp only at hSw); go_simp <;> with_reducible rfl
            try simp only [Act.put, List.setIfInBounds_toArray, List.set_cons_zero, List.set_cons_succ]
            refine any_skip (i := 5) (some 43) rfl rfl (by kernel_rfl) (by kernel_rfl) (by kernel_rfl) (fun _ _ _ h => h) rfl (S9) ?_
            try simp only [Act.put, List.setIfInBounds_toArray, List.set_cons_zero, List.set_cons_succ]
            refine any_skip (i := 6) (some 44) rfl rfl (by kernel_rfl) (by kernel_rfl) (by kernel_rfl) (fun _ _ _ h => h) rfl (S9) ?_
            try simp only [Act.put, List.setIfInBounds_toArray, List.set_cons_zero, List.set_cons_succ]
            refine any_skip (i := 7) (some 45) rfl rfl (by kernel_rfl) (by kernel_rfl) (by kernel_rfl) (fun _ _ _ h => h) rfl (S9) ?_
            try simp only [Act.put, List.setIfInBounds_toArray, List.set_cons_zero, List.set_cons_succ]
            refine any_skip (i := 8) (some 46) rfl rfl (by kernel_rfl) (by kernel_rfl) (by kernel_rfl) (fun _ _ _ h => h) rfl (S9) ?_
            try simp only [Act.put, List.setIfInBounds_toArray, List.set_cons_zero, List.set_cons_succ]
            refine any_skip (i := 9) (some 47) rfl rfl (by kernel_rfl) (by kernel_rfl) (by kernel_rfl) (fun _ _ _ h => h) rfl (S9) ?_
            try simp only [Act.put, List.setIfInBounds_toArray, List.set_cons_zero, List.set_cons_succ]
            refine any_skip (i := 10) (some 48) rfl rfl (by kernel_rfl) (by kernel_rfl) (by kernel_rfl) (fun _ _ _ h => h) rfl (S9) ?_
            try simp only [Act.put, List.setIfInBounds_toArray, List.set_cons_zero, List.set_cons_succ]
            refine any_skip (i := 11) (some 49) rfl rfl (by kernel_rfl) (by kernel_rfl) (by kernel_rfl) (fun _ _ _ h => h) rfl (S9) ?_
            try simp only [Act.put, List.setIfInBounds_toArray, List.set_cons_zero, List.set_cons_succ]
            refine any_take (i := 12) (some 50) (.bool false) rfl rfl (by kernel_rfl) (by kernel_rfl) (by kernel_rfl) (fun _ _ _ h => h) rfl (fun W hSw => ?_) (S9) ?_
            · (try dsimp only at hSw); go_simp <;> with_reducible rfl
            try simp only [Act.put, List.setIfInBounds_toArray, List.set_cons_zero, List.set_cons_succ]
            refine any_take (i := 13) (some 51) (.bool false) rfl rfl (by kernel_rfl) (by kernel_rfl) (by kernel_rfl) (fun _ _ _ h => h) rfl (fun W hSw => ?_) (S9) ?_
            · (try dsimp only at hSw); go_simp <;> with_reducible rfl
            try simp only [Act.put, List.setIfInBounds_toArray, List.set_cons_zero, List.set_cons_succ]
            refine any_skip (i := 14) (some 52) rfl rfl (by kernel_rfl) (by kernel_rfl) (by kernel_rfl) (fun _ _ _ h => h) rfl (S9) ?_
            try simp only [Act.put, List.setIfInBounds_toArray, List.set_cons_zero, List.set_cons_succ]
            refine any_skip (i := 15) (some 53) rfl rfl (by kernel_rfl) (by kernel_rfl) (by kernel_rfl) (fun _ _ _ h => h) rfl (S9) ?_
            try simp only [Act.put, List.setIfInBounds_toArray, List.set_cons_zero, List.set_cons_succ]
            refine any_skip (i := 16) (some 54) rfl rfl (by kernel_rfl) (by kernel_rfl) (by kernel_rfl) (fun _ _ _ h => h) rfl (S9) ?_
            try simp only [Act.put, List.setIfInBounds_toArray, List.set_cons_zero, List.set_cons_succ]
            refine any_skip (i := 17) (some 55) rfl rfl (by kernel_rfl) (by kernel_rfl) (by kernel_rfl) (fun _ _ _ h => h) rfl (S9) ?_
            try simp only [Act.put, List.setIfInBounds_toArray, List.set_cons_zero, List.set_cons_succ]
            refine any_skip (i := 18) (some 56) rfl rfl (by kernel_rfl) (by kernel_rfl) (by kernel_rfl) (fun _ _ _ h => h) rfl (S9) ?_
            try simp only [Act.put, List.setIfInBounds_toArray, List.set_cons_zero, List.set_cons_succ]
            refine any_skip (i := 19) (some 57) rfl rfl (by kernel_rfl) (by kernel_rfl) (by kernel_rfl) (fun _ _ _ h => h) rfl (S9) ?_
            try simp only [Act.put, List.setIfInBounds_toArray, List.set_cons_zero, List.set_cons_succ]
            refine any_skip (i := 20) (some 58) rfl rfl (by kernel_rfl) (by kernel_rfl) (by kernel_rfl) (fun _ _ _ h => h) rfl (S9) ?_
            try simp only [Act.put, List.setIfInBounds_toArray, List.set_cons_zero, List.set_cons_succ]
            refine any_skip (i := 21) (some 59) rfl rfl (by kernel_rfl) (by kernel_rfl) (by kernel_rfl) (fun _ _ _ h => h) rfl (S9) ?_
            try simp only [Act.put, List.setIfInBounds_toArray, List.set_cons_zero, List.set_cons_succ]
            refine any_skip (i := 22) (some 60) rfl rfl (by kernel_rfl) (by kernel_rfl) (by kernel_rfl) (fun _ _ _ h => h) rfl (S9) ?_
            try simp only [Act.put, List.setIfInBounds_toArray, List.set_cons_zero, List.set_cons_succ]
            refine any_take (i := 23) (some 61) (.bool false) rfl rfl (by kernel_rfl) (by kernel_rfl) (by kernel_rfl) (fun _ _ _ h => h) rfl (fun W hSw => ?_) (S9) ?_
            · (try dsimp only at hSw); go_simp <;> with_reducible rfl
            try simp only [Act.put, List.setIfInBounds_toArray, List.set_cons_zero, List.set_cons_succ]
            refine wpAnyH_done (by kernel_rfl) ?_ _
            clear S0 S9
            have HK9 := Lib.hid (HK2.out.call hb9)
            clear hb9 HK2 HBQ KB HLK HBW
            go_wp2
            go_roundw
            case rel => exact ⟨k + 1, by omega, by go_num, HK9.out.same (rowF_skip HX.out HSK.out)⟩
            case measure => simp [intOf]; omega
          · have hgr := grantB_facts (appB_ok ha)
            dsimp only at hgr
            obtain ⟨k0, rfl⟩ := Int.eq_ofNat_of_zero_le (show 0 ≤ x0 by omega)
            obtain ⟨k1, rfl⟩ := Int.eq_ofNat_of_zero_le (show 0 ≤ x1 by omega)
            have hk0 : k0 < 41 := by omega
            have hk1 : k1 < 41 := by omega
            clear hgr
            have HA := Lib.hid ha; clear ha
            by_cases hd : (h : Int) + sp ≤ x3
            · obtain ⟨gj, hgj⟩ : ∃ gj, gs[h]? = some gj := ⟨_, List.getElem?_eq_getElem (by rw [HGL.out]; omega)⟩
              have HGJ := Lib.hid hgj; clear hgj
              cases hr : rhB l p t sp kw h (k1 : Int)
              · have HR := Lib.hid hr
                have HSK := Lib.hid (show (appB p t ⟨(k0 : Int), (k1 : Int), x2, x3, x4, x5, x6⟩ && decide ((h : Int) + sp ≤ x3) && rhB l p t sp kw h (k1 : Int)) = false by rw [hr]; simp); clear hr
                go_wp2_with fail
                generalize hW : (wr.alloc (.cells #[.int .i64 (k0 : Int), .int .i64 (k1 : Int), .int .i64 x2, .int .i64 x3, .int .i64 x4, .int .i64 x5, .bool x6] 35)) = wq
                have hbq : Below wr.heap.size wr wq := by rw [← hW]; exact balloc _ _
                have kb : Has wq wr.heap.size 35 #[.int .i64 (k0 : Int), .int .i64 (k1 : Int), .int .i64 x2, .int .i64 x3, .int .i64 x4, .int .i64 x5, .bool x6] := by rw [← hW]; exact has_new _ _ _
                clear hW
                have hszq := hbq.size; have hltb := has_lt kb
                have HK2 := Lib.hid (HLK.out.call hbq); have HBQ := Lib.hid (HBW.out.trans (hbq.mono hsr)); have KB := Lib.hid kb
                have s0 := has_cell kb 0 rfl; have s1 := has_cell kb 1 rfl; have s2 := has_cell kb 2 rfl; have s3 := has_cell kb 3 rfl; have s4 := has_cell kb 4 rfl; have s5 := has_cell kb 5 rfl; have s6 := has_cell kb 6 rfl
                have s7 := HK2.out.1.cellAt h (by omega)
                rw [List.getElem?_map, HGJ.out] at s7
                have s7b : wq.cell? ⟨bv, h, none⟩ = some (.slice (some ⟨gj, 0, none⟩) 41 41) := s7
                have hgjH := (HK2.out.2.1 h gj HGJ.out).2
                have s8 := has_cell hgjH k1 (rowV_at _ (by omega))
                rw [HR.out] at s8
                have hltj := has_lt hgjH; have hqr := has_lt HLK.out.2.2.1; have hltv : bv < wq.heap.size := by omega
                clear s7 hgjH; have s7 := s7b; clear s7b
                have hdd : decide ((h : Int) + sp ≤ x3) = true := decide_eq_true hd
                clear kb hbq
                have S0 : (fun W : World => (W.cell? ⟨wr.heap.size, 0, none⟩ = some (.int .i64 (k0 : Int)) ∧ W.cell? ⟨wr.heap.size, 1, none⟩ = some (.int .i64 (k1 : Int)) ∧ W.cell? ⟨wr.heap.size, 2, none⟩ = some (.int .i64 x2) ∧ W.cell? ⟨wr.heap.size, 3, none⟩ = some (.int .i64 x3) ∧ W.cell? ⟨wr.heap.size, 4, none⟩ = some (.int .i64 x4) ∧ W.cell? ⟨wr.heap.size, 5, none⟩ = some (.int .i64 x5) ∧ W.cell? ⟨wr.heap.size, 6, none⟩ = some (.bool x6) ∧ W.cell? ⟨bv, h, none⟩ = some (.slice (some ⟨gj, 0, none⟩) 41 41) ∧ W.cell? ⟨gj, k1, none⟩ = some (.bool false)) ∧ Below wq.heap.size wq W) wq.drew := ⟨⟨s0, s1, s2, s3, s4, s5, s6, s7, s8⟩, (Below.refl _ _).drew⟩
                clear s0 s1 s2 s3 s4 s5 s6 s7 s8
                have sA : IntKind.i64.wrap ((h : Int) + 1 - 1) = (h : Int) := by rw [IntWalk.i64_in _ (by omega)]; omega
                have sB : IntKind.i64.wrap (h : Int) = (h : Int) := IntWalk.i64_in _ (by omega)
                have sC : IntKind.i64.wrap ((h : Int) + sp) = (h : Int) + sp := IntWalk.i64_in _ (by omega)
                have sD : (0 : Int) ≤ (h : Int) := (by omega); have sE : h < h + 1 := Nat.lt_succ_self h; have sF : (h : Int) < (h : Int) + 1 := (by omega); have sG : (k1 : Int) < 41 := (by omega); have sH : (0 : Int) ≤ (k1 : Int) := (by omega)
                go_region_held3 (fun W : World => (W.cell? ⟨wr.heap.size, 0, none⟩ = some (.int .i64 (k0 : Int)) ∧ W.cell? ⟨wr.heap.size, 1, none⟩ = some (.int .i64 (k1 : Int)) ∧ W.cell? ⟨wr.heap.size, 2, none⟩ = some (.int .i64 x2) ∧ W.cell? ⟨wr.heap.size, 3, none⟩ = some (.int .i64 x3) ∧ W.cell? ⟨wr.heap.size, 4, none⟩ = some (.int .i64 x4) ∧ W.cell? ⟨wr.heap.size, 5, none⟩ = some (.int .i64 x5) ∧ W.cell? ⟨wr.heap.size, 6, none⟩ = some (.bool x6) ∧ W.cell? ⟨bv, h, none⟩ = some (.slice (some ⟨gj, 0, none⟩) 41 41) ∧ W.cell? ⟨gj, k1, none⟩ = some (.bool false)) ∧ Below wq.heap.size wq W) (first | assumption) (first | (go_at_call 25; go_must (refine (appS_any _ (k0 : Int) (k1 : Int) x2 x3 x4 x5 x6 p t).mono ?_); rintro e w9 ⟨rfl, hb8⟩; rw [HA.out]; have hb9 : Below wq.heap.size wq w9 := ((Below.refl wq.heap.size wq).drew).trans hb8; clear hb8; have S9 : (fun W : World => (W.cell? ⟨wr.heap.size, 0, none⟩ = some (.int .i64 (k0 : Int)) ∧ W.cell? ⟨wr.heap.size, 1, none⟩ = some (.int .i64 (k1 : Int)) ∧ W.cell? ⟨wr.heap.size, 2, none⟩ = some (.int .i64 x2) ∧ W.cell? ⟨wr.heap.size, 3, none⟩ = some (.int .i64 x3) ∧ W.cell? ⟨wr.heap.size, 4, none⟩ = some (.int .i64 x4) ∧ W.cell? ⟨wr.heap.size, 5, none⟩ = some (.int .i64 x5) ∧ W.cell? ⟨wr.heap.size, 6, none⟩ = some (.bool x6) ∧ W.cell? ⟨bv, h, none⟩ = some (.slice (some ⟨gj, 0, none⟩) 41 41) ∧ W.cell? ⟨gj, k1, none⟩ = some (.bool false)) ∧ Below wq.heap.size wq W) w9 := ⟨⟨(bold hb9 _ _ hltb).trans S0.1.1, (bold hb9 _ _ hltb).trans S0.1.2.1, (bold hb9 _ _ hltb).trans S0.1.2.2.1, (bold hb9 _ _ hltb).trans S0.1.2.2.2.1, (bold hb9 _ _ hltb).trans S0.1.2.2.2.2.1, (bold hb9 _ _ hltb).trans S0.1.2.2.2.2.2.1, (bold hb9 _ _ hltb).trans S0.1.2.2.2.2.2.2.1, (bold hb9 _ _ hltv).trans S0.1.2.2.2.2.2.2.2.1, (bold hb9 _ _ hltj).trans S0.1.2.2.2.2.2.2.2.2⟩, hb9⟩))
                clear S0 S9 sA sB sC sD sE sF sG sH
                have HK9 := Lib.hid (HK2.out.call hb9)
                clear hb9 HK2 HBQ KB HLK HBW
                go_wp2
                go_roundw
                case rel => exact ⟨k + 1, by omega, by go_num, HK9.out.same (rowF_skip HX.out HSK.out)⟩
                case measure => simp [intOf]; omega
              · have HR := Lib.hid hr; have HRH := Lib.hid hr; clear hr
                go_wp2_with fail
                generalize hW : (wr.alloc (.cells #[.int .i64 (k0 : Int), .int .i64 (k1 : Int), .int .i64 x2, .int .i64 x3, .int .i64 x4, .int .i64 x5, .bool x6] 35)) = wq
                have hbq : Below wr.heap.size wr wq := by rw [← hW]; exact balloc _ _
                have kb : Has wq wr.heap.size 35 #[.int .i64 (k0 : Int), .int .i64 (k1 : Int), .int .i64 x2, .int .i64 x3, .int .i64 x4, .int .i64 x5, .bool x6] := by rw [← hW]; exact has_new _ _ _
                clear hW
                have hszq := hbq.size; have hltb := has_lt kb
                have HK2 := Lib.hid (HLK.out.call hbq); have HBQ := Lib.hid (HBW.out.trans (hbq.mono hsr)); have KB := Lib.hid kb
                have s0 := has_cell kb 0 rfl; have s1 := has_cell kb 1 rfl; have s2 := has_cell kb 2 rfl; have s3 := has_cell kb 3 rfl; have s4 := has_cell kb 4 rfl; have s5 := has_cell kb 5 rfl; have s6 := has_cell kb 6 rfl
                have s7 := HK2.out.1.cellAt h (by omega)
                rw [List.getElem?_map, HGJ.out] at s7
                have s7b : wq.cell? ⟨bv, h, none⟩ = some (.slice (some ⟨gj, 0, none⟩) 41 41) := s7
                have hgjH := (HK2.out.2.1 h gj HGJ.out).2
                have s8 := has_cell hgjH k1 (rowV_at _ (by omega))
                rw [HR.out] at s8
                have hltj := has_lt hgjH; have hqr := has_lt HLK.out.2.2.1; have hltv : bv < wq.heap.size := by omega
                clear s7 hgjH; have s7 := s7b; clear s7b
                have hdd : decide ((h : Int) + sp ≤ x3) = true := decide_eq_true hd
                clear kb hbq
                have S0 : (fun W : World => (W.cell? ⟨wr.heap.size, 0, none⟩ = some (.int .i64 (k0 : Int)) ∧ W.cell? ⟨wr.heap.size, 1, none⟩ = some (.int .i64 (k1 : Int)) ∧ W.cell? ⟨wr.heap.size, 2, none⟩ = some (.int .i64 x2) ∧ W.cell? ⟨wr.heap.size, 3, none⟩ = some (.int .i64 x3) ∧ W.cell? ⟨wr.heap.size, 4, none⟩ = some (.int .i64 x4) ∧ W.cell? ⟨wr.heap.size, 5, none⟩ = some (.int .i64 x5) ∧ W.cell? ⟨wr.heap.size, 6, none⟩ = some (.bool x6) ∧ W.cell? ⟨bv, h, none⟩ = some (.slice (some ⟨gj, 0, none⟩) 41 41) ∧ W.cell? ⟨gj, k1, none⟩ = some (.bool true)) ∧ Below wq.heap.size wq W) wq.drew := ⟨⟨s0, s1, s2, s3, s4, s5, s6, s7, s8⟩, (Below.refl _ _).drew⟩
                clear s0 s1 s2 s3 s4 s5 s6 s7 s8
                have sA : IntKind.i64.wrap ((h : Int) + 1 - 1) = (h : Int) := by rw [IntWalk.i64_in _ (by omega)]; omega
                have sB : IntKind.i64.wrap (h : Int) = (h : Int) := IntWalk.i64_in _ (by omega)
                have sC : IntKind.i64.wrap ((h : Int) + sp) = (h : Int) + sp := IntWalk.i64_in _ (by omega)
                have sD : (0 : Int) ≤ (h : Int) := (by omega); have sE : h < h + 1 := Nat.lt_succ_self h; have sF : (h : Int) < (h : Int) + 1 := (by omega); have sG : (k1 : Int) < 41 := (by omega); have sH : (0 : Int) ≤ (k1 : Int) := (by omega)
                go_region_held3 (fun W : World => (W.cell? ⟨wr.heap.size, 0, none⟩ = some (.int .i64 (k0 : Int)) ∧ W.cell? ⟨wr.heap.size, 1, none⟩ = some (.int .i64 (k1 : Int)) ∧ W.cell? ⟨wr.heap.size, 2, none⟩ = some (.int .i64 x2) ∧ W.cell? ⟨wr.heap.size, 3, none⟩ = some (.int .i64 x3) ∧ W.cell? ⟨wr.heap.size, 4, none⟩ = some (.int .i64 x4) ∧ W.cell? ⟨wr.heap.size, 5, none⟩ = some (.int .i64 x5) ∧ W.cell? ⟨wr.heap.size, 6, none⟩ = some (.bool x6) ∧ W.cell? ⟨bv, h, none⟩ = some (.slice (some ⟨gj, 0, none⟩) 41 41) ∧ W.cell? ⟨gj, k1, none⟩ = some (.bool true)) ∧ Below wq.heap.size wq W) (first | assumption) (first | (go_at_call 25; go_must (refine (appS_any _ (k0 : Int) (k1 : Int) x2 x3 x4 x5 x6 p t).mono ?_); rintro e w9 ⟨rfl, hb8⟩; rw [HA.out]; have hb9 : Below wq.heap.size wq w9 := ((Below.refl wq.heap.size wq).drew).trans hb8; clear hb8; have S9 : (fun W : World => (W.cell? ⟨wr.heap.size, 0, none⟩ = some (.int .i64 (k0 : Int)) ∧ W.cell? ⟨wr.heap.size, 1, none⟩ = some (.int .i64 (k1 : Int)) ∧ W.cell? ⟨wr.heap.size, 2, none⟩ = some (.int .i64 x2) ∧ W.cell? ⟨wr.heap.size, 3, none⟩ = some (.int .i64 x3) ∧ W.cell? ⟨wr.heap.size, 4, none⟩ = some (.int .i64 x4) ∧ W.cell? ⟨wr.heap.size, 5, none⟩ = some (.int .i64 x5) ∧ W.cell? ⟨wr.heap.size, 6, none⟩ = some (.bool x6) ∧ W.cell? ⟨bv, h, none⟩ = some (.slice (some ⟨gj, 0, none⟩) 41 41) ∧ W.cell? ⟨gj, k1, none⟩ = some (.bool true)) ∧ Below wq.heap.size wq W) w9 := ⟨⟨(bold hb9 _ _ hltb).trans S0.1.1, (bold hb9 _ _ hltb).trans S0.1.2.1, (bold hb9 _ _ hltb).trans S0.1.2.2.1, (bold hb9 _ _ hltb).trans S0.1.2.2.2.1, (bold hb9 _ _ hltb).trans S0.1.2.2.2.2.1, (bold hb9 _ _ hltb).trans S0.1.2.2.2.2.2.1, (bold hb9 _ _ hltb).trans S0.1.2.2.2.2.2.2.1, (bold hb9 _ _ hltv).trans S0.1.2.2.2.2.2.2.2.1, (bold hb9 _ _ hltj).trans S0.1.2.2.2.2.2.2.2.2⟩, hb9⟩))
                clear S0 S9 sA sB sC sD sE sF sG sH
                have HK9 := Lib.hid (HK2.out.call hb9)
                have kb9 := has_call KB.out hb9; have u0 := has_cell kb9 0 rfl
                have hq9 := HK9.out.2.2.1; have u1 := has_cell hq9 k0 (rowV_at _ (by omega)); have u2 := has_free hq9 k0
                clear hb9 HK2 HBQ KB HLK HBW kb9 hq9
                go_wp2
                go_roundw
                case rel => exact ⟨k + 1, by omega, by go_num, HK9.out.put hqw HQ.out (rowF_hit HX.out HA.out hd HRH.out rfl (by omega))⟩
                case measure => simp [intOf]; omega
            · have HSK := Lib.hid (show (appB p t ⟨(k0 : Int), (k1 : Int), x2, x3, x4, x5, x6⟩ && decide ((h : Int) + sp ≤ x3) && rhB l p t sp kw h (k1 : Int)) = false by rw [decide_eq_false hd]; simp)
              go_wp2_with fail
              generalize hW : (wr.alloc (.cells #[.int .i64 (k0 : Int), .int .i64 (k1 : Int), .int .i64 x2, .int .i64 x3, .int .i64 x4, .int .i64 x5, .bool x6] 35)) = wq
              have hbq : Below wr.heap.size wr wq := by rw [← hW]; exact balloc _ _
              have kb : Has wq wr.heap.size 35 #[.int .i64 (k0 : Int), .int .i64 (k1 : Int), .int .i64 x2, .int .i64 x3, .int .i64 x4, .int .i64 x5, .bool x6] := by rw [← hW]; exact has_new _ _ _
              clear hW
              have hszq := hbq.size; have hltb := has_lt kb
              have HK2 := Lib.hid (HLK.out.call hbq); have HBQ := Lib.hid (HBW.out.trans (hbq.mono hsr)); have KB := Lib.hid kb
              have s0 := has_cell kb 0 rfl; have s1 := has_cell kb 1 rfl; have s2 := has_cell kb 2 rfl; have s3 := has_cell kb 3 rfl; have s4 := has_cell kb 4 rfl; have s5 := has_cell kb 5 rfl; have s6 := has_cell kb 6 rfl
              clear kb hbq
              have S0 : (fun W : World => (W.cell? ⟨wr.heap.size, 0, none⟩ = some (.int .i64 (k0 : Int)) ∧ W.cell? ⟨wr.heap.size, 1, none⟩ = some (.int .i64 (k1 : Int)) ∧ W.cell? ⟨wr.heap.size, 2, none⟩ = some (.int .i64 x2) ∧ W.cell? ⟨wr.heap.size, 3, none⟩ = some (.int .i64 x3) ∧ W.cell? ⟨wr.heap.size, 4, none⟩ = some (.int .i64 x4) ∧ W.cell? ⟨wr.heap.size, 5, none⟩ = some (.int .i64 x5) ∧ W.cell? ⟨wr.heap.size, 6, none⟩ = some (.bool x6)) ∧ Below wq.heap.size wq W) wq.drew := ⟨⟨s0, s1, s2, s3, s4, s5, s6⟩, (Below.refl _ _).drew⟩
              clear s0 s1 s2 s3 s4 s5 s6
              refine wp_region_held_drew (S := (fun W : World => (W.cell? ⟨wr.heap.size, 0, none⟩ = some (.int .i64 (k0 : Int)) ∧ W.cell? ⟨wr.heap.size, 1, none⟩ = some (.int .i64 (k1 : Int)) ∧ W.cell? ⟨wr.heap.size, 2, none⟩ = some (.int .i64 x2) ∧ W.cell? ⟨wr.heap.size, 3, none⟩ = some (.int .i64 x3) ∧ W.cell? ⟨wr.heap.size, 4, none⟩ = some (.int .i64 x4) ∧ W.cell? ⟨wr.heap.size, 5, none⟩ = some (.int .i64 x5) ∧ W.cell? ⟨wr.heap.size, 6, none⟩ = some (.bool x6)) ∧ Below wq.heap.size wq W)) (by kernel_rfl) S0 (fun _ => ?_)
              refine any_take (i := 0) (some 38) (.agg #[.int .i64 (k0 : Int), .int .i64 (k1 : Int), .int .i64 x2, .int .i64 x3, .int .i64 x4, .int .i64 x5, .bool x6]) rfl rfl (by kernel_rfl) (by kernel_rfl) (by kernel_rfl) (fun _ _ _ h => h) rfl (fun W hSw => ?_) (S0) ?_
              · (try dsimp only at hSw); go_simp <;> with_reducible rfl
              try simp only [Act.put, List.setIfInBounds_toArray, List.set_cons_zero, List.set_cons_succ]
              refine any_take (i := 1) (some 39) (.int .i64 p) rfl rfl (by kernel_rfl) (by kernel_rfl) (by kernel_rfl) (fun _ _ _ h => h) rfl (fun W hSw => ?_) (S0) ?_
              · (try dsimp only at hSw); go_simp <;> with_reducible rfl
              try simp only [Act.put, List.setIfInBounds_toArray, List.set_cons_zero, List.set_cons_succ]
              refine any_take (i := 2) (some 40) (.int .i64 t) rfl rfl (by kernel_rfl) (by kernel_rfl) (by kernel_rfl) (fun _ _ _ h => h) rfl (fun W hSw => ?_) (S0) ?_
              · (try dsimp only at hSw); go_simp <;> with_reducible rfl
              try simp only [Act.put, List.setIfInBounds_toArray, List.set_cons_zero, List.set_cons_succ]
              refine wpAnyH_ready (rs := [3]) (by kernel_rfl) (by simp) ?_
              refine AllReadyH.cons rfl (fun K hK => ?_) AllReadyH.nil
              go_simp
              go_at_call 25
              refine (appS_any _ (k0 : Int) (k1 : Int) x2 x3 x4 x5 x6 p t).mono ?_
              rintro e w9 ⟨rfl, hb8⟩
              rw [HA.out]
              have hb9 : Below wq.heap.size wq w9 := ((Below.refl wq.heap.size wq).drew).trans hb8
              clear hb8
              have S9 : (fun W : World => (W.cell? ⟨wr.heap.size, 0, none⟩ = some (.int .i64 (k0 : Int)) ∧ W.cell? ⟨wr.heap.size, 1, none⟩ = some (.int .i64 (k1 : Int)) ∧ W.cell? ⟨wr.heap.size, 2, none⟩ = some (.int .i64 x2) ∧ W.cell? ⟨wr.heap.size, 3, none⟩ = some (.int .i64 x3) ∧ W.cell? ⟨wr.heap.size, 4, none⟩ = some (.int .i64 x4) ∧ W.cell? ⟨wr.heap.size, 5, none⟩ = some (.int .i64 x5) ∧ W.cell? ⟨wr.heap.size, 6, none⟩ = some (.bool x6)) ∧ Below wq.heap.size wq W) w9 := ⟨⟨(bold hb9 _ _ hltb).trans S0.1.1, (bold hb9 _ _ hltb).trans S0.1.2.1, (bold hb9 _ _ hltb).trans S0.1.2.2.1, (bold hb9 _ _ hltb).trans S0.1.2.2.2.1, (bold hb9 _ _ hltb).trans S0.1.2.2.2.2.1, (bold hb9 _ _ hltb).trans S0.1.2.2.2.2.2.1, (bold hb9 _ _ hltb).trans S0.1.2.2.2.2.2.2⟩, hb9⟩
              go_wp2_with fail
              refine hK.out _ _ S9 (fun _ => ?_)
              clear hK K
              try simp only [Act.put, List.setIfInBounds_toArray, List.set_cons_zero, List.set_cons_succ]
              have sA : IntKind.i64.wrap ((h : Int) + 1 - 1) = (h : Int) := by rw [IntWalk.i64_in _ (by omega)]; omega
              have sB : IntKind.i64.wrap (h : Int) = (h : Int) := IntWalk.i64_in _ (by omega)
              have sC : IntKind.i64.wrap ((h : Int) + sp) = (h : Int) + sp := IntWalk.i64_in _ (by omega)
              have sD : decide ((h : Int) + sp ≤ x3) = false := decide_eq_false (by omega)
              refine any_take (i := 4) (some 42) (.bool true) rfl rfl (by kernel_rfl) (by kernel_rfl) (by kernel_rfl) (fun _ _ _ h => h) rfl (fun W hSw => ?_) (S9) ?_
              · (try dsimp only at hSw); go_simp <;> with_reducible rfl
              try simp only [Act.put, List.setIfInBounds_toArray, List.set_cons_zero, List.set_cons_succ]
              refine any_take (i := 5) (some 43) (.pointer (some ⟨wr.heap.size, 3, none⟩)) rfl rfl (by kernel_rfl) (by kernel_rfl) (by kernel_rfl) (fun _ _ _ h => h) rfl (fun W hSw => ?_) (S9) ?_
              · (try dsimp only at hSw); go_simp <;> with_reducible rfl
              try simp only [Act.put, List.setIfInBounds_toArray, List.set_cons_zero, List.set_cons_succ]
              refine any_take (i := 6) (some 44) (.int .i64 x3) rfl rfl (by kernel_rfl) (by kernel_rfl) (by kernel_rfl) (fun _ _ _ h => h) rfl (fun W hSw => ?_) (S9) ?_
              · (try dsimp only at hSw); go_simp <;> with_reducible rfl
              try simp only [Act.put, List.setIfInBounds_toArray, List.set_cons_zero, List.set_cons_succ]
              refine any_take (i := 7) (some 45) (.int .i64 ((h : Int) + 1)) rfl rfl (by kernel_rfl) (by kernel_rfl) (by kernel_rfl) (fun _ _ _ h => h) rfl (fun W hSw => ?_) (S9) ?_
              · (try dsimp only at hSw); go_simp <;> with_reducible rfl
              try simp only [Act.put, List.setIfInBounds_toArray, List.set_cons_zero, List.set_cons_succ]
              refine any_take (i := 8) (some 46) (.int .i64 (h : Int)) rfl rfl (by kernel_rfl) (by kernel_rfl) (by kernel_rfl) (fun _ _ _ h => h) rfl (fun W hSw => ?_) (S9) ?_
              · (try dsimp only at hSw); go_simp <;> with_reducible rfl
              try simp only [Act.put, List.setIfInBounds_toArray, List.set_cons_zero, List.set_cons_succ]
              refine any_take (i := 9) (some 47) (.int .i64 sp) rfl rfl (by kernel_rfl) (by kernel_rfl) (by kernel_rfl) (fun _ _ _ h => h) rfl (fun W hSw => ?_) (S9) ?_
              · (try dsimp only at hSw); go_simp <;> with_reducible rfl
              try simp only [Act.put, List.setIfInBounds_toArray, List.set_cons_zero, List.set_cons_succ]
              refine any_take (i := 10) (some 48) (.int .i64 ((h : Int) + sp)) rfl rfl (by kernel_rfl) (by kernel_rfl) (by kernel_rfl) (fun _ _ _ h => h) rfl (fun W hSw => ?_) (S9) ?_
              · (try dsimp only at hSw); go_simp <;> with_reducible rfl
              try simp only [Act.put, List.setIfInBounds_toArray, List.set_cons_zero, List.set_cons_succ]
              refine any_take (i := 11) (some 49) (.bool false) rfl rfl (by kernel_rfl) (by kernel_rfl) (by kernel_rfl) (fun _ _ _ h => h) rfl (fun W hSw => ?_) (S9) ?_
              · (try dsimp only at hSw); go_simp <;> with_reducible rfl
              try simp only [Act.put, List.setIfInBounds_toArray, List.set_cons_zero, List.set_cons_succ]
              refine any_take (i := 12) (some 50) (.bool false) rfl rfl (by kernel_rfl) (by kernel_rfl) (by kernel_rfl) (fun _ _ _ h => h) rfl (fun W hSw => ?_) (S9) ?_
              · (try dsimp only at hSw); go_simp <;> with_reducible rfl
              try simp only [Act.put, List.setIfInBounds_toArray, List.set_cons_zero, List.set_cons_succ]
              refine any_take (i := 13) (some 51) (.bool false) rfl rfl (by kernel_rfl) (by kernel_rfl) (by kernel_rfl) (fun _ _ _ h => h) rfl (fun W hSw => ?_) (S9) ?_
              · (try dsimp only at hSw); go_simp <;> with_reducible rfl
              try simp only [Act.put, List.setIfInBounds_toArray, List.set_cons_zero, List.set_cons_succ]
              refine any_skip (i := 14) (some 52) rfl rfl (by kernel_rfl) (by kernel_rfl) (by kernel_rfl) (fun _ _ _ h => h) rfl (S9) ?_
              try simp only [Act.put, List.setIfInBounds_toArray, List.set_cons_zero, List.set_cons_succ]
              refine any_skip (i := 15) (some 53) rfl rfl (by kernel_rfl) (by kernel_rfl) (by kernel_rfl) (fun _ _ _ h => h) rfl (S9) ?_
              try simp only [Act.put, List.setIfInBounds_toArray, List.set_cons_zero, List.set_cons_succ]
              refine any_skip (i := 16) (some 54) rfl rfl (by kernel_rfl) (by kernel_rfl) (by kernel_rfl) (fun _ _ _ h => h) rfl (S9) ?_
              try simp only [Act.put, List.setIfInBounds_toArray, List.set_cons_zero, List.set_cons_succ]
              refine any_skip (i := 17) (some 55) rfl rfl (by kernel_rfl) (by kernel_rfl) (by kernel_rfl) (fun _ _ _ h => h) rfl (S9) ?_
              try simp only [Act.put, List.setIfInBounds_toArray, List.set_cons_zero, List.set_cons_succ]
              refine any_skip (i := 18) (some 56) rfl rfl (by kernel_rfl) (by kernel_rfl) (by kernel_rfl) (fun _ _ _ h => h) rfl (S9) ?_
              try simp only [Act.put, List.setIfInBounds_toArray, List.set_cons_zero, List.set_cons_succ]
              refine any_skip (i := 19) (some 57) rfl rfl (by kernel_rfl) (by kernel_rfl) (by kernel_rfl) (fun _ _ _ h => h) rfl (S9) ?_
              try simp only [Act.put, List.setIfInBounds_toArray, List.set_cons_zero, List.set_cons_succ]
              refine any_skip (i := 20) (some 58) rfl rfl (by kernel_rfl) (by kernel_rfl) (by kernel_rfl) (fun _ _ _ h => h) rfl (S9) ?_
              try simp only [Act.put, List.setIfInBounds_toArray, List.set_cons_zero, List.set_cons_succ]
              refine any_skip (i := 21) (some 59) rfl rfl (by kernel_rfl) (by kernel_rfl) (by kernel_rfl) (fun _ _ _ h => h) rfl (S9) ?_
              try simp only [Act.put, List.setIfInBounds_toArray, List.set_cons_zero, List.set_cons_succ]
              refine any_skip (i := 22) (some 60) rfl rfl (by kernel_rfl) (by kernel_rfl) (by kernel_rfl) (fun _ _ _ h => h) rfl (S9) ?_
              try simp only [Act.put, List.setIfInBounds_toArray, List.set_cons_zero, List.set_cons_succ]
              refine any_take (i := 23) (some 61) (.bool false) rfl rfl (by kernel_rfl) (by kernel_rfl) (by kernel_rfl) (fun _ _ _ h => h) rfl (fun W hSw => ?_) (S9) ?_
              · (try dsimp only at hSw); go_simp <;> with_reducible rfl
              try simp only [Act.put, List.setIfInBounds_toArray, List.set_cons_zero, List.set_cons_succ]
              refine wpAnyH_done (by kernel_rfl) ?_ _
              clear S0 S9 sA sB sC sD
              have HK9 := Lib.hid (HK2.out.call hb9)
              clear hb9 HK2 HBQ KB HLK HBW
              go_wp2
              go_roundw
              case rel => exact ⟨k + 1, by omega, by go_num, HK9.out.same (rowF_skip HX.out HSK.out)⟩
              case measure => simp [intOf]; omega
        · have hkl : k = l.length := by omega
          subst hkl
          have HROW := Lib.hid (show Has wr q 4 (rowV (rhB l p t sp kw (h + 1))) from by rw [← rowF_all]; exact HLK.out.2.2.1)
          have HLEV2 := Lib.hid HLK.out.2.1; have HOWN2 := Lib.hid HLK.out.1; have HBW := Lib.hid hbw; clear hbw
          have hh6 : h + 1 ≤ 6 := H6.out
          go_wp2_with (at_builtin; go_must (refine list_app rfl _ _ 43 rfl w.heap.size 46 i0 (.slice none 0 0) 1 24 Try.underlying43 I0.out Z0.out Z1.out Z2.out rfl (by decide) _ _ _ rfl (HOWN2.out.alloc _) _ 1 1 (#[.slice (some ⟨q, 0, none⟩) 41 41] : Array Value).toList rfl (src_box _ _ #[.slice (some ⟨q, 0, none⟩) 41 41] 1 rfl (by simp [Value.oneCell'])) (by unfold maxLen; omega) (by omega) (by simp; omega) ?_); intro A8 c8 w8 hown8 hgrow8 hhas; have hb8 : Below w.heap.size w w8 := (HBW.out.alloc hsr _).grown hgrow8 (by simp; omega) (fun k hk => ((HOWN2.out.lt k hk).1)); have hdif : ∀ b, (Value.slice (some ⟨bv, 0, none⟩) (h + 1) cap).ownBlock = some b → ∀ cs, ¬ Has (wr.alloc (.cells #[.slice (some ⟨q, 0, none⟩) 41 41] 46)) b 4 cs := fun b hb cs hc => (by obtain ⟨_, cur, hcur⟩ := hhas b hb; have := hcur.symm.trans hc; injection this with this; injection this with _ this _; exact absurd this (by decide)); have HNEW := Lib.hid (show LvH l p t sp kw w (h + 1 + 1) (.slice A8 (h + 1 + 1) c8) w8 from ⟨gs ++ [q], by simp [HGL.out], by simpa [rowS] using hown8, ((HLEV2.out.call (balloc _ _)).grown hgrow8 hdif).snoc HGL.out hqw (has_grown (has_alloc HROW.out _) hgrow8 (fun e => hdif q e.symm _ (has_alloc HROW.out _))), hb8⟩); clear hown8 hgrow8 hhas hb8 hdif)
          go_roundg (gk - 1)
          case measure => omega
          case rel => exact ⟨h + 1, by omega, by go_num, HNEW.out⟩
    · obtain rfl : h = 6 := by omega
      go_wp2
      go_ret
      exact ⟨bv, cap, gs, rfl, HGL.out, HOWN.out, HLEV.out, HB.out⟩
end Go.Proofs.Ytdaeljjjcgpcoaa
