/- Chapter 2: boxes linked in a stack, in two pieces; a stack becomes a column; filling. -/
import Derived.Test.YthmoonjceokijaaGapB
import Derived.Test.YthmoonjceokijaaGapF
import Derived.Test.YthmoonjceokijaaGapH
namespace Go.Proofs.Ythmoonjceokijaa
open Go.RowKit
set_option linter.unusedVariables false

/-- a piece of a stack: from p on, up to q -/
def TS (w : World) (lo : Nat) (q : Option Addr) : Option Addr → List Nat → List Tr → Prop
  | p, [], [] => p = q
  | p, g :: gs, t :: r => p = some ⟨g, 0, none⟩ ∧ lo ≤ g ∧ ∃ m, Has w g 68 (tierC t m) ∧ TS w lo q m gs r
  | _, _, _ => False
theorem TS.kept {w w' : World} {lo : Nat} {q : Option Addr} : ∀ {gs : List Nat} {p : Option Addr} {l : List Tr}, TS w lo q p gs l → (∀ g ∈ gs, ∀ cs, Has w g 68 cs → Has w' g 68 cs) → TS w' lo q p gs l
  | [], p, [], h, _ => h
  | [], p, t :: r, h, _ => h.elim
  | g :: gs, p, [], h, _ => h.elim
  | g :: gs, p, t :: r, ⟨h1, h2, m, h4, h5⟩, hk => ⟨h1, h2, m, hk g List.mem_cons_self _ h4, h5.kept fun g' hg' => hk g' (List.mem_cons_of_mem _ hg')⟩
theorem TS.lt {w : World} {lo : Nat} {q : Option Addr} : ∀ {gs : List Nat} {p : Option Addr} {l : List Tr}, TS w lo q p gs l → ∀ g ∈ gs, lo ≤ g ∧ g < w.heap.size
  | [], p, l, _, g, hg => by cases hg
  | g :: gs, p, [], h, _, _ => h.elim
  | g :: gs, p, t :: r, ⟨h1, h2, m, h4, h5⟩, g', hg' => by
    rcases List.mem_cons.1 hg' with e | e
    · subst e; exact ⟨h2, has_lt h4⟩
    · exact h5.lt g' e
theorem TS.snoc {w : World} {lo g : Nat} {q m : Option Addr} {t : Tr} (hg : q = some ⟨g, 0, none⟩) (hl : lo ≤ g) (hH : Has w g 68 (tierC t m)) : ∀ {gs : List Nat} {p : Option Addr} {l : List Tr}, TS w lo q p gs l → TS w lo m p (gs ++ [g]) (l ++ [t])
  | [], p, [], h => ⟨h.trans hg, hl, m, hH, rfl⟩
  | [], p, t :: r, h => h.elim
  | g :: gs, p, [], h => h.elim
  | g :: gs, p, t :: r, ⟨h1, h2, m', h4, h5⟩ => ⟨h1, h2, m', h4, TS.snoc hg hl hH h5⟩
theorem TS.tl {w : World} {lo : Nat} {q : Option Addr} {gs2 : List Nat} {l2 : List Tr} (h2 : TL w lo q gs2 l2) : ∀ {gs : List Nat} {p : Option Addr} {l : List Tr}, TS w lo q p gs l → (gs ++ gs2).Nodup → TL w lo p (gs ++ gs2) (l ++ l2)
  | [], p, [], h, _ => by have : p = q := h
                          subst this; exact h2
  | [], p, t :: r, h, _ => h.elim
  | g :: gs, p, [], h, _ => h.elim
  | g :: gs, p, t :: r, ⟨h1, h3, m, h4, h5⟩, hn => by
    rw [List.cons_append, List.nodup_cons] at hn
    exact ⟨h1, h3, hn.1, m, h4, h5.tl h2 hn.2⟩
theorem TL.nodup {w : World} {lo : Nat} : ∀ {gs : List Nat} {p : Option Addr} {l : List Tr}, TL w lo p gs l → gs.Nodup
  | [], _, _, _ => List.nodup_nil
  | g :: gs, p, [], h => h.elim
  | g :: gs, p, t :: r, ⟨_, _, h3, q, _, h5⟩ => List.nodup_cons.2 ⟨h3, h5.nodup⟩
theorem TL.len {w : World} {lo : Nat} : ∀ {gs : List Nat} {p : Option Addr} {l : List Tr}, TL w lo p gs l → gs.length = l.length
  | [], p, [], _ => rfl
  | [], p, t :: r, h => h.elim
  | g :: gs, p, [], h => h.elim
  | g :: gs, p, t :: r, ⟨_, _, h3, q, _, h5⟩ => by simp [h5.len]
/-- of a tier, three stores -/
theorem tier_set {w : World} {g : Nat} {t : Tr} {m : Option Addr} (h : Has w g 68 (tierC t m)) (s : Int) (m' : Option Addr) :
    Has ((w.setCell ⟨g, 1, none⟩ (.int .i64 s)).setCell ⟨g, 5, none⟩ (.pointer m')) g 68 (tierC ⟨⟨t.x.low, s, t.x.par, t.x.jam⟩, t.fx⟩ m') := by
  have := has_set (has_set h 1 (.int .i64 s)) 5 (.pointer m')
  simpa [tierC] using this
theorem TL.set {w : World} {lo g : Nat} {gs : List Nat} {p : Option Addr} {l : List Tr} (h : TL w lo p gs l) (hg : g ∉ gs) (i : Nat) (v : Value) : TL (w.setCell ⟨g, i, none⟩ v) lo p gs l :=
  h.kept fun g' hg' cs hh => has_far hh (p := ⟨g, i, none⟩) (fun e => hg (by have e' : g' = g := e; rw [← e']; exact hg')) v
theorem TS.set {w : World} {lo g : Nat} {q : Option Addr} {gs : List Nat} {p : Option Addr} {l : List Tr} (h : TS w lo q p gs l) (hg : g ∉ gs) (i : Nat) (v : Value) : TS (w.setCell ⟨g, i, none⟩ v) lo q p gs l :=
  h.kept fun g' hg' cs hh => has_far hh (p := ⟨g, i, none⟩) (fun e => hg (by have e' : g' = g := e; rw [← e']; exact hg')) v
theorem TS.call {w w' : World} {lo : Nat} {q : Option Addr} {gs : List Nat} {p : Option Addr} {l : List Tr} (h : TS w lo q p gs l) (hb : Below w.heap.size w w') : TS w' lo q p gs l := h.kept fun g hg cs hh => has_call hh hb

theorem has_appG {w w' : World} {g base : Nat} {T e : TypeId} {cs : Array Value} {row : Option Nat} (h : Has w g T cs) (hg : w.grownBy w' row) (hr : ∀ b, row = some b → base ≤ b ∧ ∃ cur, Has w b e cur) (hne : e ≠ T) : Has w' g T cs :=
  has_grown h hg (fun eq => by
    obtain ⟨_, cur, hc⟩ := hr g eq.symm
    have := hc.symm.trans h
    injection this with this; injection this with _ this _
    exact hne this)
set_option maxRecDepth 100000 in
set_option maxHeartbeats 4000000 in
theorem withI_any (w : World) (B lo : Nat) (z : Int) (F : List Int) (AF AB : Option Addr) (nF nB cF cB : Nat) (p : Option Addr) (gs : List Nat) (l : List Tr) (hnF : nF = F.length) (lf : F.length ≤ 1048576) (ll : l.length ≤ 1048576) (hB : B ≤ w.heap.size) (hF : IL w B AF F) (hT : TL w lo p gs l) :
    Calls Try.prog 46 #[.agg #[.int .i64 z, .slice AF nF cF, .slice AB nB cB], .pointer p] w (ColAns0 z F (l.map Tr.x) w) := by
  subst hnF
  obtain ⟨j0, hj0, hy0, hy1, hy2⟩ := info_parts boxInfo
  have HT := Lib.hid hT; have HF := Lib.hid hF; clear hT hF
  go_enter Try.func46, Try.ntmps46
  go_wp2_with fail
  generalize hW0 : (((w.alloc (.cells #[.int .i64 z, .slice AF F.length cF, .slice AB nB cB] 27)).alloc (.cells #[.int .i64 0, .slice none 0 0, .slice none 0 0] 27)).alloc (.cells #[] 47)) = w0
  have b0 : Below w.heap.size w w0 := by rw [← hW0]; exact bthen (bthen (balloc _ _) (balloc _ _)) (balloc _ _)
  have hs0 : w.heap.size + 3 ≤ w0.heap.size := by rw [← hW0]; simp
  have k0 : Has w0 w.heap.size 27 #[.int .i64 z, .slice AF F.length cF, .slice AB nB cB] := by rw [← hW0]; exact has_alloc (has_alloc (has_new _ _ _) _) _
  have k1 : Has w0 (w.heap.size + 1) 27 #[.int .i64 0, .slice none 0 0, .slice none 0 0] := by rw [← hW0]; have := has_alloc (has_new (w.alloc (.cells #[.int .i64 z, .slice AF F.length cF, .slice AB nB cB] 27)) 27 #[.int .i64 0, .slice none 0 0, .slice none 0 0]) (.cells #[] 47); simpa using this
  have own0 : w0.ownsRow (w.heap.size + 2) 47 4 (.slice (some ⟨w.heap.size + 1 + 1, 0, none⟩) 0 0) 0 [] := by rw [← hW0]; exact owns_at _ _ _ _ _ (by simp) (Nat.le_refl _)
  clear hW0
  have K0 := Lib.hid k0; have K1 := Lib.hid k1; have OW0 := Lib.hid own0; have BB := Lib.hid b0; have HT0 := Lib.hid (HT.out.call b0); clear k0 k1 own0 b0
  go_loopw [5, 6] (fun bv tv wr => ∃ (P R : List Tr) (gs' : List Nat) (q : Option Addr) (A' : Option Addr) (c' : Nat), bv = .slice A' P.length c' ∧ tv = .pointer q ∧ P ++ R = l ∧ TL wr lo q gs' R ∧ wr.ownsRow (w.heap.size + 2) 47 4 (.slice A' P.length c') P.length (boxV (P.map Tr.x)) ∧ Below (w.heap.size + 2) w0 wr) (fun _ tv wr => tlLen wr tv)
  case atStart => exact ⟨[], l, gs, p, _, _, rfl, rfl, rfl, HT0.out, OW0.out, Below.refl _ _⟩
  case round =>
    obtain ⟨P, R, gs', q, A', c', rfl, rfl, hPR, hT, how, hb⟩ := hrel
    have hPl : P.length ≤ 1048576 := by have := congrArg List.length hPR; simp at this; omega
    have HPR := Lib.hid hPR; have HOW := Lib.hid how; have HBB := Lib.hid hb; clear hPR how
    have hsz := hb.size
    clear hb
    rcases R with _ | ⟨⟨⟨y0, y1, y2, y3⟩, fx⟩, r⟩
    · obtain ⟨rfl, rfl⟩ := hT.nil_inv
      clear hT
      have kA := has_below K0.out HBB.out (by omega)
      have e0 := has_cell kA 0 rfl; have e1 := has_cell kA 1 rfl
      have hlA := has_lt kA
      clear kA
      have hml : P.map Tr.x = l.map Tr.x := by rw [← HPR.out]; simp
      have HML := Lib.hid hml; clear hml
      have S0 : (fun W : World => (W.cell? ⟨w.heap.size, 0, none⟩ = some (.int .i64 z) ∧ W.cell? ⟨w.heap.size, 1, none⟩ = some (.slice AF F.length cF)) ∧ Below (w.heap.size + 1) wr W) wr.drew := ⟨⟨e0, e1⟩, (Below.refl _ _).drew⟩
      clear e0 e1
      go_upto_region 6 with (fail)
      refine wp_region_held_drew (S := (fun W : World => (W.cell? ⟨w.heap.size, 0, none⟩ = some (.int .i64 z) ∧ W.cell? ⟨w.heap.size, 1, none⟩ = some (.slice AF F.length cF)) ∧ Below (w.heap.size + 1) wr W)) (by kernel_rfl) S0 (fun _ => ?_)
      refine any_take (i := 0) (some 22) (.pointer (some ⟨w.heap.size, 0, none⟩)) rfl rfl (by kernel_rfl) (by kernel_rfl) (by kernel_rfl) (fun _ _ _ h => h) rfl (fun W hSw => ?_) (S0) ?_
      · (try dsimp only at hSw); go_simp <;> with_reducible rfl
      try simp only [Act.put, List.setIfInBounds_toArray, List.set_cons_zero, List.set_cons_succ]
      refine any_take (i := 1) (some 23) (.int .i64 z) rfl rfl (by kernel_rfl) (by kernel_rfl) (by kernel_rfl) (fun _ _ _ h => h) rfl (fun W hSw => ?_) (S0) ?_
      · (try dsimp only at hSw); go_simp <;> with_reducible rfl
      try simp only [Act.put, List.setIfInBounds_toArray, List.set_cons_zero, List.set_cons_succ]
      refine any_take (i := 2) (some 24) (.pointer (some ⟨w.heap.size, 1, none⟩)) rfl rfl (by kernel_rfl) (by kernel_rfl) (by kernel_rfl) (fun _ _ _ h => h) rfl (fun W hSw => ?_) (S0) ?_
      · (try dsimp only at hSw); go_simp <;> with_reducible rfl
      try simp only [Act.put, List.setIfInBounds_toArray, List.set_cons_zero, List.set_cons_succ]
      refine any_take (i := 3) (some 25) (.slice AF F.length cF) rfl rfl (by kernel_rfl) (by kernel_rfl) (by kernel_rfl) (fun _ _ _ h => h) rfl (fun W hSw => ?_) (S0) ?_
      · (try dsimp only at hSw); go_simp <;> with_reducible rfl
      try simp only [Act.put, List.setIfInBounds_toArray, List.set_cons_zero, List.set_cons_succ]
      refine any_take (i := 5) (some 27) (.slice A' P.length c') rfl rfl (by kernel_rfl) (by kernel_rfl) (by kernel_rfl) (fun _ _ _ h => h) rfl (fun W hSw => ?_) (S0) ?_
      · (try dsimp only at hSw); go_simp <;> with_reducible rfl
      try simp only [Act.put, List.setIfInBounds_toArray, List.set_cons_zero, List.set_cons_succ]
      refine wpAnyH_ready (rs := [4]) (by kernel_rfl) (by simp) ?_
      refine AllReadyH.cons rfl (fun K hK => ?_) AllReadyH.nil
      go_simp
      go_at_call 52
      refine (cloneInt_any wr.drew B AF cF F lf (show B ≤ wr.drew.heap.size by simp; omega) ((HF.out.later hB (BB.out.trans (HBB.out.mono (by omega)))).below (Below.refl _ _).drew)).mono ?_
      rintro e w5 ⟨A2, c2, rfl, ho, hb5⟩
      have hb9 : Below wr.heap.size wr w5 := ((Below.refl wr.heap.size wr).drew).trans hb5
      have S5 : (fun W : World => (W.cell? ⟨w.heap.size, 0, none⟩ = some (.int .i64 z) ∧ W.cell? ⟨w.heap.size, 1, none⟩ = some (.slice AF F.length cF)) ∧ Below (w.heap.size + 1) wr W) w5 := ⟨⟨(bold hb9 _ _ hlA).trans S0.1.1, (bold hb9 _ _ hlA).trans S0.1.2⟩, hb9.mono (by omega)⟩
      go_wp2_with fail
      refine hK.out _ _ S5 (fun _ => ?_)
      clear hK K
      try simp only [Act.put, List.setIfInBounds_toArray, List.set_cons_zero, List.set_cons_succ]
      refine any_take (i := 6) (some 28) (.agg #[.int .i64 z, .slice A2 F.length c2, .slice A' P.length c']) rfl rfl (by kernel_rfl) (by kernel_rfl) (by kernel_rfl) (fun _ _ _ h => h) rfl (fun W hSw => ?_) (S5) ?_
      · (try dsimp only at hSw); go_simp <;> with_reducible rfl
      try simp only [Act.put, List.setIfInBounds_toArray, List.set_cons_zero, List.set_cons_succ]
      have kR := has_call (has_below K1.out HBB.out (by omega)) hb9
      have y0 := has_cell kR 0 rfl; have y1 := has_cell kR 1 rfl; have y2 := has_cell kR 2 rfl; have f0 := has_free kR 0; have f1 := has_free kR 1; have f2 := has_free kR 2
      have hlR := has_lt kR
      have X1 := Lib.hid (set3 (u := .int .i64 z) (v := .slice A2 F.length c2) (x := .slice A' P.length c') kR)
      have hbel : Below w.heap.size w w5 := BB.out.trans ((HBB.out.mono (by omega)).trans (hb9.mono (by omega)))
      have hz9 := hb9.size
      have FIN := Lib.hid (ans_finr0 (w.heap.size + 1) (w.heap.size + 2) hbel (by omega) (by omega) (OR.more ho (by simp; omega)) ((or_of HOW.out).below hb9) (.int .i64 z) (.slice A2 F.length c2) (.slice A' P.length c'))
      refine wpAnyH_ready (rs := [7]) (by kernel_rfl) (by simp) ?_
      refine AllReadyH.cons rfl (fun K hK => ?_) AllReadyH.nil
      go_simp
      have hb7 : Below (w.heap.size + 1) w5 (((w5.setCell ⟨w.heap.size + 1, 0, none⟩ (.int .i64 z)).setCell ⟨w.heap.size + 1, 1, none⟩ (.slice A2 F.length c2)).setCell ⟨w.heap.size + 1, 2, none⟩ (.slice A' P.length c')) := (((Below.refl _ _).setCell (p := ⟨w.heap.size + 1, 0, none⟩) (Nat.le_refl _) _).setCell (p := ⟨w.heap.size + 1, 1, none⟩) (Nat.le_refl _) _).setCell (p := ⟨w.heap.size + 1, 2, none⟩) (Nat.le_refl _) _
      have S6 : (fun W : World => (W.cell? ⟨w.heap.size, 0, none⟩ = some (.int .i64 z) ∧ W.cell? ⟨w.heap.size, 1, none⟩ = some (.slice AF F.length cF)) ∧ Below (w.heap.size + 1) wr W) (((w5.setCell ⟨w.heap.size + 1, 0, none⟩ (.int .i64 z)).setCell ⟨w.heap.size + 1, 1, none⟩ (.slice A2 F.length c2)).setCell ⟨w.heap.size + 1, 2, none⟩ (.slice A' P.length c')) := ⟨⟨(hb7.cell (p := ⟨w.heap.size, 0, none⟩) (Nat.lt_succ_self _)).trans S5.1.1, (hb7.cell (p := ⟨w.heap.size, 1, none⟩) (Nat.lt_succ_self _)).trans S5.1.2⟩, S5.2.trans hb7⟩
      refine hK.out _ _ S6 (fun _ => ?_)
      clear hK K y0 y1 y2 f0 f1 f2
      try simp only [Act.put, List.setIfInBounds_toArray, List.set_cons_zero, List.set_cons_succ]
      refine wpAnyH_done (by kernel_rfl) ?_ _
      go_wp2
      have g0' := has_cell X1.out 0 rfl
      have g1' := has_cell X1.out 1 rfl
      have g2' := has_cell X1.out 2 rfl
      have hfin := FIN.out
      have hPl : P.length = (l.map Tr.x).length := by rw [← HML.out]; simp
      rw [HML.out] at hfin
      exact bodyPost_ret (v := .agg #[.int .i64 z, .slice A2 F.length c2, .slice A' P.length c']) (by simp [results, Try.results46, go_sem, g0', g1', g2']) rfl ⟨A2, A', c2, c', by rw [hPl], hfin⟩
    · obtain ⟨g2, gs2, rfl, rfl, hlo, hni, q2, hH2, hT2⟩ := hT.cons_inv
      have hln := tlLen_eq hT
      have HT2 := Lib.hid hT2; have HH2 := Lib.hid hH2; have HLN := Lib.hid hln; clear hT hT2 hln
      have hl2 := has_lt hH2
      have d0 : wr.cell? ⟨g2, 0, none⟩ = some (.int .i64 y0) := has_cell hH2 0 rfl
      have d1 : wr.cell? ⟨g2, 1, none⟩ = some (.int .i64 y1) := has_cell hH2 1 rfl
      have d2 : wr.cell? ⟨g2, 2, none⟩ = some (.int .i64 y2) := has_cell hH2 2 rfl
      have d3 : wr.cell? ⟨g2, 3, none⟩ = some (.bool y3) := has_cell hH2 3 rfl
      clear hH2
      have hPl2 : P.length + 1 ≤ 1048576 := by have := congrArg List.length HPR.out; simp at this; omega
      go_wp2_with (at_builtin; go_must (refine list_app rfl _ _ 25 rfl (w.heap.size + 2) 47 j0 (.agg #[.int .i64 0, .int .i64 0, .int .i64 0, .bool false]) 4 32 Try.underlying25 hj0 hy0 hy1 hy2 rfl (by decide) _ P.length _ rfl (HOW.out.alloc _) (some ⟨wr.heap.size, 0, none⟩) 1 1 (boxC ⟨y0, y1, y2, y3⟩) rfl (src_bx (x := ⟨y0, y1, y2, y3⟩) (has_new _ _ _)) (by unfold maxLen; omega) (by omega) (by simp; omega) ?_))
      intro A4 c4 w4 hown4 hgrow4 hrow4
      have hba := balloc wr (.cells #[.int .i64 y0, .int .i64 y1, .int .i64 y2, .bool y3] 47)
      have hT4 := (HT2.out.call hba).app hgrow4 hrow4 (by decide)
      have hH4 := has_appG (has_call HH2.out hba) hgrow4 hrow4 (by decide)
      have d5 : w4.cell? ⟨g2, 5, none⟩ = some (.pointer q2) := has_cell hH4 5 rfl
      have hb4 : Below (w.heap.size + 2) w0 w4 := (HBB.out.alloc (by omega) _).grown hgrow4 (by simp; omega) (fun b hb => (hrow4 b hb).1)
      have hl4 := has_lt hH4
      have HT4 := Lib.hid hT4; have HB4 := Lib.hid hb4; have OW4 := Lib.hid hown4; clear hT4 hb4 hown4 hgrow4 hrow4 hba hH4 d0 d1 d2 d3
      go_wp2
      go_roundw
      case rel =>
        refine ⟨P ++ [⟨⟨y0, y1, y2, y3⟩, fx⟩], r, gs2, q2, A4, c4, by rw [List.length_append]; rfl, rfl, by rw [← HPR.out]; simp, HT4.out, ?_, HB4.out⟩
        have := OW4.out
        rw [List.length_append, List.map_append, List.map_singleton, boxV_snocG]
        exact this
      case measure =>
        have h1 := tlLen_eq HT4.out
        have h2 := HLN.out
        simp [h1, h2]
end Go.Proofs.Ythmoonjceokijaa
