/- Chapter 2: boxes linked in a stack, in two pieces; a stack becomes a column; filling. -/
import Derived.Test.YthfpjfekemelaaaQ06
import Derived.Test.YthfpjfekemelaaaQ11
namespace Go.Proofs.Ythfpjfekemelaaa
open Go.RowKit
set_option linter.unusedVariables false

/-- a piece of a stack: from p on, up to q -/
def TS (w : World) (lo : Nat) (q : Option Addr) : Option Addr → List Nat → List Tr → Prop
  | p, [], [] => p = q
  | p, g :: gs, t :: r => p = some ⟨g, 0, none⟩ ∧ lo ≤ g ∧ ∃ m, Has w g 85 (tierC t m) ∧ TS w lo q m gs r
  | _, _, _ => False
theorem TS.kept {w w' : World} {lo : Nat} {q : Option Addr} : ∀ {gs : List Nat} {p : Option Addr} {l : List Tr}, TS w lo q p gs l → (∀ g ∈ gs, ∀ cs, Has w g 85 cs → Has w' g 85 cs) → TS w' lo q p gs l
  | [], p, [], h, _ => h
  | [], p, t :: r, h, _ => h.elim
  | g :: gs, p, [], h, _ => h.elim
  | g :: gs, p, t :: r, ⟨h1, h2, m, h4, h5⟩, hk => ⟨h1, h2, m, hk g List.mem_cons_self _ h4, h5.kept fun g' hg' => hk g' (List.mem_cons_of_mem _ hg')⟩
theorem TS.lt {w : World} {lo : Nat} {q : Option Addr} : ∀ {gs : List Nat} {p : Option Addr} {l : List Tr}, TS w lo q p gs l → ∀ g ∈ gs, lo ≤ g ∧ g < w.heap.size
  | [], p, l, _, g, hg => by cases hg
  | g :: gs, p, [], h, _, _ => h.elim
  | g :: gs, p, t :: r, ⟨h1, h2, m, h4, h5⟩, g', hg' => by
    rcases List.mem_cons.1 hg' with e | e
    · subst e; exact ⟨h2, has_lt h4⟩
    · exact h5.lt g' e
theorem TS.snoc {w : World} {lo g : Nat} {q m : Option Addr} {t : Tr} (hg : q = some ⟨g, 0, none⟩) (hl : lo ≤ g) (hH : Has w g 85 (tierC t m)) : ∀ {gs : List Nat} {p : Option Addr} {l : List Tr}, TS w lo q p gs l → TS w lo m p (gs ++ [g]) (l ++ [t])
  | [], p, [], h => ⟨h.trans hg, hl, m, hH, rfl⟩
  | [], p, t :: r, h => h.elim
  | g :: gs, p, [], h => h.elim
  | g :: gs, p, t :: r, ⟨h1, h2, m', h4, h5⟩ => ⟨h1, h2, m', h4, TS.snoc hg hl hH h5⟩
theorem TS.tl {w : World} {lo : Nat} {q : Option Addr} {gs2 : List Nat} {l2 : List Tr} (h2 : TL w lo q gs2 l2) : ∀ {gs : List Nat} {p : Option Addr} {l : List Tr}, TS w lo q p gs l → (gs ++ gs2).Nodup → TL w lo p (gs ++ gs2) (l ++ l2)
  | [], p, [], h, _ => by have : p = q := h
                          subst this; exact h2
  | [], p, t :: r, h, _ => h.elim
  | g :: gs, p, [], h, _ => h.elim
  | g :: gs, p, t :: r, ⟨h1, h3, m, h4, h5⟩, hn => by
    rw [List.cons_append, List.nodup_cons] at hn
    exact ⟨h1, h3, hn.1, m, h4, h5.tl h2 hn.2⟩
theorem TL.nodup {w : World} {lo : Nat} : ∀ {gs : List Nat} {p : Option Addr} {l : List Tr}, TL w lo p gs l → gs.Nodup
  | [], _, _, _ => List.nodup_nil
  | g :: gs, p, [], h => h.elim
  | g :: gs, p, t :: r, ⟨_, _, h3, q, _, h5⟩ => List.nodup_cons.2 ⟨h3, h5.nodup⟩
theorem TL.len {w : World} {lo : Nat} : ∀ {gs : List Nat} {p : Option Addr} {l : List Tr}, TL w lo p gs l → gs.length = l.length
  | [], p, [], _ => rfl
  | [], p, t :: r, h => h.elim
  | g :: gs, p, [], h => h.elim
  | g :: gs, p, t :: r, ⟨_, _, h3, q, _, h5⟩ => by simp [h5.len]
/-- of a tier, three stores -/
theorem tier_set {w : World} {g : Nat} {t : Tr} {m : Option Addr} (h : Has w g 85 (tierC t m)) (s : Int) (m' : Option Addr) :
    Has ((w.setCell ⟨g, 1, none⟩ (.int .i64 s)).setCell ⟨g, 5, none⟩ (.pointer m')) g 85 (tierC ⟨⟨t.x.low, s, t.x.par, t.x.jam⟩, t.fx⟩ m') := by
  have := has_set (has_set h 1 (.int .i64 s)) 5 (.pointer m')
  simpa [tierC] using this
theorem TL.set {w : World} {lo g : Nat} {gs : List Nat} {p : Option Addr} {l : List Tr} (h : TL w lo p gs l) (hg : g ∉ gs) (i : Nat) (v : Value) : TL (w.setCell ⟨g, i, none⟩ v) lo p gs l :=
  h.kept fun g' hg' cs hh => has_far hh (p := ⟨g, i, none⟩) (fun e => hg (by have e' : g' = g := e; rw [← e']; exact hg')) v
theorem TS.set {w : World} {lo g : Nat} {q : Option Addr} {gs : List Nat} {p : Option Addr} {l : List Tr} (h : TS w lo q p gs l) (hg : g ∉ gs) (i : Nat) (v : Value) : TS (w.setCell ⟨g, i, none⟩ v) lo q p gs l :=
  h.kept fun g' hg' cs hh => has_far hh (p := ⟨g, i, none⟩) (fun e => hg (by have e' : g' = g := e; rw [← e']; exact hg')) v
theorem TS.call {w w' : World} {lo : Nat} {q : Option Addr} {gs : List Nat} {p : Option Addr} {l : List Tr} (h : TS w lo q p gs l) (hb : Below w.heap.size w w') : TS w' lo q p gs l := h.kept fun g hg cs hh => has_call hh hb

theorem has_appG {w w' : World} {g base : Nat} {T e : TypeId} {cs : Array Value} {row : Option Nat} (h : Has w g T cs) (hg : w.grownBy w' row) (hr : ∀ b, row = some b → base ≤ b ∧ ∃ cur, Has w b e cur) (hne : e ≠ T) : Has w' g T cs :=
  has_grown h hg (fun eq => by
    obtain ⟨_, cur, hc⟩ := hr g eq.symm
    have := hc.symm.trans h
    injection this with this; injection this with _ this _
    exact hne this)
set_option maxRecDepth 100000 in
set_option maxHeartbeats 4000000 in
theorem withI_any (w : World) (B lo : Nat) (z : Int) (F : List Int) (AF AB : Option Addr) (nF nB cF cB : Nat) (p : Option Addr) (gs : List Nat) (l : List Tr) (hnF : nF = F.length) (lf : F.length ≤ 1048576) (ll : l.length ≤ 1048576) (hB : B ≤ w.heap.size) (hF : IL w B AF F) (hT : TL w lo p gs l) :
    Calls Try.prog 58 #[.agg #[.int .i64 z, .slice AF nF cF, .slice AB nB cB], .pointer p] w (ColAns0 z F (l.map Tr.x) w) := by
  subst hnF
  obtain ⟨j0, hj0, hy0, hy1, hy2⟩ := info_parts boxInfo
  have HT := Lib.hid hT; have HF := Lib.hid hF; clear hT hF
  go_enter Try.func58, Try.ntmps58
  go_wp2_with fail
  generalize hW0 : (((w.alloc (.cells #[.int .i64 z, .slice AF F.length cF, .slice AB nB cB] 57)).alloc (.cells #[.int .i64 0, .slice none 0 0, .slice none 0 0] 57)).alloc (.cells #[] 65)) = w0
  have b0 : Below w.heap.size w w0 := by rw [← hW0]; exact bthen (bthen (balloc _ _) (balloc _ _)) (balloc _ _)
  have hs0 : w.heap.size + 3 ≤ w0.heap.size := by rw [← hW0]; simp
  have k0 : Has w0 w.heap.size 57 #[.int .i64 z, .slice AF F.length cF, .slice AB nB cB] := by rw [← hW0]; exact has_alloc (has_alloc (has_new _ _ _) _) _
  have k1 : Has w0 (w.heap.size + 1) 57 #[.int .i64 0, .slice none 0 0, .slice none 0 0] := by rw [← hW0]; have := has_alloc (has_new (w.alloc (.cells #[.int .i64 z, .slice AF F.length cF, .slice AB nB cB] 57)) 57 #[.int .i64 0, .slice none 0 0, .slice none 0 0]) (.cells #[] 65); simpa using this
  have own0 : w0.ownsRow (w.heap.size + 2) 65 4 (.slice (some ⟨w.heap.size + 1 + 1, 0, none⟩) 0 0) 0 [] := by rw [← hW0]; exact owns_at _ _ _ _ _ (by simp) (Nat.le_refl _)
  clear hW0
  have K0 := Lib.hid k0; have K1 := Lib.hid k1; have OW0 := Lib.hid own0; have BB := Lib.hid b0; have HT0 := Lib.hid (HT.out.call b0); clear k0 k1 own0 b0
  go_loopw [5, 6] (fun bv tv wr => ∃ (P R : List Tr) (gs' : List Nat) (q : Option Addr) (A' : Option Addr) (c' : Nat), bv = .slice A' P.length c' ∧ tv = .pointer q ∧ P ++ R = l ∧ TL wr lo q gs' R ∧ wr.ownsRow (w.heap.size + 2) 65 4 (.slice A' P.length c') P.length (boxV (P.map Tr.x)) ∧ Below (w.heap.size + 2) w0 wr) (fun _ tv wr => tlLen wr tv)
  case atStart => exact ⟨[], l, gs, p, _, _, rfl, rfl, rfl, HT0.out, OW0.out, Below.refl _ _⟩
  case round =>
    obtain ⟨P, R, gs', q, A', c', rfl, rfl, hPR, hT, how, hb⟩ := hrel
    have hPl : P.length ≤ 1048576 := by have := congrArg List.length hPR; simp at this; omega
    have HPR := Lib.hid hPR; have HOW := Lib.hid how; have HBB := Lib.hid hb; clear hPR how
    have hsz := hb.size
    clear hb
    rcases R with _ | ⟨⟨⟨y0, y1, y2, y3⟩, fx⟩, r⟩
    · obtain ⟨rfl, rfl⟩ := hT.nil_inv
      clear hT
      have kA := has_below K0.out HBB.out (by omega)
      have e0 := has_cell kA 0 rfl; have e1 := has_cell kA 1 rfl
      have hlA := has_lt kA
      clear kA
      have hml : P.map Tr.x = l.map Tr.x := by rw [← HPR.out]; simp
      have HML := Lib.hid hml; clear hml
      have S0 : (fun W : World => (W.cell? ⟨w.heap.size, 0, none⟩ = some (.int .i64 z) ∧ W.cell? ⟨w.heap.size, 1, none⟩ = some (.slice AF F.length cF)) ∧ Below (w.heap.size + 1) wr W) wr.drew := ⟨⟨e0, e1⟩, (Below.refl _ _).drew⟩
      clear e0 e1
      go_upto_region 6 with (fail)
      refine wp_region_held_drew (S := (fun W : World => (W.cell? ⟨w.heap.size, 0, none⟩ = some (.int .i64 z) ∧ W.cell? ⟨w.heap.size, 1, none⟩ = some (.slice AF F.length cF)) ∧ Below (w.heap.size + 1) wr W)) (by kernel_rfl) S0 (fun _ => ?_)
      refine any_take (i := 0) (some 22) (.pointer (some ⟨w.heap.size, 0, none⟩)) rfl rfl (by kernel_rfl) (by kernel_rfl) (by kernel_rfl) (fun _ _ _ h => h) rfl (fun W hSw => ?_) (S0) ?_
      · (try dsimp only at hSw); go_simp <;> with_reducible rfl
      try simp only [Act.put, List.setIfInBounds_toArray, List.set_cons_zero, List.set_cons_succ]
      refine any_take (i := 1) (some 23) (.int .i64 z) rfl rfl (by kernel_rfl) (by kernel_rfl) (by kernel_rfl) (fun _ _ _ h => h) rfl (fun W hSw => ?_) (S0) ?_
      · (try dsimp only at hSw); go_simp <;> with_reducible rfl
      try simp only [Act.put, List.setIfInBounds_toArray, List.set_cons_zero, List.set_cons_succ]
      refine any_take (i := 2) (some 24) (.pointer (some ⟨w.heap.size, 1, none⟩)) rfl rfl (by kernel_rfl) (by kernel_rfl) (by kernel_rfl) (fun _ _ _ h => h) rfl (fun W hSw => ?_) (S0) ?_
      · (try dsimp only at hSw); go_simp <;> with_reducible rfl
      try simp only [Act.put, List.setIfInBounds_toArray, List.set_cons_zero, List.set_cons_succ]
      refine any_take (i := 3) (some 25) (.slice AF F.length cF) rfl rfl (by kernel_rfl) (by kernel_rfl) (by kernel_rfl) (fun _ _ _ h => h) rfl (fun W hSw => ?_) (S0) ?_
      · (try dsimp only at hSw); go_simp <;> with_reducible rfl
      try simp only [Act.put, List.setIfInBounds_toArray, List.set_cons_zero, List.set_cons_succ]
      refine any_take (i := 5) (some 27) (.slice A' P.length c') rfl rfl (by kernel_rfl) (by kernel_rfl) (by kernel_rfl) (fun _ _ _ h => h) rfl (fun W hSw => ?_) (S0) ?_
      · (try dsimp only at hSw); go_simp <;> with_reducible rfl
      try simp only [Act.put, List.setIfInBounds_toArray, List.set_cons_zero, List.set_cons_succ]
      refine wpAnyH_ready (rs := [4]) (by kernel_rfl) (by simp) ?_
      refine AllReadyH.cons rfl (fun K hK => ?_) AllReadyH.nil
      go_simp
      go_at_call 77
      refine (cloneInt_any wr.drew B AF cF F lf (show B ≤ wr.drew.heap.size by simp; omega) ((HF.out.later hB (BB.out.trans (HBB.out.mono (by omega)))).below (Below.refl _ _).drew)).mono ?_
      rintro e w5 ⟨A2, c2, rfl, ho, hb5⟩
      have hb9 : Below wr.heap.size wr w5 := ((Below.refl wr.heap.size wr).drew).trans hb5
      have S5 : (fun W : World => (W.cell? ⟨w.heap.size, 0, none⟩ = some (.int .i64 z) ∧ W.cell? ⟨w.heap.size, 1, none⟩ = some (.slice AF F.length cF)) ∧ Below (w.heap.size + 1) wr W) w5 := ⟨⟨(bold hb9 _ _ hlA).trans S0.1.1, (bold hb9 _ _ hlA).trans S0.1.2⟩, hb9.mono (by omega)⟩
      go_wp2_with fail
      refine hK.out _ _ S5 (fun _ => ?_)
      clear hK K
      try simp only [Act.put, List.setIfInBounds_toArray, List.set_cons_zero, List.set_cons_succ]
      refine any_take (i := 6) (some 28) (.agg #[.int .i64 z, .slice A2 F.length c2, .slice A' P.length c']) rfl rfl (by kernel_rfl) (by kernel_rfl) (by kernel_rfl) (fun _ _ _ h => h) rfl (fun W hSw => ?_) (S5) ?_
      · (try dsimp only at hSw); go_simp <;> with_reducible rfl
      try simp only [Act.put, List.setIfInBounds_toArray, List.set_cons_zero, List.set_cons_succ]
      have kR := has_call (has_below K1.out HBB.out (by omega)) hb9
      have y0 := has_cell kR 0 rfl; have y1 := has_cell kR 1 rfl; have y2 := has_cell kR 2 rfl; have f0 := has_free kR 0; have f1 := has_free kR 1; have f2 := has_free kR 2
      have hlR := has_lt kR
      have X1 := Lib.hid (set3 (u := .int .i64 z) (v := .slice A2 F.length c2) (x := .slice A' P.length c') kR)
      have hbel : Below w.heap.size w w5 := BB.out.trans ((HBB.out.mono (by omega)).trans (hb9.mono (by omega)))
      have hz9 := hb9.size
      have FIN := Lib.hid (ans_finr0 (w.heap.size + 1) (w.heap.size + 2) hbel (by omega) (by omega) (OR.more ho (by simp; omega)) ((or_of HOW.out).below hb9) (.int .i64 z) (.slice A2 F.length c2) (.slice A' P.length c'))
      refine wpAnyH_ready (rs := [7]) (by kernel_rfl) (by simp) ?_
      refine AllReadyH.cons rfl (fun K hK => ?_) AllReadyH.nil
      go_simp
      have hb7 : Below (w.heap.size + 1) w5 (((w5.setCell ⟨w.heap.size + 1, 0, none⟩ (.int .i64 z)).setCell ⟨w.heap.size + 1, 1, none⟩ (.slice A2 F.length c2)).setCell ⟨w.heap.size + 1, 2, none⟩ (.slice A' P.length c')) := (((Below.refl _ _).setCell (p := ⟨w.heap.size + 1, 0, none⟩) (Nat.le_refl _) _).setCell (p := ⟨w.heap.size + 1, 1, none⟩) (Nat.le_refl _) _).setCell (p := ⟨w.heap.size + 1, 2, none⟩) (Nat.le_refl _) _
      have S6 : (fun W : World => (W.cell? ⟨w.heap.size, 0, none⟩ = some (.int .i64 z) ∧ W.cell? ⟨w.heap.size, 1, none⟩ = some (.slice AF F.length cF)) ∧ Below (w.heap.size + 1) wr W) (((w5.setCell ⟨w.heap.size + 1, 0, none⟩ (.int .i64 z)).setCell ⟨w.heap.size + 1, 1, none⟩ (.slice A2 F.length c2)).setCell ⟨w.heap.size + 1, 2, none⟩ (.slice A' P.length c')) := ⟨⟨(hb7.cell (p := ⟨w.heap.size, 0, none⟩) (Nat.lt_succ_self _)).trans S5.1.1, (hb7.cell (p := ⟨w.heap.size, 1, none⟩) (Nat.lt_succ_self _)).trans S5.1.2⟩, S5.2.trans hb7⟩
      refine hK.out _ _ S6 (fun _ => ?_)
      clear hK K y0 y1 y2 f0 f1 f2
      try simp only [Act.put, List.setIfInBounds_toArray, List.set_cons_zero, List.set_cons_succ]
      refine wpAnyH_done (by kernel_rfl) ?_ _
      go_wp2
      have g0' := has_cell X1.out 0 rfl
      have g1' := has_cell X1.out 1 rfl
      have g2' := has_cell X1.out 2 rfl
      have hfin := FIN.out
      have hPl : P.length = (l.map Tr.x).length := by rw [← HML.out]; simp
      rw [HML.out] at hfin
      exact bodyPost_ret (v := .agg #[.int .i64 z, .slice A2 F.length c2, .slice A' P.length c']) (by simp [results, Try.results58, go_sem, g0', g1', g2']) rfl ⟨A2, A', c2, c', by rw [hPl], hfin⟩
    · obtain ⟨g2, gs2, rfl, rfl, hlo, hni, q2, hH2, hT2⟩ := hT.cons_inv
      have hln := tlLen_eq hT
      have HT2 := Lib.hid hT2; have HH2 := Lib.hid hH2; have HLN := Lib.hid hln; clear hT hT2 hln
      have hl2 := has_lt hH2
      have d0 : wr.cell? ⟨g2, 0, none⟩ = some (.int .i64 y0) := has_cell hH2 0 rfl
      have d1 : wr.cell? ⟨g2, 1, none⟩ = some (.int .i64 y1) := has_cell hH2 1 rfl
      have d2 : wr.cell? ⟨g2, 2, none⟩ = some (.int .i64 y2) := has_cell hH2 2 rfl
      have d3 : wr.cell? ⟨g2, 3, none⟩ = some (.bool y3) := has_cell hH2 3 rfl
      clear hH2
      have hPl2 : P.length + 1 ≤ 1048576 := by have := congrArg List.length HPR.out; simp at this; omega
      go_wp2_with (at_builtin; go_must (refine list_app rfl _ _ 55 rfl (w.heap.size + 2) 65 j0 (.agg #[.int .i64 0, .int .i64 0, .int .i64 0, .bool false]) 4 32 Try.underlying55 hj0 hy0 hy1 hy2 rfl (by decide) _ P.length _ rfl (HOW.out.alloc _) (some ⟨wr.heap.size, 0, none⟩) 1 1 (boxC ⟨y0, y1, y2, y3⟩) rfl (src_bx (x := ⟨y0, y1, y2, y3⟩) (has_new _ _ _)) (by unfold maxLen; omega) (by omega) (by simp; omega) ?_))
      intro A4 c4 w4 hown4 hgrow4 hrow4
      have hba := balloc wr (.cells #[.int .i64 y0, .int .i64 y1, .int .i64 y2, .bool y3] 65)
      have hT4 := (HT2.out.call hba).app hgrow4 hrow4 (by decide)
      have hH4 := has_appG (has_call HH2.out hba) hgrow4 hrow4 (by decide)
      have d5 : w4.cell? ⟨g2, 5, none⟩ = some (.pointer q2) := has_cell hH4 5 rfl
      have hb4 : Below (w.heap.size + 2) w0 w4 := (HBB.out.alloc (by omega) _).grown hgrow4 (by simp; omega) (fun b hb => (hrow4 b hb).1)
      have hl4 := has_lt hH4
      have HT4 := Lib.hid hT4; have HB4 := Lib.hid hb4; have OW4 := Lib.hid hown4; clear hT4 hb4 hown4 hgrow4 hrow4 hba hH4 d0 d1 d2 d3
      go_wp2
      go_roundw
      case rel =>
        refine ⟨P ++ [⟨⟨y0, y1, y2, y3⟩, fx⟩], r, gs2, q2, A4, c4, by rw [List.length_append]; rfl, rfl, by rw [← HPR.out]; simp, HT4.out, ?_, HB4.out⟩
        have := OW4.out
        rw [List.length_append, List.map_append, List.map_singleton, boxV_snocG]
        exact this
      case measure =>
        have h1 := tlLen_eq HT4.out
        have h2 := HLN.out
        simp [h1, h2]
end Go.Proofs.Ythfpjfekemelaaa
namespace Go.Proofs.Ythfpjfekemelaaa
open Go.RowKit
set_option linter.unusedVariables false

/-- the tiers from a gap on, behind the filling -/
def FillPost (w : World) (lo g : Nat) (gs : List Nat) (x : Bx) (fx : Bool) (p size : Int) (l : List Bx) (e : Ending) (w' : World) : Prop :=
  ∃ m gs' l', e = .returned (.tuple #[]) ∧ Has w' g 85 (tierC ⟨⟨x.low, size, p, x.jam⟩, fx⟩ m) ∧ TL w' lo m gs' l' ∧ l'.map Tr.x = l ∧ (∀ b ∈ gs', b ∈ gs ∨ w.heap.size ≤ b) ∧ Only w g w'
theorem tier_set3 {w : World} {g : Nat} {t : Tr} {m : Option Addr} (h : Has w g 85 (tierC t m)) (s p : Int) (m' : Option Addr) :
    Has (((w.setCell ⟨g, 1, none⟩ (.int .i64 s)).setCell ⟨g, 2, none⟩ (.int .i64 p)).setCell ⟨g, 5, none⟩ (.pointer m')) g 85 (tierC ⟨⟨t.x.low, s, p, t.x.jam⟩, t.fx⟩ m') := by
  have := has_set (has_set (has_set h 1 (.int .i64 s)) 2 (.int .i64 p)) 5 (.pointer m')
  simpa [tierC] using this

theorem sumZ_app (l r : List Bx) : sumZ (l ++ r) = sumZ l + sumZ r := by simp [sumZ]
/-- what is left of a gap -/
def restL (lo size all : Int) : List Bx := if size < all then [⟨lo + size, all - size, 0, false⟩] else []
theorem only_trans2 {a w w' : World} {g : Nat} (h : Only a g w) (hb : Below w.heap.size w w') : Only a g w' :=
  ⟨hb.os.trans h.os, hb.tape.trans h.tape, hb.output.trans h.output, Nat.le_trans h.size hb.size, fun k hk hne => (hb.block k (Nat.lt_of_lt_of_le hk h.size)).trans (h.block k hk hne)⟩
set_option maxRecDepth 100000 in
set_option maxHeartbeats 2000000 in
theorem fill_any (w : World) (lo g : Nat) (gs : List Nat) (x : Bx) (fx : Bool) (q : Option Addr) (F : List Int) (L : List Bx) (p size : Int)
    (hH : Has w g 85 (tierC ⟨x, fx⟩ q)) (hT : TL w lo q gs (L.map (trOf F))) (hlo : lo ≤ w.heap.size) (hni : g ∉ gs) (hs : ∀ y ∈ L, 1 ≤ y.size) (h0 : 1 ≤ x.size) (h24 : x.size + sumZ L ≤ 24) (hsz : 0 ≤ size) (hle : size ≤ x.size + runZ F L) (hl0 : 0 ≤ x.low) (hl1 : x.low ≤ 24) :
    Calls Try.prog 57 #[.pointer (some ⟨g, 0, none⟩), .int .i64 p, .int .i64 size] w (FillPost w lo g gs x fx p size (restL x.low size (x.size + runZ F L) ++ L.drop (runN F L))) := by
  obtain ⟨x0, x1, x2, x3⟩ := x
  dsimp only at h0 h24 hle hl0 hl1 ⊢
  have hz := runZ_take F L
  have hz2 : 0 ≤ sumZ (L.take (runN F L)) := sumZ_pos fun y hy => hs y (List.mem_of_mem_take hy)
  have hz3 : sumZ (L.take (runN F L)) ≤ sumZ L := by
    have h1 := sumZ_pos (L := L.drop (runN F L)) fun y hy => hs y (List.mem_of_mem_drop hy)
    have h2 := sumZ_app (L.take (runN F L)) (L.drop (runN F L))
    rw [List.take_append_drop] at h2
    omega
  have hr0 : 0 ≤ runZ F L ∧ runZ F L ≤ sumZ L := by omega
  have hmm : (L.drop (runN F L)).map (trOf F) = (L.drop (runN F L)).map (trOf F) := rfl
  have hmx : ((L.drop (runN F L)).map (trOf F)).map Tr.x = L.drop (runN F L) := by rw [List.map_map]; conv => rhs; rw [← List.map_id (L.drop (runN F L))]
                                                                                   rfl
  have hdm : ∀ b ∈ gs.drop (runN F L), b ∈ gs := fun b hb => List.mem_of_mem_drop hb
  have HH := Lib.hid hH; have HT := Lib.hid hT; have HS := Lib.hid hs; have HMX := Lib.hid hmx; have HDM := Lib.hid hdm; have HNI := Lib.hid hni
  clear hT hs hz hz2 hz3 hmm hmx hdm hni
  have hlg := has_lt hH
  clear hH
  go_enter Try.func57, Try.ntmps57
  go_wp2_with fail
  refine (tgap_any w lo g gs ⟨x0, x1, x2, x3⟩ fx q F L HH.out HT.out HS.out h0 h24).mono ?_
  rintro e w' ⟨p3, rfl, hT3, n3, rfl⟩
  dsimp only
  have hlt3 := hT3.lt
  generalize runZ F L = rz at *
  have hw3 : (w.drewN n3).heap.size = w.heap.size := rfl
  have HT3 := Lib.hid (hT3.kept (w' := w.drewN n3) fun g _ cs hh => has_drewN hh n3); have HH3 := Lib.hid (has_drewN HH.out n3); have HO := Lib.hid (only_drewN (only_refl w g) n3); clear hT3
  obtain ⟨w3, hx3⟩ : ∃ w3, w3 = w.drewN n3 := ⟨_, rfl⟩
  have hz3 : w3.heap.size ≤ w.heap.size ∧ w.heap.size ≤ w3.heap.size := by rw [hx3]; exact ⟨Nat.le_refl _, Nat.le_refl _⟩
  rw [← hx3] at HT3 HH3 HO ⊢
  clear hx3 hw3
  obtain ⟨hz3a, hz3b⟩ := hz3
  have c0 : w3.cell? ⟨g, 0, none⟩ = some (.int .i64 x0) := has_cell HH3.out 0 rfl
  have c1 : w3.cell? ⟨g, 1, none⟩ = some (.int .i64 x1) := has_cell HH3.out 1 rfl
  have c2 : w3.cell? ⟨g, 2, none⟩ = some (.int .i64 x2) := has_cell HH3.out 2 rfl
  have c5 : w3.cell? ⟨g, 5, none⟩ = some (.pointer q) := has_cell HH3.out 5 rfl
  have f1 := has_free HH3.out 1; have f2 := has_free HH3.out 2; have f5 := has_free HH3.out 5
  by_cases hlt : size < x1 + rz
  · have t1 : decide (size < x1 + rz) = true := by simpa using hlt
    have hrl : restL x0 size (x1 + rz) = [⟨x0 + size, x1 + rz - size, 0, false⟩] := if_pos hlt
    have HRL := Lib.hid hrl; clear hrl
    have HLT := Lib.hid hlt; clear hlt
    go_upto_region 3 with (fail)
    generalize hX : w3.alloc (.cells #[.int .i64 (x0 + size), .int .i64 (x1 + rz - size), .int .i64 0, .bool false, .bool false, .pointer p3] 85) = w4
    have b4 : Below w3.heap.size w3 w4 := by rw [← hX]; exact balloc _ _
    have kn : Has w4 w3.heap.size 85 (tierC ⟨⟨x0 + size, x1 + rz - size, 0, false⟩, false⟩ p3) := by rw [← hX]; exact has_new _ _ _
    clear hX c0 c1 c2 c5 f1 f2 f5
    have kg := has_call HH3.out b4
    have ht4 := HT3.out.call b4
    have ho4 := only_trans2 HO.out b4
    have hneq : g ≠ w3.heap.size := by omega
    have hnf : w3.heap.size ∉ gs.drop (runN F L) := fun hm => by have := (HT3.out.lt _ hm).2; omega
    have htn : TL w4 lo (some ⟨w3.heap.size, 0, none⟩) (w3.heap.size :: gs.drop (runN F L)) (⟨⟨x0 + size, x1 + rz - size, 0, false⟩, false⟩ :: (L.drop (runN F L)).map (trOf F)) := ⟨rfl, by omega, hnf, p3, kn, ht4⟩
    have hgn : g ∉ w3.heap.size :: gs.drop (runN F L) := fun hm => by
      rcases List.mem_cons.1 hm with e | e
      · exact hneq e
      · exact HNI.out (HDM.out _ e)
    have X1 := Lib.hid (tier_set3 kg size p (some ⟨w3.heap.size, 0, none⟩))
    have X2 := Lib.hid (((htn.set hgn 1 (.int .i64 size)).set hgn 2 (.int .i64 p)).set hgn 5 (.pointer (some ⟨w3.heap.size, 0, none⟩)))
    have X3 := Lib.hid (only_set (only_set (only_set ho4 1 (.int .i64 size)) 2 (.int .i64 p)) 5 (.pointer (some ⟨w3.heap.size, 0, none⟩)))
    have c1 : w4.cell? ⟨g, 1, none⟩ = some (.int .i64 x1) := has_cell kg 1 rfl
    have c2 : w4.cell? ⟨g, 2, none⟩ = some (.int .i64 x2) := has_cell kg 2 rfl
    have c5 : w4.cell? ⟨g, 5, none⟩ = some (.pointer q) := has_cell kg 5 rfl
    have f1 := has_free kg 1; have f2 := has_free kg 2; have f5 := has_free kg 5
    have hl4 := has_lt kg
    clear kn ht4 ho4 htn hgn hnf hlt3 b4 kg
    go_wp2
    go_end0
    refine ⟨some ⟨w3.heap.size, 0, none⟩, w3.heap.size :: gs.drop (runN F L), _, rfl, X1.out, X2.out, ?_, ?_, X3.out⟩
    · rw [List.map_cons, HMX.out, HRL.out]; rfl
    · intro b hb
      rcases List.mem_cons.1 hb with e | e
      · right; omega
      · left; exact HDM.out b e
  · have t1 : decide (size < x1 + rz) = false := by simpa using hlt
    have hrl : restL x0 size (x1 + rz) = [] := if_neg hlt
    have HRL := Lib.hid hrl; clear hrl
    have HLT := Lib.hid hlt; clear hlt
    have hgn : g ∉ gs.drop (runN F L) := fun hm => HNI.out (HDM.out _ hm)
    have X1 := Lib.hid (tier_set3 HH3.out size p p3)
    have X2 := Lib.hid (((HT3.out.set hgn 1 (.int .i64 size)).set hgn 2 (.int .i64 p)).set hgn 5 (.pointer p3))
    have X3 := Lib.hid (only_set (only_set (only_set HO.out 1 (.int .i64 size)) 2 (.int .i64 p)) 5 (.pointer p3))
    have hl4 := has_lt HH3.out
    clear hgn hlt3
    go_wp2
    go_end0
    exact ⟨p3, gs.drop (runN F L), _, rfl, X1.out, X2.out, by rw [HMX.out, HRL.out]; rfl, fun b hb => .inl (HDM.out b hb), X3.out⟩
end Go.Proofs.Ythfpjfekemelaaa
namespace Go.Proofs.Ythfpjfekemelaaa
open Go.RowKit
set_option linter.unusedVariables false

theorem map_trx (F : List Int) (L : List Bx) : (L.map (trOf F)).map Tr.x = L := by
  rw [List.map_map]; conv => rhs; rw [← List.map_id L]
  rfl
theorem newB_eq (g : Gp) (p size : Int) : newB g p size = ⟨g.low, size, p, false⟩ :: restL g.low size g.size := rfl
theorem TS.only {w w' : World} {lo g : Nat} {q : Option Addr} {gs : List Nat} {p : Option Addr} {l : List Tr} (h : TS w lo q p gs l) (ho : Only w g w') (hg : g ∉ gs) : TS w' lo q p gs l :=
  h.kept fun g' hg' cs hh => (ho.block g' (has_lt hh) (fun e => hg (by have e' : g' = g := by injection e
                                                                       rw [← e']; exact hg'))).trans hh
set_option maxRecDepth 100000 in
set_option maxHeartbeats 4000000 in
theorem filledI_any (w : World) (B : Nat) (x : Cl) (g0 g1 g2 p size : Int) (Q : List Bx) (y : Bx) (r : List Bx) (lf : x.F.length ≤ 1048576) (hB : B ≤ w.heap.size) (hV : CV w B x) (hok : ColOk x.z x.F x.L)
    (hL : x.L = Q ++ y :: r) (ho : opn y = true) (hg1 : g1 = y.low) (hg2 : g2 = y.size + runZ x.F r) (hQ : ∀ b ∈ Q, b.low < y.low) (hsz : 0 ≤ size) (hle : size ≤ g2) :
    Calls Try.prog 30 #[.agg #[.int .i64 x.z, .slice x.AF x.F.length x.cF, .slice x.AB x.L.length x.cB], .agg #[.int .i64 g0, .int .i64 g1, .int .i64 g2], .int .i64 p, .int .i64 size] w (ColAns0 x.z x.F (Q ++ newB ⟨g0, g1, g2⟩ p size ++ r.drop (runN x.F r)) w) := by
  obtain ⟨hcs, hc24, hcl⟩ := col_sum hok
  have hlow : ∀ b ∈ x.L, 0 ≤ b.low ∧ b.low ≤ 24 := fun b hb => by have := con_low (con_all hok.box) b hb; omega
  have HV := Lib.hid hV; have HL := Lib.hid hL; have HO := Lib.hid ho; have HQ := Lib.hid hQ; have HG := Lib.hid (And.intro hg1 hg2); have HCS := Lib.hid hcs; have HLW := Lib.hid hlow
  clear hV hL ho hQ hok hcs hlow hg1 hg2
  go_enter Try.func30, Try.ntmps30
  go_wp2_with fail
  generalize hW0 : (((w.alloc (.cells #[.int .i64 x.z, .slice x.AF x.F.length x.cF, .slice x.AB x.L.length x.cB] 57)).alloc (.cells #[.int .i64 g0, .int .i64 g1, .int .i64 g2] 28)).alloc (.cells #[.int .i64 0, .slice none 0 0, .slice none 0 0] 57)) = w0
  have b0 : Below w.heap.size w w0 := by rw [← hW0]; exact bthen (bthen (balloc _ _) (balloc _ _)) (balloc _ _)
  have hs0 : w.heap.size + 3 ≤ w0.heap.size := by rw [← hW0]; simp
  have k0 : Has w0 w.heap.size 57 #[.int .i64 x.z, .slice x.AF x.F.length x.cF, .slice x.AB x.L.length x.cB] := by rw [← hW0]; exact has_alloc (has_alloc (has_new _ _ _) _) _
  have k1 : Has w0 (w.heap.size + 1) 28 #[.int .i64 g0, .int .i64 g1, .int .i64 g2] := by rw [← hW0]; have := has_alloc (has_new (w.alloc (.cells #[.int .i64 x.z, .slice x.AF x.F.length x.cF, .slice x.AB x.L.length x.cB] 57)) 28 #[.int .i64 g0, .int .i64 g1, .int .i64 g2]) (.cells #[.int .i64 0, .slice none 0 0, .slice none 0 0] 57); simpa using this
  have k2 : Has w0 (w.heap.size + 2) 57 #[.int .i64 0, .slice none 0 0, .slice none 0 0] := by rw [← hW0]; have := has_new ((w.alloc (.cells #[.int .i64 x.z, .slice x.AF x.F.length x.cF, .slice x.AB x.L.length x.cB] 57)).alloc (.cells #[.int .i64 g0, .int .i64 g1, .int .i64 g2] 28)) 57 #[.int .i64 0, .slice none 0 0, .slice none 0 0]; simpa using this
  clear hW0
  have K0 := Lib.hid k0; have K1 := Lib.hid k1; have K2 := Lib.hid k2; clear k0 k1 k2
  refine (stack_any w0 B x (by omega) (HV.out.later hB b0)).mono ?_
  rintro e w1 ⟨bp, gs, rfl, hT, hb1⟩
  have BB := Lib.hid b0; have B1 := Lib.hid hb1; have HT := Lib.hid hT; clear b0 hT
  have hz1 := hb1.size
  clear hb1
  go_wp2_with fail
  go_loopw [10] (fun tv wr => ∃ (P S : List Bx) (gs1 gs2 : List Nat) (q : Option Addr), tv = .pointer q ∧ Q = P ++ S ∧ TS wr w0.heap.size q bp gs1 (P.map (trOf x.F)) ∧ TL wr w0.heap.size q gs2 ((S ++ y :: r).map (trOf x.F)) ∧ gs = gs1 ++ gs2 ∧ Below w1.heap.size w1 wr) (fun tv wr => tlLen wr tv)
  case atStart => exact ⟨[], Q, [], gs, bp, rfl, rfl, rfl, by rw [← HL.out]; exact HT.out, rfl, Below.refl _ _⟩
  case round =>
    obtain ⟨P, S, gs1, gs2, q, rfl, hPS, hTS, hT, hgs, hb⟩ := hrel
    have hszr := hb.size
    have HBB := Lib.hid (B1.out.trans (hb.mono hz1)); have HRB := Lib.hid hb; clear hb
    have HPS := Lib.hid hPS; have HTS := Lib.hid hTS; have HGS := Lib.hid hgs; clear hPS hTS hgs
    have kG := has_call K1.out HBB.out
    have q1 := has_cell kG 1 rfl
    have hlG := has_lt kG
    clear kG
    rcases S with _ | ⟨⟨s0, s1, s2, s3⟩, S'⟩
    · -- the gap's lowest box
      obtain ⟨y0, y1, y2, y3⟩ := y
      rw [List.nil_append, List.map_cons] at hT
      obtain ⟨g3, gs3, rfl, rfl, hlo, hni, q3, hH3, hT3⟩ := hT.cons_inv
      have hnd := (HT.out).nodup
      have HT3 := Lib.hid hT3; have HH3 := Lib.hid hH3; have HNI := Lib.hid hni; have HND := Lib.hid hnd; clear hT hT3 hni hnd
      have hl3 := has_lt hH3
      have d0 : wr.cell? ⟨g3, 0, none⟩ = some (.int .i64 y0) := has_cell hH3 0 rfl
      clear hH3
      have t1 : (y0 != g1) = false := by have := HG.out.1; simp [this]
      go_wp2
      go_quiet (fail)
      have kA := has_drewN (has_call K0.out HBB.out) nq
      have HH4 := Lib.hid (has_drewN HH3.out nq); have HT4 := Lib.hid (HT3.out.kept (w' := wr.drewN nq) fun g _ cs hh => has_drewN hh nq); have HTS4 := Lib.hid (HTS.out.kept (w' := wr.drewN nq) fun g _ cs hh => has_drewN hh nq); have HB4 := Lib.hid (below_drewN HBB.out nq)
      have hz4 : w0.heap.size ≤ (wr.drewN nq).heap.size := by show w0.heap.size ≤ wr.heap.size; omega
      have hl4 := has_lt HH4.out
      have HKA := Lib.hid kA; clear kA HH3 HT3 HTS HBB d0 q1
      generalize wr.drewN nq = w2 at *
      have hQP : Q = P := by have := HPS.out; simpa using this
      have hsum : y1 + sumZ r ≤ 24 ∧ 1 ≤ y1 ∧ (∀ b ∈ r, 1 ≤ b.size) ∧ 0 ≤ y0 ∧ y0 ≤ 24 := by
        have h1 := sumZ_app Q (⟨y0, y1, y2, y3⟩ :: r)
        rw [← HL.out, sumZ_cons] at h1
        have h2 := sumZ_pos (L := Q) fun b hb => HCS.out b (by rw [HL.out]; exact List.mem_append_left _ hb)
        have h3 := HLW.out ⟨y0, y1, y2, y3⟩ (by rw [HL.out]; simp)
        exact ⟨by dsimp only at h1; omega, HCS.out ⟨y0, y1, y2, y3⟩ (by rw [HL.out]; simp), fun b hb => HCS.out b (by rw [HL.out]; simp [hb]), h3.1, h3.2⟩
      obtain ⟨hsu1, hsu2, hsu3, hsu4, hsu5⟩ := hsum
      have HSU := Lib.hid hsu3; have HQP := Lib.hid hQP; clear hsu3 hQP
      have hle2 : size ≤ y1 + runZ x.F r := by have := HG.out.2; omega
      go_wp2_with fail
      refine (fill_any w2 w0.heap.size g3 gs3 ⟨y0, y1, y2, y3⟩ _ q3 x.F r p size HH4.out HT4.out hz4 HNI.out HSU.out hsu2 hsu1 hsz hle2 hsu4 hsu5).mono ?_
      rintro e w3 ⟨m, gs', l', rfl, hg3, hT', hl', hsub, honly⟩
      have hlo3 := (HT4.out.lt)
      have hne3 : w.heap.size ≠ g3 := by omega
      have hz3 := honly.size
      have kA3 := has_only HKA.out honly hne3
      have e0 := has_cell kA3 0 rfl; have e1 := has_cell kA3 1 rfl; have e2 := has_cell kA3 2 rfl
      have hlA := has_lt kA3
      have hgn : g3 ∉ gs' := fun hm => by
        rcases hsub g3 hm with h | h
        · exact HNI.out h
        · omega
      have hnd := HND.out
      rw [HGS.out] at hnd
      obtain ⟨hn1, hn2, hn3⟩ := List.nodup_append.1 hnd
      have hg1 : g3 ∉ gs1 := fun hm => hn3 g3 hm g3 List.mem_cons_self rfl
      have hTS3 : TS w3 w0.heap.size (some ⟨g3, 0, none⟩) bp gs1 (P.map (trOf x.F)) := HTS4.out.only honly hg1
      have htl : TL w3 w0.heap.size (some ⟨g3, 0, none⟩) (g3 :: gs') (⟨⟨y0, size, p, y3⟩, x.F.contains y0⟩ :: l') := ⟨rfl, hlo, hgn, m, hg3, hT'⟩
      have hndd : (gs1 ++ g3 :: gs').Nodup := List.nodup_append.2 ⟨hn1, List.nodup_cons.2 ⟨hgn, hT'.nodup⟩, fun a ha b hb => by
        rcases List.mem_cons.1 hb with e | e
        · subst e; exact fun h => hg1 (h ▸ ha)
        · rcases hsub b e with h | h
          · exact hn3 a ha b (List.mem_cons_of_mem _ h)
          · intro h'; have := (HTS4.out.lt a ha).2; omega⟩
      have HALL := Lib.hid (hTS3.tl htl hndd)
      have hll : (P.map (trOf x.F) ++ ⟨⟨y0, size, p, y3⟩, x.F.contains y0⟩ :: l').map Tr.x = Q ++ newB ⟨g0, g1, g2⟩ p size ++ r.drop (runN x.F r) := by
        rw [List.map_append, map_trx, List.map_cons, hl', newB_eq, HQP.out]
        have h1 := (opn_zero HO.out).2
        have h2 := HG.out.1
        have h3 := HG.out.2
        dsimp only at h1 h2 h3 ⊢
        subst h1; rw [h2, h3]; simp
      have hlen : (P.map (trOf x.F) ++ (⟨⟨y0, size, p, y3⟩, x.F.contains y0⟩ : Tr) :: l').length ≤ 1048576 := by
        have h1 := congrArg List.length hl'
        have h2 := congrArg List.length HL.out
        have h3 : (restL y0 size (y1 + runZ x.F r)).length ≤ 1 := by unfold restL; split <;> simp
        have h4 := congrArg List.length HQP.out
        simp only [List.length_map, List.length_append, List.length_cons, List.length_drop] at h1 h2 ⊢
        omega
      have HLL := Lib.hid hll; clear hll
      generalize hLT : P.map (trOf x.F) ++ (⟨⟨y0, size, p, y3⟩, x.F.contains y0⟩ : Tr) :: l' = LT at *
      have hbw3 : Below w0.heap.size w0 w3 := ⟨honly.os.trans HB4.out.os, honly.tape.trans HB4.out.tape, honly.output.trans HB4.out.output, Nat.le_trans HB4.out.size hz3, fun k hk => (honly.block k (Nat.lt_of_lt_of_le hk hz4) (fun e => by injection e; omega)).trans (HB4.out.block k hk)⟩
      have HF3 := Lib.hid ((HV.out.later hB BB.out).f.below (hbw3.mono (by omega)))
      have HBW := Lib.hid hbw3
      have HKA3 := Lib.hid kA3
      clear hLT htl hndd hTS3 hn1 hn2 hn3 hnd hg1 hgn hg3 hT' hl' hsub honly kA3 hlo3
      go_wp2_with fail
      refine (withI_any w3 B w0.heap.size x.z x.F x.AF x.AB _ _ x.cF x.cB bp (gs1 ++ g3 :: gs') LT rfl lf hlen (by omega) HF3.out HALL.out).mono ?_
      rintro e w4 ⟨A2, A3, c2, c3, rfl, hP, hQ', hb4⟩
      rw [HLL.out] at hQ' ⊢
      generalize hNL : Q ++ newB ⟨g0, g1, g2⟩ p size ++ r.drop (runN x.F r) = NL at *
      clear e0 e1 e2 hNL
      have kR := has_call (has_below K2.out HBW.out (by omega)) hb4
      have y0' := has_cell kR 0 rfl; have y1' := has_cell kR 1 rfl; have y2' := has_cell kR 2 rfl; have f0 := has_free kR 0; have f1 := has_free kR 1; have f2 := has_free kR 2
      have hlR := has_lt kR
      have X1 := Lib.hid (set3 (u := .int .i64 x.z) (v := .slice A2 x.F.length c2) (x := .slice A3 NL.length c3) kR)
      have hzz := hb4.size
      have hbel : Below w.heap.size w w4 := BB.out.trans ((HBW.out.mono (by omega)).trans (hb4.mono (by omega)))
      have FIN := Lib.hid (ans_finr0 (w.heap.size + 2) w0.heap.size hbel (by omega) (by omega) (hP.more (by omega)) (hQ'.more (by omega)) (.int .i64 x.z) (.slice A2 x.F.length c2) (.slice A3 NL.length c3))
      clear kR hP hQ' hbel
      go_wp2_with fail
      have g0' := has_cell X1.out 0 rfl
      have g1' := has_cell X1.out 1 rfl
      have g2' := has_cell X1.out 2 rfl
      exact bodyPost_ret (v := .agg #[.int .i64 x.z, .slice A2 x.F.length c2, .slice A3 NL.length c3]) (by simp [results, Try.results30, go_sem, g0', g1', g2']) rfl ⟨A2, A3, c2, c3, rfl, FIN.out⟩
    · rw [List.cons_append, List.map_cons] at hT
      obtain ⟨g3, gs3, rfl, rfl, hlo, hni, q3, hH3, hT3⟩ := hT.cons_inv
      have hln := tlLen_eq hT
      have HT3 := Lib.hid hT3; have HH3 := Lib.hid hH3; have HLN := Lib.hid hln; have HLO := Lib.hid hlo; clear hT hT3 hni hln
      have hl3 := has_lt hH3
      have d0 : wr.cell? ⟨g3, 0, none⟩ = some (.int .i64 s0) := has_cell hH3 0 rfl
      clear hH3
      have hlt : s0 < y.low := HQ.out ⟨s0, s1, s2, s3⟩ (by rw [HPS.out]; simp)
      have t1 : (s0 != g1) = true := by have := HG.out.1; simp; omega
      clear hlt
      go_wp2
      go_quiet (fail)
      have HH4 := Lib.hid (has_drewN HH3.out nq); have HT4 := Lib.hid (HT3.out.kept (w' := wr.drewN nq) fun g _ cs hh => has_drewN hh nq); have HTS4 := Lib.hid (HTS.out.kept (w' := wr.drewN nq) fun g _ cs hh => has_drewN hh nq); have HB4 := Lib.hid (below_drewN HRB.out nq)
      have hl4 := has_lt HH4.out
      have d5 : (wr.drewN nq).cell? ⟨g3, 5, none⟩ = some (.pointer q3) := has_cell HH4.out 5 rfl
      go_wp2
      go_roundw
      case rel => exact ⟨P ++ [⟨s0, s1, s2, s3⟩], S', gs1 ++ [g3], gs3, q3, rfl, by rw [HPS.out]; simp, by rw [List.map_append]; exact TS.snoc rfl HLO.out HH4.out HTS4.out, HT4.out, by rw [HGS.out]; simp, HB4.out⟩
      case measure =>
        have h1 := tlLen_eq HT4.out
        have h2 := HLN.out
        simp at h2
        simp [h1, h2]

noncomputable def clrO (z : Int) (F : List Int) (L : List Bx) : List Bx := by
  classical exact if ColOk z F L then clrL F L else L
theorem clrO_ok {z : Int} {F : List Int} {L : List Bx} (h : ColOk z F L) : clrO z F L = clrL F L := by unfold clrO; exact if_pos h
theorem clrO_no {z : Int} {F : List Int} {L : List Bx} (h : ¬ ColOk z F L) : clrO z F L = L := by unfold clrO; exact if_neg h
theorem clrC_len (F : List Int) : ∀ (L : List Bx) (cur : Option Bx), (clrC F cur L).length ≤ cur.toList.length + L.length
  | [], cur => by simp [clrC]
  | x :: r, cur => by
    unfold clrC
    split
    · split
      · have := clrC_len F r (some x); simp at this ⊢; omega
      · split
        · have := clrC_len F r (some x); simp at this ⊢; omega
        · rename_i b _; have := clrC_len F r (some ⟨b.low, b.size + x.size, b.par, b.jam⟩); simp at this ⊢; omega
    · have := clrC_len F r none; simp at this ⊢; omega
theorem clrO_len (z : Int) (F : List Int) (L : List Bx) : (clrO z F L).length ≤ L.length := by
  by_cases h : ColOk z F L
  · rw [clrO_ok h]; have := clrC_len F L none; simpa [clrL] using this
  · rw [clrO_no h]; exact Nat.le_refl _
def clrR (z : Int) (F : List Int) (L : List Bx) (z' : Int) (F' : List Int) (L' : List Bx) : Prop := z' = z ∧ F' = F ∧ L' = clrO z F L
theorem clr_det {z : Int} {F : List Int} {L : List Bx} {z1 z2 : Int} {F1 F2 : List Int} {L1 L2 : List Bx} (h1 : clrR z F L z1 F1 L1) (h2 : clrR z F L z2 F2 L2) : z1 = z2 ∧ F1 = F2 ∧ L1 = L2 :=
  ⟨h1.1.trans h2.1.symm, h1.2.1.trans h2.2.1.symm, h1.2.2.trans h2.2.2.symm⟩
/-- the answer is a column of the call's own, of which R holds -/
def ColAnsN (R : Int → List Int → List Bx → Prop) (w : World) (e : Ending) (w' : World) : Prop :=
  ∃ z' F' L' A2 A3 n2 n3, e = .returned (.agg #[.int .i64 z', .slice A2 F'.length n2, .slice A3 L'.length n3]) ∧ R z' F' L' ∧ F'.length ≤ 1048576 ∧ L'.length ≤ 1048576 ∧ OR w' w.heap.size 3 A2 (intV F') ∧ OR w' w.heap.size 65 A3 (boxV L') ∧ Below w.heap.size w w'

end Go.Proofs.Ythfpjfekemelaaa
namespace Go.Proofs.Ythfpjfekemelaaa
open Go.RowKit
set_option linter.unusedVariables false

theorem cell_farN {w : World} {g q : Nat} (h : q ≠ g) (o i j k : Nat) (u v x : Value) : (((w.setCell ⟨g, i, none⟩ u).setCell ⟨g, j, none⟩ v).setCell ⟨g, k, none⟩ x).cell? ⟨q, o, none⟩ = w.cell? ⟨q, o, none⟩ := by
  rw [World.cell?_setCell_other _ _ _ _ (fun e => by injection e; omega), World.cell?_setCell_other _ _ _ _ (fun e => by injection e; omega), World.cell?_setCell_other _ _ _ _ (fun e => by injection e; omega)]
def fillAll (L : List Bx) (G : List Gp) : List Bx := G.foldl (fun out g => fillL g 0 g.size out) L
theorem fillAll_succ {L : List Bx} {G : List Gp} {k : Nat} {g : Gp} (h : G[k]? = some g) : fillAll L (G.take (k + 1)) = fillL g 0 g.size (fillAll L (G.take k)) := by
  unfold fillAll; rw [List.take_add_one, h]; simp
theorem fillL_len1 {g : Gp} {p : Int} (hg : 1 ≤ g.size) (L : List Bx) : (fillL g p g.size L).length ≤ L.length := by
  induction L with
  | nil => simp [fillL]
  | cons x r ih =>
    unfold fillL at ih ⊢
    rw [List.flatMap_cons, List.length_append]
    have : (fillB g p g.size x).length ≤ 1 := by
      unfold fillB
      by_cases h : x.low = g.low
      · rw [if_pos h, if_neg (by omega), if_neg (by omega)]; simp
      · rw [if_neg h]; split <;> simp
    rw [List.length_cons]; omega
theorem fillAll_len {G : List Gp} (hg : ∀ g ∈ G, 1 ≤ g.size) (L : List Bx) : ∀ k, k ≤ G.length → (fillAll L (G.take k)).length ≤ L.length
  | 0, _ => by simp [fillAll]
  | k + 1, hk => by
    have h := List.getElem?_eq_getElem (l := G) (i := k) (by omega)
    rw [fillAll_succ h]
    exact Nat.le_trans (fillL_len1 (hg _ (List.getElem_mem _)) _) (fillAll_len hg L k (by omega))
theorem gapsO_bd {z : Int} {F : List Int} {L : List Bx} : ∀ g ∈ gapsO z F L, 0 ≤ g.low ∧ g.low ≤ 24 ∧ 1 ≤ g.size ∧ g.size ≤ 24 := fun g hg => by
  by_cases h : ColOk z F L
  · rw [gapsO_ok h] at hg
    obtain ⟨hcs, hc24, hcl⟩ := col_sum h
    obtain ⟨Q, y, r, e1, e2, rfl, e4, a', e5⟩ := gap_at F 0 L.length L [] 0 (Nat.le_refl _) (con_all h.box) (fun b hb => by cases hb) g hg
    rw [List.nil_append] at e1
    have h1 := con_low (con_all h.box) y (by rw [e1]; simp)
    have h2 := hcs y (by rw [e1]; simp)
    have h3 := sumZ_app Q (y :: r)
    rw [← e1, sumZ_cons] at h3
    have h4 := sumZ_pos (L := Q) fun b hb => hcs b (by rw [e1]; exact List.mem_append_left _ hb)
    have h5 := runZ_take F r
    have h6 : 0 ≤ sumZ (r.take (runN F r)) := sumZ_pos fun b hb => hcs b (by rw [e1]; simp [List.mem_of_mem_take hb])
    have h7 : 0 ≤ sumZ (r.drop (runN F r)) := sumZ_pos fun b hb => hcs b (by rw [e1]; simp [List.mem_of_mem_drop hb])
    have h8 := sumZ_app (r.take (runN F r)) (r.drop (runN F r))
    rw [List.take_append_drop] at h8
    dsimp only
    omega
  · rw [gapsO_no h] at hg; cases hg
theorem fillAll_clr (z : Int) (F : List Int) (L : List Bx) : fillAll L (gapsO z F L) = clrO z F L := by
  by_cases h : ColOk z F L
  · rw [gapsO_ok h, clrO_ok h]
    have := fill_all F 0 L.length L [] 0 (Nat.le_refl _) (con_all h.box) (fun b hb => by cases hb)
    simpa [fillAll] using this
  · rw [gapsO_no h, clrO_no h]; rfl

end Go.Proofs.Ythfpjfekemelaaa
